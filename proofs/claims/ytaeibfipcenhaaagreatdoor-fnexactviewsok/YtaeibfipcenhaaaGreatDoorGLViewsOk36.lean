/- Own texts, joined: contracts that the law's proof goes by. -/
import Derived.Test.YtaeibfipcenhaaaGreatDoorGLViewsOk2
import Derived.Below
import Derived.Handy
import Derived.LaidEql
import Derived.WideKeyRuns
import Derived.MapKept
import Derived.Carry
import Derived.Deep.AppendLies
import Derived.Test.YtaeibfipcenhaaaGreatDoorGLViewsOk25
namespace Go.Proofs.YtaeibfipcenhaaaGreatDoor
open Go.RowKit Go.Deep
set_option linter.unusedVariables false
/-- block b has cells, and may be written. -/
def Fr (w : World) (b : Nat) : Prop := (∃ c t l, w.heap[b]? = some (.cells c t l)) ∧ ∀ o, w.frozen? ⟨b, o, none⟩ = false
theorem Fr.keep {w w' : World} {b : Nat} (h : Fr w b) (e : w'.heap[b]? = w.heap[b]?) : Fr w' b :=
  ⟨by rw [e]; exact h.1, fun o => by simp only [World.frozen?, e]; exact h.2 o⟩
theorem sameAddr_no {P : Program} (w : World) {a b : Addr} (hne : a ≠ b) (ha : Fr w a.block) (hb : Fr w b.block) : (sameAddr a b).run P w = .ok false w := by
  by_cases hbl : a.block = b.block
  · simp [sameAddr, hbl, hne]
  · obtain ⟨⟨ca, ta, ⟨la, la'⟩, ha⟩, fa⟩ := ha
    obtain ⟨⟨cb, tb, ⟨lb, lb'⟩, hb⟩, fb⟩ := hb
    have a0 := fa a.off
    have a1 := fa ca.size
    have b0 := fb b.off
    have b1 := fb cb.size
    simp only [World.frozen?, ha, hb] at a0 a1 b0 b1
    simp [sameAddr, hbl, World.frozen?, ha, hb, noView, viewAt, World.shape?, mayBeOne, stringish, a0, a1, b0, b1]
theorem getD_of {α : Type} {l : List α} {j : Nat} {x : α} (h : l[j]? = some x) (z : α) : l.getD j z = x := by rw [List.getD_eq_getElem?_getD, h]; rfl
theorem flat_getD : ∀ (G : List (List Nat)), ((List.range G.length).map fun j => G.getD j []).flatten = G.flatten
  | [] => rfl
  | g :: G => by
    rw [List.length_cons, List.range_succ_eq_map, List.map_cons, List.flatten_cons, List.map_map, List.flatten_cons, ← flat_getD G]
    rfl
theorem own_keep2 {w w' : World} {N e n s : Nat} {v : Value} {xs : List Value} (h : w.ownsRow N e s v n xs) (hb : Below w.heap.size w w') : w'.ownsRow N e s v n xs := by
  refine ⟨h.1, ?_⟩
  rcases h.2 with hn | ⟨g, cap, cur, rfl, hg, hc, rest⟩
  · exact .inl hn
  · have hlt : g < w.heap.size := by
      rcases Nat.lt_or_ge g w.heap.size with h' | h'
      · exact h'
      · simp [Array.getElem?_eq_none h'] at hc
    exact .inr ⟨g, cap, cur, rfl, hg, (hb.block g hlt).trans hc, rest⟩
theorem own_keep3 {w w' : World} {N e n s : Nat} {v : Value} {xs : List Value} (h : w.ownsRow N e s v n xs) (hb : ∀ g c t l, v.ownBlock = some g → w.heap[g]? = some (.cells c t l) → w'.heap[g]? = w.heap[g]?) : w'.ownsRow N e s v n xs := by
  refine ⟨h.1, ?_⟩
  rcases h.2 with hn | ⟨g, cap, cur, rfl, hg, hc, rest⟩
  · exact .inl hn
  · exact .inr ⟨g, cap, cur, rfl, hg, (hb g _ _ _ rfl hc).trans hc, rest⟩
theorem own_shape {w : World} {N e n s : Nat} {v : Value} {xs : List Value} (h : w.ownsRow N e s v n xs) (hn : 0 < n) : ∃ g cap, v = .slice (some ⟨g, 0, none⟩) n cap ∧ n ≤ cap ∧ cap ≤ maxLen ∧ N ≤ g ∧ g < w.heap.size ∧ ∃ c t l, w.heap[g]? = some (.cells c t l) := by
  rcases h.2 with ⟨_, h0⟩ | ⟨g, cap, cur, rfl, hg, hc, hn', hm, _⟩
  · omega
  · refine ⟨g, cap, rfl, hn', hm, hg, ?_, _, _, _, hc⟩
    rcases Nat.lt_or_ge g w.heap.size with h' | h'
    · exact h'
    · simp [Array.getElem?_eq_none h'] at hc
/-- what a map's update leaves. -/
theorem upd_world {w wX : World} {B : Nat} {o o' : Obj} (hb : wX.heap[B]? = some o) (hB : w.heap.size ≤ B) (hX : Below w.heap.size w wX) :
    let wY : World := { wX with heap := wX.heap.setIfInBounds B o' }
    wY.heap[B]? = some o' ∧ (∀ b, b ≠ B → wY.heap[b]? = wX.heap[b]?) ∧ wY.heap.size = wX.heap.size ∧ Below w.heap.size w wY := by
  obtain ⟨h1, h2⟩ := MapKept.heap_set (w := wX) (o' := o') hb
  refine ⟨h1, h2, by simp, hX.os, hX.tape, hX.output, by simpa using hX.size, fun k hk => (h2 k (by omega)).trans (hX.block k hk)⟩
theorem below_drewN (w : World) : ∀ n, Below w.heap.size w (w.drewN n)
  | 0 => Below.refl _ _
  | n + 1 => (below_drewN w n).drew
theorem heap_two (w : World) (X Y : Obj) : ((w.alloc X).alloc Y).heap[w.heap.size]? = some X ∧ ((w.alloc X).alloc Y).heap[w.heap.size + 1]? = some Y := by
  constructor
  · show ((w.heap.push X).push Y)[w.heap.size]? = some X
    simp [Array.getElem?_push]
  · have := heap_alloc_new (w.alloc X) Y
    rwa [World.size_alloc] at this
theorem cells_of {w : World} {a : Addr} {v : Value} (h : w.cell? a = some v) : ∃ c t l, w.heap[a.block]? = some (.cells c t l) := by
  unfold World.cell? at h
  split at h
  · rename_i c t l hc
    exact ⟨_, _, _, hc⟩
  · cases h
end Go.Proofs.YtaeibfipcenhaaaGreatDoor
namespace Go.Proofs.YtaeibfipcenhaaaGreatDoor
open Go.RowKit
set_option linter.unusedVariables false
theorem ptr_noS (w : World) {a b : Addr} (hne : a ≠ b) (ha : Fr w a.block) (hb : Fr w b.block) (d : Nat) :
    (Op.equalIn (d + 1) 169 (.pointer (some a)) (.pointer (some b))).run Tryz.prog w = .ok false w := by
  have hp : Tryz.prog.underlying 169 = some (.pointer 59) := by kernel_rfl
  obtain ⟨j, hte, hsz⟩ : ∃ j, Tryz.prog.info? 59 = some j ∧ j.size = 7 := by
    have : (Tryz.prog.info? 59).map (fun i => i.size) = some 7 := by kernel_rfl
    obtain ⟨j, h1, h2⟩ := Option.map_eq_some_iff.1 this
    exact ⟨j, h1, h2⟩
  have h7 : j.size ≠ 0 := by omega
  simp [Op.equalIn, run_underlying hp, sizeOf, typeInfo, hte, h7, sameAddr_no w hne ha hb]
theorem key_noS (w : World) {a b : Addr} {m n' : Int} (hne : a ≠ b) (ha : Fr w a.block) (hb : Fr w b.block) :
    (Op.equal 223 (.agg #[.pointer (some a), .int .i64 m]) (.agg #[.pointer (some b), .int .i64 n'])).run Tryz.prog w = .ok false w := by
  have hS : Tryz.prog.underlying 223 = some (.struct (Tryz.prog.fieldsOf 223)) := by kernel_rfl
  have hp : Tryz.prog.stoodInHeld 223 = false := by kernel_rfl
  have u3 := Tryz.underlying169
  have a3 := Tryz.isAgg169
  have u4 := Tryz.underlying3
  have a4 := Tryz.isAgg3
  have z4 := Tryz.sizeOf3
  have z3 := Tryz.sizeOf169
  have hn := ptr_noS w hne ha hb 9998
  unfold Op.equal Op.maxDepth
  rw [show (10000 : Nat) = 9999 + 1 from rfl, run_equalIn_agg w 9999 _ _ _ hS hp]
  simp only [Program.fieldsOf, Tryz.underlying223]
  go_simp
theorem find_noneS (w : World) {p : Addr} {n : Int} : ∀ (es : List MapEntry) (i : Nat), (∀ e ∈ es, ∃ (a : Addr) (m : Int), e.key = .agg #[.pointer (some a), .int .i64 m] ∧ p ≠ a ∧ Fr w p.block ∧ Fr w a.block) →
    (Instr.findAsking 223 (.agg #[.pointer (some p), .int .i64 n]) es i).run Tryz.prog w = .ok none w
  | [], i, _ => by simp [Instr.findAsking]
  | e :: es, i, h => by
    obtain ⟨a, m, he, hne, hp, hF⟩ := h e List.mem_cons_self
    have h1 := key_noS w (a := p) (b := a) (m := n) (n' := m) hne hp hF
    simp [Instr.findAsking, he, h1, find_noneS w es (i + 1) fun e' he' => h e' (List.mem_cons_of_mem _ he')]
theorem check_ptrS (w : World) (em : Bool) (n : Nat) (a : Addr) : (Instr.checkKey em (n + 1) 169 (.pointer (some a))).run Tryz.prog w = .ok () w := by
  have hp : Tryz.prog.underlying 169 = some (.pointer 59) := by kernel_rfl
  simp [Instr.checkKey, run_underlying hp]
theorem check_intS (w : World) (em : Bool) (k : Nat) (n : Int) : (Instr.checkKey em (k + 1) 3 (.int .i64 n)).run Tryz.prog w = .ok () w := by
  simp [Instr.checkKey, run_underlying Tryz.underlying3]
theorem check_pairS (w : World) (em : Bool) (k : Nat) (p : Addr) (n : Int) : (Instr.checkKey em (k + 2) 223 (.agg #[.pointer (some p), .int .i64 n])).run Tryz.prog w = .ok () w := by
  have hS := Tryz.underlying223
  have a3 := Tryz.isAgg169
  have u4 := Tryz.underlying3
  have a4 := Tryz.isAgg3
  have z4 := Tryz.sizeOf3
  have z3 := Tryz.sizeOf169
  have hp1 : (part 169 #[.pointer (some p), .int .i64 n] 0).run Tryz.prog w = .ok (.pointer (some p)) w := by go_simp
  have hp2 : (part 3 #[.pointer (some p), .int .i64 n] 1).run Tryz.prog w = .ok (.int .i64 n) w := by go_simp
  unfold Instr.checkKey
  simp [run_underlying hS, hp1, hp2, check_ptrS, check_intS, Result.andThen]
theorem check_keyS (w : World) (em : Bool) (p : Addr) (n : Int) : (Instr.checkKey em 10000 223 (.agg #[.pointer (some p), .int .i64 n])).run Tryz.prog w = .ok () w := check_pairS w em 9998 p n
theorem find_keyS (w : World) {p : Addr} {n : Int} (es : List MapEntry) (h : ∀ e ∈ es, ∃ (a : Addr) (m : Int), e.key = .agg #[.pointer (some a), .int .i64 m] ∧ p ≠ a ∧ Fr w p.block ∧ Fr w a.block) :
    (Instr.findKey 223 (.agg #[.pointer (some p), .int .i64 n]) es).run Tryz.prog w = .ok none w := by
  rw [run_findKey_eq w (by kernel_rfl)]
  exact find_noneS w es 0 h
/-- a pair that is no key yet is not found. -/
theorem look_noS (w : World) {B : Nat} {es : Array MapEntry} {ck : Nat} {p : Addr} {n : Int} (hb : w.heap[B]? = some (.map es ck)) (h : ∀ e ∈ es.toList, ∃ (a : Addr) (m : Int), e.key = .agg #[.pointer (some a), .int .i64 m] ∧ p ≠ a ∧ Fr w p.block ∧ Fr w a.block) :
    Sem.run Tryz.prog (Instr.lookup 221 (.map (some B)) (.agg #[.pointer (some p), .int .i64 n]) true) w = .ok (.tuple #[.slice none 0 0, .bool false]) w := by
  have hm : Tryz.prog.underlying 221 = some (.map 223 57) := by kernel_rfl
  have hz : (zeroValue 57).run Tryz.prog w = .ok (.slice none 0 0) w := by go_simp
  simp [Instr.lookup, run_underlying hm, MapKept.run_getObj_map hb, check_keyS, find_keyS w es.toList h, hz, Result.andThen]
/-- a pair that is no key yet is laid at the end. -/
theorem upd_noS (w : World) {B : Nat} {es : Array MapEntry} {ck : Nat} {p : Addr} {n : Int} {v : Value} (hb : w.heap[B]? = some (.map es ck)) (h : ∀ e ∈ es.toList, ∃ (a : Addr) (m : Int), e.key = .agg #[.pointer (some a), .int .i64 m] ∧ p ≠ a ∧ Fr w p.block ∧ Fr w a.block) :
    Sem.run Tryz.prog (Instr.mapUpdate 221 (.map (some B)) (.agg #[.pointer (some p), .int .i64 n]) v) w = .ok () { w with heap := w.heap.setIfInBounds B (.map (es.push ⟨.agg #[.pointer (some p), .int .i64 n], v, ck⟩) (ck + 1)) } := by
  have hm : Tryz.prog.underlying 221 = some (.map 223 57) := by kernel_rfl
  simp [Instr.mapUpdate, run_underlying hm, MapKept.run_getObj_map hb, check_keyS, find_keyS w es.toList h, MapKept.run_setObj_map _ hb, Result.andThen]
end Go.Proofs.YtaeibfipcenhaaaGreatDoor
namespace Go.Proofs.YtaeibfipcenhaaaGreatDoor
open Go.RowKit
set_option linter.unusedVariables false
theorem KidsIs.cellsF {w : World} : ∀ {d : Nat} {v : Value} {es : List E7} {F : List Nat}, KidsIs w d v es F → ∀ b ∈ F, ∃ c t l, w.heap[b]? = some (.cells c t l)
  | 0, _, _, _, h => h.elim
  | d + 1, v, es, F, h => by
    obtain ⟨a, c, G, rfl, _, _, hG, h0, h⟩ := h
    by_cases hne : es = []
    · rw [h0 hne]; intro b hb; cases hb
    obtain ⟨b, o, rfl, hlt, rfl, hL⟩ := h hne
    intro x hx
    have hp : 0 < es.length := List.length_pos_iff.2 hne
    have hpG : 0 < G.length := by omega
    rcases List.mem_cons.1 hx with rfl | hx
    · obtain ⟨_, ⟨hc, _⟩, _⟩ := hL 0 es[0] G[0] (by simp) (by simp)
      exact cells_of hc
    obtain ⟨g, hg, hxg⟩ := List.mem_flatten.1 hx
    obtain ⟨i, hi, rfl⟩ := List.mem_iff_getElem.1 hg
    have hi' : i < es.length := by omega
    obtain ⟨_, _, u, _, hk⟩ := hL i es[i] G[i] (by simp) (by simp)
    exact hk.cellsF x hxg
theorem KidsIs.frF {w : World} {d N : Nat} {v : Value} {es : List E7} {F : List Nat} (h : KidsIs w d v es F) (ho : Own w N F) : ∀ b ∈ F, Fr w b := fun b hb => ⟨h.cellsF b hb, (ho.2 b hb).2⟩
theorem Own.dst {w : World} {N d : Nat} {v : Value} {es : List E7} {F : List Nat} (ho : Own w N F) (h : KidsIs w d v es F) : F.Nodup ∧ ∀ b ∈ F, Fr w b := ⟨ho.1, h.frF ho⟩
end Go.Proofs.YtaeibfipcenhaaaGreatDoor
