/- Own text. A map with pointers to plans as keys: what is looked up in it and stored into it, where the key is not there yet. -/
import Derived.Test.YtlpgkhdmilnbgaaDoorKit
import Derived.Handy
import Derived.LaidEql
import Derived.WideKeyRuns
import Derived.MapKept
import Derived.Carry
namespace Go.Proofs.YtlpgkhdmilnbgaaDoor
open Go.RowKit
set_option linter.unusedVariables false
/-- block b has cells, and may be written. -/
def FrY (w : World) (b : Nat) : Prop := (∃ c t l, w.heap[b]? = some (.cells c t l)) ∧ ∀ o, w.frozen? ⟨b, o, none⟩ = false
theorem FrY.keep {w w' : World} {b : Nat} (h : FrY w b) (e : w'.heap[b]? = w.heap[b]?) : FrY w' b :=
  ⟨by rw [e]; exact h.1, fun o => by simp only [World.frozen?, e]; exact h.2 o⟩
theorem sameAddr_noY {P : Program} (w : World) {a b : Addr} (hne : a ≠ b) (ha : FrY w a.block) (hb : FrY w b.block) : (sameAddr a b).run P w = .ok false w := by
  by_cases hbl : a.block = b.block
  · simp [sameAddr, hbl, hne]
  · obtain ⟨⟨ca, ta, ⟨la, la'⟩, ha⟩, fa⟩ := ha
    obtain ⟨⟨cb, tb, ⟨lb, lb'⟩, hb⟩, fb⟩ := hb
    have a0 := fa a.off
    have a1 := fa ca.size
    have b0 := fb b.off
    have b1 := fb cb.size
    simp only [World.frozen?, ha, hb] at a0 a1 b0 b1
    simp [sameAddr, hbl, World.frozen?, ha, hb, noView, viewAt, World.shape?, mayBeOne, stringish, a0, a1, b0, b1]
theorem ptr_noY (w : World) {a b : Addr} (hne : a ≠ b) (ha : FrY w a.block) (hb : FrY w b.block) (d : Nat) :
    (Op.equalIn (d + 1) 54 (.pointer (some a)) (.pointer (some b))).run Tryd.prog w = .ok false w := by
  have hp : Tryd.prog.underlying 54 = some (.pointer 38) := by kernel_rfl
  obtain ⟨j, hte, hsz⟩ : ∃ j, Tryd.prog.info? 38 = some j ∧ j.size = 12 := by
    have : (Tryd.prog.info? 38).map (fun i => i.size) = some 12 := by kernel_rfl
    obtain ⟨j, h1, h2⟩ := Option.map_eq_some_iff.1 this
    exact ⟨j, h1, h2⟩
  have h12 : j.size ≠ 0 := by omega
  simp [Op.equalIn, run_underlying hp, sizeOf, typeInfo, hte, h12, sameAddr_noY w hne ha hb]
theorem key_noY (w : World) {a b : Addr} (hne : a ≠ b) (ha : FrY w a.block) (hb : FrY w b.block) :
    (Op.equal 54 (.pointer (some a)) (.pointer (some b))).run Tryd.prog w = .ok false w := ptr_noY w hne ha hb 9999
theorem find_noneY (w : World) {p : Addr} (hp : FrY w p.block) : ∀ (es : List MapEntry) (i : Nat), (∀ e ∈ es, ∃ a, e.key = .pointer (some a) ∧ p ≠ a ∧ FrY w a.block) →
    (Instr.findAsking 54 (.pointer (some p)) es i).run Tryd.prog w = .ok none w
  | [], i, _ => by simp [Instr.findAsking]
  | e :: es, i, h => by
    obtain ⟨a, he, hne, hF⟩ := h e List.mem_cons_self
    have h1 := key_noY w (a := p) (b := a) hne hp hF
    simp [Instr.findAsking, he, h1, find_noneY w hp es (i + 1) fun e' he' => h e' (List.mem_cons_of_mem _ he')]
theorem check_ptrY (w : World) (em : Bool) (n : Nat) (a : Addr) : (Instr.checkKey em (n + 1) 54 (.pointer (some a))).run Tryd.prog w = .ok () w := by
  have hp : Tryd.prog.underlying 54 = some (.pointer 38) := by kernel_rfl
  simp [Instr.checkKey, run_underlying hp]
theorem check_keyY (w : World) (em : Bool) (p : Addr) : (Instr.checkKey em 10000 54 (.pointer (some p))).run Tryd.prog w = .ok () w := check_ptrY w em 9999 p
theorem find_keyY (w : World) {p : Addr} (hp : FrY w p.block) (es : List MapEntry) (h : ∀ e ∈ es, ∃ a, e.key = .pointer (some a) ∧ p ≠ a ∧ FrY w a.block) :
    (Instr.findKey 54 (.pointer (some p)) es).run Tryd.prog w = .ok none w := by
  have hu : Tryd.prog.underlying 54 = some (.pointer 38) := by kernel_rfl
  have h2 : (Instr.findKey 54 (.pointer (some p)) es).run Tryd.prog w = (Instr.findAsking 54 (.pointer (some p)) es).run Tryd.prog w := by
    cases es with
    | nil => simp [Instr.findKey, run_underlying hu, Instr.findNow, Instr.findAsking]
    | cons e es => simp [Instr.findKey, run_underlying hu, Instr.findNow, Instr.sameNow]
  rw [h2]
  exact find_noneY w hp es 0 h
/-- a pointer that is no key yet is not found. -/
theorem look_noY (w : World) {B : Nat} {es : Array MapEntry} {ck : Nat} {p : Addr} (hb : w.heap[B]? = some (.map es ck)) (hp : FrY w p.block) (h : ∀ e ∈ es.toList, ∃ a, e.key = .pointer (some a) ∧ p ≠ a ∧ FrY w a.block) :
    Sem.run Tryd.prog (Instr.lookup 49 (.map (some B)) (.pointer (some p)) false) w = .ok (.int .i64 0) w := by
  have hm : Tryd.prog.underlying 49 = some (.map 54 3) := by kernel_rfl
  have hz : (zeroValue 3).run Tryd.prog w = .ok (.int .i64 0) w := by go_simp
  simp [Instr.lookup, run_underlying hm, MapKept.run_getObj_map hb, check_keyY, find_keyY w hp es.toList h, hz, Result.andThen]
/-- a pointer that is no key yet is laid at the end. -/
theorem upd_noY (w : World) {B : Nat} {es : Array MapEntry} {ck : Nat} {p : Addr} {v : Value} (hb : w.heap[B]? = some (.map es ck)) (hp : FrY w p.block) (h : ∀ e ∈ es.toList, ∃ a, e.key = .pointer (some a) ∧ p ≠ a ∧ FrY w a.block) :
    Sem.run Tryd.prog (Instr.mapUpdate 49 (.map (some B)) (.pointer (some p)) v) w = .ok () { w with heap := w.heap.setIfInBounds B (.map (es.push ⟨.pointer (some p), v, ck⟩) (ck + 1)) } := by
  have hm : Tryd.prog.underlying 49 = some (.map 54 3) := by kernel_rfl
  simp [Instr.mapUpdate, run_underlying hm, MapKept.run_getObj_map hb, check_keyY, find_keyY w hp es.toList h, MapKept.run_setObj_map _ hb, Result.andThen]
theorem ptr_yesY (w : World) (a : Addr) (d : Nat) : (Op.equalIn (d + 1) 54 (.pointer (some a)) (.pointer (some a))).run Tryd.prog w = .ok true w := by
  have hp : Tryd.prog.underlying 54 = some (.pointer 38) := by kernel_rfl
  obtain ⟨j, hte, hsz⟩ : ∃ j, Tryd.prog.info? 38 = some j ∧ j.size = 12 := by
    have : (Tryd.prog.info? 38).map (fun i => i.size) = some 12 := by kernel_rfl
    obtain ⟨j, h1, h2⟩ := Option.map_eq_some_iff.1 this
    exact ⟨j, h1, h2⟩
  simp [Op.equalIn, run_underlying hp, sizeOf, typeInfo, hte, sameAddr]
theorem key_yesY (w : World) (a : Addr) : (Op.equal 54 (.pointer (some a)) (.pointer (some a))).run Tryd.prog w = .ok true w := ptr_yesY w a 9999
theorem find_lastY (w : World) {p : Addr} (hp : FrY w p.block) (v : Value) (ck : Nat) : ∀ (es : List MapEntry) (i : Nat), (∀ e ∈ es, ∃ a, e.key = .pointer (some a) ∧ p ≠ a ∧ FrY w a.block) →
    (Instr.findAsking 54 (.pointer (some p)) (es ++ [⟨.pointer (some p), v, ck⟩]) i).run Tryd.prog w = .ok (some (i + es.length, v)) w
  | [], i, _ => by
    have h1 := key_yesY w p
    simp [Instr.findAsking, h1]
  | e :: es, i, h => by
    obtain ⟨a, he, hne, hF⟩ := h e List.mem_cons_self
    have h1 := key_noY w (a := p) (b := a) hne hp hF
    have := find_lastY w hp v ck es (i + 1) fun e' he' => h e' (List.mem_cons_of_mem _ he')
    simp [Instr.findAsking, he, h1, this]
    try omega
/-- what was stored last is found. -/
theorem look_lastY (w : World) {B : Nat} {es : Array MapEntry} {ck cl : Nat} {p : Addr} {n : Int} (hb : w.heap[B]? = some (.map (es.push ⟨.pointer (some p), .int .i64 n, ck⟩) cl)) (hp : FrY w p.block) (h : ∀ e ∈ es.toList, ∃ a, e.key = .pointer (some a) ∧ p ≠ a ∧ FrY w a.block) :
    Sem.run Tryd.prog (Instr.lookup 49 (.map (some B)) (.pointer (some p)) false) w = .ok (.int .i64 n) w := by
  have hm : Tryd.prog.underlying 49 = some (.map 54 3) := by kernel_rfl
  have hf : (Instr.findKey 54 (.pointer (some p)) (es.toList ++ [⟨.pointer (some p), .int .i64 n, ck⟩])).run Tryd.prog w = .ok (some (es.toList.length, .int .i64 n)) w := by
    have hu : Tryd.prog.underlying 54 = some (.pointer 38) := by kernel_rfl
    have h2 : (Instr.findKey 54 (.pointer (some p)) (es.toList ++ [⟨.pointer (some p), .int .i64 n, ck⟩])).run Tryd.prog w = (Instr.findAsking 54 (.pointer (some p)) (es.toList ++ [⟨.pointer (some p), .int .i64 n, ck⟩])).run Tryd.prog w := by
      cases es.toList with
      | nil => simp [Instr.findKey, run_underlying hu, Instr.findNow, Instr.sameNow]
      | cons e es => simp [Instr.findKey, run_underlying hu, Instr.findNow, Instr.sameNow]
    rw [h2]
    have := find_lastY w hp (.int .i64 n) ck es.toList 0 h
    simpa using this
  simp [Instr.lookup, run_underlying hm, MapKept.run_getObj_map hb, check_keyY, Result.andThen, hf]
end Go.Proofs.YtlpgkhdmilnbgaaDoor
