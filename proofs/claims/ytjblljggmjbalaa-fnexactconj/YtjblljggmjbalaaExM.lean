/- Own text. A map with pointers to expressions as keys: what is looked up in it and stored into it, where the key is not there yet. -/
import Derived.Test.YtjblljggmjbalaaKit
import Derived.Handy
import Derived.LaidEql
import Derived.WideKeyRuns
import Derived.MapKept
import Derived.Carry
namespace Go.Proofs.Ytjblljggmjbalaa
open Go.RowKit
set_option linter.unusedVariables false
/-- block b has cells, and may be written. -/
def FrX (w : World) (b : Nat) : Prop := (∃ c t l, w.heap[b]? = some (.cells c t l)) ∧ ∀ o, w.frozen? ⟨b, o, none⟩ = false
theorem FrX.keep {w w' : World} {b : Nat} (h : FrX w b) (e : w'.heap[b]? = w.heap[b]?) : FrX w' b :=
  ⟨by rw [e]; exact h.1, fun o => by simp only [World.frozen?, e]; exact h.2 o⟩
theorem sameAddr_noX {P : Program} (w : World) {a b : Addr} (hne : a ≠ b) (ha : FrX w a.block) (hb : FrX w b.block) : (sameAddr a b).run P w = .ok false w := by
  by_cases hbl : a.block = b.block
  · simp [sameAddr, hbl, hne]
  · obtain ⟨⟨ca, ta, ⟨la, la'⟩, ha⟩, fa⟩ := ha
    obtain ⟨⟨cb, tb, ⟨lb, lb'⟩, hb⟩, fb⟩ := hb
    have a0 := fa a.off
    have a1 := fa ca.size
    have b0 := fb b.off
    have b1 := fb cb.size
    simp only [World.frozen?, ha, hb] at a0 a1 b0 b1
    simp [sameAddr, hbl, World.frozen?, ha, hb, noView, viewAt, World.shape?, mayBeOne, stringish, a0, a1, b0, b1]
theorem ptr_noX (w : World) {a b : Addr} (hne : a ≠ b) (ha : FrX w a.block) (hb : FrX w b.block) (d : Nat) :
    (Op.equalIn (d + 1) 45 (.pointer (some a)) (.pointer (some b))).run Try.prog w = .ok false w := by
  have hp : Try.prog.underlying 45 = some (.pointer 32) := by kernel_rfl
  obtain ⟨j, hte, hsz⟩ : ∃ j, Try.prog.info? 32 = some j ∧ j.size = 7 := by
    have : (Try.prog.info? 32).map (fun i => i.size) = some 7 := by kernel_rfl
    obtain ⟨j, h1, h2⟩ := Option.map_eq_some_iff.1 this
    exact ⟨j, h1, h2⟩
  have h7 : j.size ≠ 0 := by omega
  simp [Op.equalIn, run_underlying hp, sizeOf, typeInfo, hte, h7, sameAddr_noX w hne ha hb]
theorem key_noX (w : World) {a b : Addr} (hne : a ≠ b) (ha : FrX w a.block) (hb : FrX w b.block) :
    (Op.equal 45 (.pointer (some a)) (.pointer (some b))).run Try.prog w = .ok false w := ptr_noX w hne ha hb 9999
theorem find_noneX (w : World) {p : Addr} (hp : FrX w p.block) : ∀ (es : List MapEntry) (i : Nat), (∀ e ∈ es, ∃ a, e.key = .pointer (some a) ∧ p ≠ a ∧ FrX w a.block) →
    (Instr.findAsking 45 (.pointer (some p)) es i).run Try.prog w = .ok none w
  | [], i, _ => by simp [Instr.findAsking]
  | e :: es, i, h => by
    obtain ⟨a, he, hne, hF⟩ := h e List.mem_cons_self
    have h1 := key_noX w (a := p) (b := a) hne hp hF
    simp [Instr.findAsking, he, h1, find_noneX w hp es (i + 1) fun e' he' => h e' (List.mem_cons_of_mem _ he')]
theorem check_ptrX (w : World) (em : Bool) (n : Nat) (a : Addr) : (Instr.checkKey em (n + 1) 45 (.pointer (some a))).run Try.prog w = .ok () w := by
  have hp : Try.prog.underlying 45 = some (.pointer 32) := by kernel_rfl
  simp [Instr.checkKey, run_underlying hp]
theorem check_keyX (w : World) (em : Bool) (p : Addr) : (Instr.checkKey em 10000 45 (.pointer (some p))).run Try.prog w = .ok () w := check_ptrX w em 9999 p
theorem find_keyX (w : World) {p : Addr} (hp : FrX w p.block) (es : List MapEntry) (h : ∀ e ∈ es, ∃ a, e.key = .pointer (some a) ∧ p ≠ a ∧ FrX w a.block) :
    (Instr.findKey 45 (.pointer (some p)) es).run Try.prog w = .ok none w := by
  have hu : Try.prog.underlying 45 = some (.pointer 32) := by kernel_rfl
  have h2 : (Instr.findKey 45 (.pointer (some p)) es).run Try.prog w = (Instr.findAsking 45 (.pointer (some p)) es).run Try.prog w := by
    cases es with
    | nil => simp [Instr.findKey, run_underlying hu, Instr.findNow, Instr.findAsking]
    | cons e es => simp [Instr.findKey, run_underlying hu, Instr.findNow, Instr.sameNow]
  rw [h2]
  exact find_noneX w hp es 0 h
/-- a pointer that is no key yet is not found. -/
theorem look_noX (w : World) {B : Nat} {es : Array MapEntry} {ck : Nat} {p : Addr} (hb : w.heap[B]? = some (.map es ck)) (hp : FrX w p.block) (h : ∀ e ∈ es.toList, ∃ a, e.key = .pointer (some a) ∧ p ≠ a ∧ FrX w a.block) :
    Sem.run Try.prog (Instr.lookup 44 (.map (some B)) (.pointer (some p)) false) w = .ok (.int .i64 0) w := by
  have hm : Try.prog.underlying 44 = some (.map 45 3) := by kernel_rfl
  have hz : (zeroValue 3).run Try.prog w = .ok (.int .i64 0) w := by go_simp
  simp [Instr.lookup, run_underlying hm, MapKept.run_getObj_map hb, check_keyX, find_keyX w hp es.toList h, hz, Result.andThen]
/-- a pointer that is no key yet is laid at the end. -/
theorem upd_noX (w : World) {B : Nat} {es : Array MapEntry} {ck : Nat} {p : Addr} {v : Value} (hb : w.heap[B]? = some (.map es ck)) (hp : FrX w p.block) (h : ∀ e ∈ es.toList, ∃ a, e.key = .pointer (some a) ∧ p ≠ a ∧ FrX w a.block) :
    Sem.run Try.prog (Instr.mapUpdate 44 (.map (some B)) (.pointer (some p)) v) w = .ok () { w with heap := w.heap.setIfInBounds B (.map (es.push ⟨.pointer (some p), v, ck⟩) (ck + 1)) } := by
  have hm : Try.prog.underlying 44 = some (.map 45 3) := by kernel_rfl
  simp [Instr.mapUpdate, run_underlying hm, MapKept.run_getObj_map hb, check_keyX, find_keyX w hp es.toList h, MapKept.run_setObj_map _ hb, Result.andThen]
theorem ptr_yesX (w : World) (a : Addr) (d : Nat) : (Op.equalIn (d + 1) 45 (.pointer (some a)) (.pointer (some a))).run Try.prog w = .ok true w := by
  have hp : Try.prog.underlying 45 = some (.pointer 32) := by kernel_rfl
  obtain ⟨j, hte, hsz⟩ : ∃ j, Try.prog.info? 32 = some j ∧ j.size = 7 := by
    have : (Try.prog.info? 32).map (fun i => i.size) = some 7 := by kernel_rfl
    obtain ⟨j, h1, h2⟩ := Option.map_eq_some_iff.1 this
    exact ⟨j, h1, h2⟩
  simp [Op.equalIn, run_underlying hp, sizeOf, typeInfo, hte, sameAddr]
theorem key_yesX (w : World) (a : Addr) : (Op.equal 45 (.pointer (some a)) (.pointer (some a))).run Try.prog w = .ok true w := ptr_yesX w a 9999
theorem find_lastX (w : World) {p : Addr} (hp : FrX w p.block) (v : Value) (ck : Nat) : ∀ (es : List MapEntry) (i : Nat), (∀ e ∈ es, ∃ a, e.key = .pointer (some a) ∧ p ≠ a ∧ FrX w a.block) →
    (Instr.findAsking 45 (.pointer (some p)) (es ++ [⟨.pointer (some p), v, ck⟩]) i).run Try.prog w = .ok (some (i + es.length, v)) w
  | [], i, _ => by
    have h1 := key_yesX w p
    simp [Instr.findAsking, h1]
  | e :: es, i, h => by
    obtain ⟨a, he, hne, hF⟩ := h e List.mem_cons_self
    have h1 := key_noX w (a := p) (b := a) hne hp hF
    have := find_lastX w hp v ck es (i + 1) fun e' he' => h e' (List.mem_cons_of_mem _ he')
    simp [Instr.findAsking, he, h1, this]
    try omega
/-- what was stored last is found. -/
theorem look_lastX (w : World) {B : Nat} {es : Array MapEntry} {ck cl : Nat} {p : Addr} {n : Int} (hb : w.heap[B]? = some (.map (es.push ⟨.pointer (some p), .int .i64 n, ck⟩) cl)) (hp : FrX w p.block) (h : ∀ e ∈ es.toList, ∃ a, e.key = .pointer (some a) ∧ p ≠ a ∧ FrX w a.block) :
    Sem.run Try.prog (Instr.lookup 44 (.map (some B)) (.pointer (some p)) false) w = .ok (.int .i64 n) w := by
  have hm : Try.prog.underlying 44 = some (.map 45 3) := by kernel_rfl
  have hf : (Instr.findKey 45 (.pointer (some p)) (es.toList ++ [⟨.pointer (some p), .int .i64 n, ck⟩])).run Try.prog w = .ok (some (es.toList.length, .int .i64 n)) w := by
    have hu : Try.prog.underlying 45 = some (.pointer 32) := by kernel_rfl
    have h2 : (Instr.findKey 45 (.pointer (some p)) (es.toList ++ [⟨.pointer (some p), .int .i64 n, ck⟩])).run Try.prog w = (Instr.findAsking 45 (.pointer (some p)) (es.toList ++ [⟨.pointer (some p), .int .i64 n, ck⟩])).run Try.prog w := by
      cases es.toList with
      | nil => simp [Instr.findKey, run_underlying hu, Instr.findNow, Instr.sameNow]
      | cons e es => simp [Instr.findKey, run_underlying hu, Instr.findNow, Instr.sameNow]
    rw [h2]
    have := find_lastX w hp (.int .i64 n) ck es.toList 0 h
    simpa using this
  simp [Instr.lookup, run_underlying hm, MapKept.run_getObj_map hb, check_keyX, Result.andThen, hf]
end Go.Proofs.Ytjblljggmjbalaa
