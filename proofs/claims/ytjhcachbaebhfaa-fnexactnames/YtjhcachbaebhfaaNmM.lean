/- Own text. A map with pointers to plans as keys: what is looked up in it and stored into it, where the key is not there yet. -/
import Derived.Test.YtjhcachbaebhfaaKit
import Derived.Handy
import Derived.LaidEql
import Derived.WideKeyRuns
import Derived.MapKept
import Derived.Carry
namespace Go.Proofs.Ytjhcachbaebhfaa
open Go.RowKit
set_option linter.unusedVariables false
/-- block b has cells, and may be written. -/
def FrN (w : World) (b : Nat) : Prop := (∃ c t l, w.heap[b]? = some (.cells c t l)) ∧ ∀ o, w.frozen? ⟨b, o, none⟩ = false
theorem FrN.keep {w w' : World} {b : Nat} (h : FrN w b) (e : w'.heap[b]? = w.heap[b]?) : FrN w' b :=
  ⟨by rw [e]; exact h.1, fun o => by simp only [World.frozen?, e]; exact h.2 o⟩
theorem sameAddr_noN {P : Program} (w : World) {a b : Addr} (hne : a ≠ b) (ha : FrN w a.block) (hb : FrN w b.block) : (sameAddr a b).run P w = .ok false w := by
  by_cases hbl : a.block = b.block
  · simp [sameAddr, hbl, hne]
  · obtain ⟨⟨ca, ta, ⟨la, la'⟩, ha⟩, fa⟩ := ha
    obtain ⟨⟨cb, tb, ⟨lb, lb'⟩, hb⟩, fb⟩ := hb
    have a0 := fa a.off
    have a1 := fa ca.size
    have b0 := fb b.off
    have b1 := fb cb.size
    simp only [World.frozen?, ha, hb] at a0 a1 b0 b1
    simp [sameAddr, hbl, World.frozen?, ha, hb, noView, viewAt, World.shape?, mayBeOne, stringish, a0, a1, b0, b1]
theorem ptr_noN (w : World) {a b : Addr} (hne : a ≠ b) (ha : FrN w a.block) (hb : FrN w b.block) (d : Nat) :
    (Op.equalIn (d + 1) 138 (.pointer (some a)) (.pointer (some b))).run Try.prog w = .ok false w := by
  have hp : Try.prog.underlying 138 = some (.pointer 77) := by kernel_rfl
  obtain ⟨j, hte, hsz⟩ : ∃ j, Try.prog.info? 77 = some j ∧ j.size = 12 := by
    have : (Try.prog.info? 77).map (fun i => i.size) = some 12 := by kernel_rfl
    obtain ⟨j, h1, h2⟩ := Option.map_eq_some_iff.1 this
    exact ⟨j, h1, h2⟩
  have h7 : j.size ≠ 0 := by omega
  simp [Op.equalIn, run_underlying hp, sizeOf, typeInfo, hte, h7, sameAddr_noN w hne ha hb]
theorem key_noN (w : World) {a b : Addr} (hne : a ≠ b) (ha : FrN w a.block) (hb : FrN w b.block) :
    (Op.equal 138 (.pointer (some a)) (.pointer (some b))).run Try.prog w = .ok false w := ptr_noN w hne ha hb 9999
theorem find_noneN (w : World) {p : Addr} (hp : FrN w p.block) : ∀ (es : List MapEntry) (i : Nat), (∀ e ∈ es, ∃ a, e.key = .pointer (some a) ∧ p ≠ a ∧ FrN w a.block) →
    (Instr.findAsking 138 (.pointer (some p)) es i).run Try.prog w = .ok none w
  | [], i, _ => by simp [Instr.findAsking]
  | e :: es, i, h => by
    obtain ⟨a, he, hne, hF⟩ := h e List.mem_cons_self
    have h1 := key_noN w (a := p) (b := a) hne hp hF
    simp [Instr.findAsking, he, h1, find_noneN w hp es (i + 1) fun e' he' => h e' (List.mem_cons_of_mem _ he')]
theorem check_ptrN (w : World) (em : Bool) (n : Nat) (a : Addr) : (Instr.checkKey em (n + 1) 138 (.pointer (some a))).run Try.prog w = .ok () w := by
  have hp : Try.prog.underlying 138 = some (.pointer 77) := by kernel_rfl
  simp [Instr.checkKey, run_underlying hp]
theorem check_keyN (w : World) (em : Bool) (p : Addr) : (Instr.checkKey em 10000 138 (.pointer (some p))).run Try.prog w = .ok () w := check_ptrN w em 9999 p
theorem find_keyN (w : World) {p : Addr} (hp : FrN w p.block) (es : List MapEntry) (h : ∀ e ∈ es, ∃ a, e.key = .pointer (some a) ∧ p ≠ a ∧ FrN w a.block) :
    (Instr.findKey 138 (.pointer (some p)) es).run Try.prog w = .ok none w := by
  have hu : Try.prog.underlying 138 = some (.pointer 77) := by kernel_rfl
  have h2 : (Instr.findKey 138 (.pointer (some p)) es).run Try.prog w = (Instr.findAsking 138 (.pointer (some p)) es).run Try.prog w := by
    cases es with
    | nil => simp [Instr.findKey, run_underlying hu, Instr.findNow, Instr.findAsking]
    | cons e es => simp [Instr.findKey, run_underlying hu, Instr.findNow, Instr.sameNow]
  rw [h2]
  exact find_noneN w hp es 0 h
/-- a pointer that is no key yet is not found. -/
theorem look_noN (w : World) {B : Nat} {es : Array MapEntry} {ck : Nat} {p : Addr} (hb : w.heap[B]? = some (.map es ck)) (hp : FrN w p.block) (h : ∀ e ∈ es.toList, ∃ a, e.key = .pointer (some a) ∧ p ≠ a ∧ FrN w a.block) :
    Sem.run Try.prog (Instr.lookup 206 (.map (some B)) (.pointer (some p)) true) w = .ok (.tuple #[.int .i64 0, .bool false]) w := by
  have hm : Try.prog.underlying 206 = some (.map 138 3) := by kernel_rfl
  have hz : (zeroValue 3).run Try.prog w = .ok (.int .i64 0) w := by go_simp
  simp [Instr.lookup, run_underlying hm, MapKept.run_getObj_map hb, check_keyN, find_keyN w hp es.toList h, hz, Result.andThen]
/-- a pointer that is no key yet is laid at the end. -/
theorem upd_noN (w : World) {B : Nat} {es : Array MapEntry} {ck : Nat} {p : Addr} {v : Value} (hb : w.heap[B]? = some (.map es ck)) (hp : FrN w p.block) (h : ∀ e ∈ es.toList, ∃ a, e.key = .pointer (some a) ∧ p ≠ a ∧ FrN w a.block) :
    Sem.run Try.prog (Instr.mapUpdate 206 (.map (some B)) (.pointer (some p)) v) w = .ok () { w with heap := w.heap.setIfInBounds B (.map (es.push ⟨.pointer (some p), v, ck⟩) (ck + 1)) } := by
  have hm : Try.prog.underlying 206 = some (.map 138 3) := by kernel_rfl
  simp [Instr.mapUpdate, run_underlying hm, MapKept.run_getObj_map hb, check_keyN, find_keyN w hp es.toList h, MapKept.run_setObj_map _ hb, Result.andThen]
end Go.Proofs.Ytjhcachbaebhfaa
