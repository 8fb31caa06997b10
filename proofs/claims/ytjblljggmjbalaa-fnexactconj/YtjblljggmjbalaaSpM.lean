/- Own text. A map with spans (a pointer and a number) as keys: what is looked up in it and stored into it, where the key is not there yet. -/
import Derived.Test.YtjblljggmjbalaaFrK
import Derived.Handy
import Derived.LaidEql
import Derived.WideKeyRuns
import Derived.MapKept
import Derived.Carry
namespace Go.Proofs.Ytjblljggmjbalaa
open Go.RowKit
set_option linter.unusedVariables false
theorem ptr_noS (w : World) {a b : Addr} (hne : a ≠ b) (ha : Fr w a.block) (hb : Fr w b.block) (d : Nat) :
    (Op.equalIn (d + 1) 45 (.pointer (some a)) (.pointer (some b))).run Try.prog w = .ok false w := by
  have hp : Try.prog.underlying 45 = some (.pointer 32) := by kernel_rfl
  obtain ⟨j, hte, hsz⟩ : ∃ j, Try.prog.info? 32 = some j ∧ j.size = 7 := by
    have : (Try.prog.info? 32).map (fun i => i.size) = some 7 := by kernel_rfl
    obtain ⟨j, h1, h2⟩ := Option.map_eq_some_iff.1 this
    exact ⟨j, h1, h2⟩
  have h7 : j.size ≠ 0 := by omega
  simp [Op.equalIn, run_underlying hp, sizeOf, typeInfo, hte, h7, sameAddr_no w hne ha hb]
theorem key_noS (w : World) {a b : Addr} {m n' : Int} (hne : a ≠ b) (ha : Fr w a.block) (hb : Fr w b.block) :
    (Op.equal 56 (.agg #[.pointer (some a), .int .i64 m]) (.agg #[.pointer (some b), .int .i64 n'])).run Try.prog w = .ok false w := by
  have hS : Try.prog.underlying 56 = some (.struct (Try.prog.fieldsOf 56)) := by kernel_rfl
  have hp : Try.prog.stoodInHeld 56 = false := by kernel_rfl
  have u3 := Try.underlying45
  have a3 := Try.isAgg45
  have u4 := Try.underlying3
  have a4 := Try.isAgg3
  have z4 := Try.sizeOf3
  have z3 := Try.sizeOf45
  have hn := ptr_noS w hne ha hb 9998
  unfold Op.equal Op.maxDepth
  rw [show (10000 : Nat) = 9999 + 1 from rfl, run_equalIn_agg w 9999 _ _ _ hS hp]
  simp only [Program.fieldsOf, Try.underlying56]
  go_simp
theorem find_noneS (w : World) {p : Addr} {n : Int} : ∀ (es : List MapEntry) (i : Nat), (∀ e ∈ es, ∃ (a : Addr) (m : Int), e.key = .agg #[.pointer (some a), .int .i64 m] ∧ p ≠ a ∧ Fr w p.block ∧ Fr w a.block) →
    (Instr.findAsking 56 (.agg #[.pointer (some p), .int .i64 n]) es i).run Try.prog w = .ok none w
  | [], i, _ => by simp [Instr.findAsking]
  | e :: es, i, h => by
    obtain ⟨a, m, he, hne, hp, hF⟩ := h e List.mem_cons_self
    have h1 := key_noS w (a := p) (b := a) (m := n) (n' := m) hne hp hF
    simp [Instr.findAsking, he, h1, find_noneS w es (i + 1) fun e' he' => h e' (List.mem_cons_of_mem _ he')]
theorem check_ptrS (w : World) (em : Bool) (n : Nat) (a : Addr) : (Instr.checkKey em (n + 1) 45 (.pointer (some a))).run Try.prog w = .ok () w := by
  have hp : Try.prog.underlying 45 = some (.pointer 32) := by kernel_rfl
  simp [Instr.checkKey, run_underlying hp]
theorem check_intS (w : World) (em : Bool) (k : Nat) (n : Int) : (Instr.checkKey em (k + 1) 3 (.int .i64 n)).run Try.prog w = .ok () w := by
  simp [Instr.checkKey, run_underlying Try.underlying3]
theorem check_pairS (w : World) (em : Bool) (k : Nat) (p : Addr) (n : Int) : (Instr.checkKey em (k + 2) 56 (.agg #[.pointer (some p), .int .i64 n])).run Try.prog w = .ok () w := by
  have hS := Try.underlying56
  have a3 := Try.isAgg45
  have u4 := Try.underlying3
  have a4 := Try.isAgg3
  have z4 := Try.sizeOf3
  have z3 := Try.sizeOf45
  have hp1 : (part 45 #[.pointer (some p), .int .i64 n] 0).run Try.prog w = .ok (.pointer (some p)) w := by go_simp
  have hp2 : (part 3 #[.pointer (some p), .int .i64 n] 1).run Try.prog w = .ok (.int .i64 n) w := by go_simp
  unfold Instr.checkKey
  simp [run_underlying hS, hp1, hp2, check_ptrS, check_intS, Result.andThen]
theorem check_keyS (w : World) (em : Bool) (p : Addr) (n : Int) : (Instr.checkKey em 10000 56 (.agg #[.pointer (some p), .int .i64 n])).run Try.prog w = .ok () w := check_pairS w em 9998 p n
theorem find_keyS (w : World) {p : Addr} {n : Int} (es : List MapEntry) (h : ∀ e ∈ es, ∃ (a : Addr) (m : Int), e.key = .agg #[.pointer (some a), .int .i64 m] ∧ p ≠ a ∧ Fr w p.block ∧ Fr w a.block) :
    (Instr.findKey 56 (.agg #[.pointer (some p), .int .i64 n]) es).run Try.prog w = .ok none w := by
  rw [run_findKey_eq w (by kernel_rfl)]
  exact find_noneS w es 0 h
/-- a pair that is no key yet is not found. -/
theorem look_noS (w : World) {B : Nat} {es : Array MapEntry} {ck : Nat} {p : Addr} {n : Int} (hb : w.heap[B]? = some (.map es ck)) (h : ∀ e ∈ es.toList, ∃ (a : Addr) (m : Int), e.key = .agg #[.pointer (some a), .int .i64 m] ∧ p ≠ a ∧ Fr w p.block ∧ Fr w a.block) :
    Sem.run Try.prog (Instr.lookup 53 (.map (some B)) (.agg #[.pointer (some p), .int .i64 n]) true) w = .ok (.tuple #[.slice none 0 0, .bool false]) w := by
  have hm : Try.prog.underlying 53 = some (.map 56 28) := by kernel_rfl
  have hz : (zeroValue 28).run Try.prog w = .ok (.slice none 0 0) w := by go_simp
  simp [Instr.lookup, run_underlying hm, MapKept.run_getObj_map hb, check_keyS, find_keyS w es.toList h, hz, Result.andThen]
/-- a pair that is no key yet is laid at the end. -/
theorem upd_noS (w : World) {B : Nat} {es : Array MapEntry} {ck : Nat} {p : Addr} {n : Int} {v : Value} (hb : w.heap[B]? = some (.map es ck)) (h : ∀ e ∈ es.toList, ∃ (a : Addr) (m : Int), e.key = .agg #[.pointer (some a), .int .i64 m] ∧ p ≠ a ∧ Fr w p.block ∧ Fr w a.block) :
    Sem.run Try.prog (Instr.mapUpdate 53 (.map (some B)) (.agg #[.pointer (some p), .int .i64 n]) v) w = .ok () { w with heap := w.heap.setIfInBounds B (.map (es.push ⟨.agg #[.pointer (some p), .int .i64 n], v, ck⟩) (ck + 1)) } := by
  have hm : Try.prog.underlying 53 = some (.map 56 28) := by kernel_rfl
  simp [Instr.mapUpdate, run_underlying hm, MapKept.run_getObj_map hb, check_keyS, find_keyS w es.toList h, MapKept.run_setObj_map _ hb, Result.andThen]
end Go.Proofs.Ytjblljggmjbalaa
