/- Own text. A map with pairs of pointers as keys: what is looked up in it and stored into it, where the key is not there yet. -/
import Derived.Test.YtflnkfjjjacjbaaFrK
import Derived.Handy
import Derived.LaidEql
import Derived.WideKeyRuns
import Derived.MapKept
import Derived.Carry
namespace Go.Proofs.Ytflnkfjjjacjbaa
open Go.RowKit
set_option linter.unusedVariables false
theorem ptr_no (w : World) {a b : Addr} (hne : a ≠ b) (ha : Fr w a.block) (hb : Fr w b.block) (d : Nat) :
    (Op.equalIn (d + 1) 65 (.pointer (some a)) (.pointer (some b))).run Try.prog w = .ok false w := by
  have hp : Try.prog.underlying 65 = some (.pointer 35) := by kernel_rfl
  obtain ⟨j, hte, hsz⟩ : ∃ j, Try.prog.info? 35 = some j ∧ j.size = 7 := by
    have : (Try.prog.info? 35).map (fun i => i.size) = some 7 := by kernel_rfl
    obtain ⟨j, h1, h2⟩ := Option.map_eq_some_iff.1 this
    exact ⟨j, h1, h2⟩
  have h7 : j.size ≠ 0 := by omega
  simp [Op.equalIn, run_underlying hp, sizeOf, typeInfo, hte, h7, sameAddr_no w hne ha hb]
theorem key_no (w : World) {a b a' b' : Addr} (hne : a ≠ b) (ha : Fr w a.block) (hb : Fr w b.block) :
    (Op.equal 69 (.agg #[.pointer (some a), .pointer (some a')]) (.agg #[.pointer (some b), .pointer (some b')])).run Try.prog w = .ok false w := by
  have hS : Try.prog.underlying 69 = some (.struct (Try.prog.fieldsOf 69)) := by kernel_rfl
  have hp : Try.prog.stoodInHeld 69 = false := by kernel_rfl
  have u3 := Try.underlying65
  have a3 := Try.isAgg65
  have z3 := Try.sizeOf65
  have hn := ptr_no w hne ha hb 9998
  unfold Op.equal Op.maxDepth
  rw [show (10000 : Nat) = 9999 + 1 from rfl, run_equalIn_agg w 9999 _ _ _ hS hp]
  simp only [Program.fieldsOf, Try.underlying69]
  go_simp
theorem find_none (w : World) {p q : Addr} (hp : Fr w p.block) : ∀ (es : List MapEntry) (i : Nat), (∀ e ∈ es, ∃ a a', e.key = .agg #[.pointer (some a), .pointer (some a')] ∧ p ≠ a ∧ Fr w a.block) →
    (Instr.findAsking 69 (.agg #[.pointer (some p), .pointer (some q)]) es i).run Try.prog w = .ok none w
  | [], i, _ => by simp [Instr.findAsking]
  | e :: es, i, h => by
    obtain ⟨a, a', he, hne, hF⟩ := h e List.mem_cons_self
    have h1 := key_no w (a := p) (b := a) (a' := q) (b' := a') hne hp hF
    simp [Instr.findAsking, he, h1, find_none w hp es (i + 1) fun e' he' => h e' (List.mem_cons_of_mem _ he')]
theorem check_ptr (w : World) (em : Bool) (n : Nat) (a : Addr) : (Instr.checkKey em (n + 1) 65 (.pointer (some a))).run Try.prog w = .ok () w := by
  have hp : Try.prog.underlying 65 = some (.pointer 35) := by kernel_rfl
  simp [Instr.checkKey, run_underlying hp]
theorem check_pair (w : World) (em : Bool) (n : Nat) (p q : Addr) : (Instr.checkKey em (n + 2) 69 (.agg #[.pointer (some p), .pointer (some q)])).run Try.prog w = .ok () w := by
  have hS := Try.underlying69
  have a3 := Try.isAgg65
  have z3 := Try.sizeOf65
  have hp1 : (part 65 #[.pointer (some p), .pointer (some q)] 0).run Try.prog w = .ok (.pointer (some p)) w := by go_simp
  have hp2 : (part 65 #[.pointer (some p), .pointer (some q)] 1).run Try.prog w = .ok (.pointer (some q)) w := by go_simp
  unfold Instr.checkKey
  simp [run_underlying hS, hp1, hp2, check_ptr, Result.andThen]
theorem check_key (w : World) (em : Bool) (p q : Addr) : (Instr.checkKey em 10000 69 (.agg #[.pointer (some p), .pointer (some q)])).run Try.prog w = .ok () w := check_pair w em 9998 p q
theorem find_key (w : World) {p q : Addr} (hp : Fr w p.block) (es : List MapEntry) (h : ∀ e ∈ es, ∃ a a', e.key = .agg #[.pointer (some a), .pointer (some a')] ∧ p ≠ a ∧ Fr w a.block) :
    (Instr.findKey 69 (.agg #[.pointer (some p), .pointer (some q)]) es).run Try.prog w = .ok none w := by
  rw [run_findKey_eq w (by kernel_rfl)]
  exact find_none w hp es 0 h
/-- a pair that is no key yet is not found. -/
theorem look_no (w : World) {B : Nat} {es : Array MapEntry} {ck : Nat} {p q : Addr} (hb : w.heap[B]? = some (.map es ck)) (hp : Fr w p.block) (h : ∀ e ∈ es.toList, ∃ a a', e.key = .agg #[.pointer (some a), .pointer (some a')] ∧ p ≠ a ∧ Fr w a.block) :
    Sem.run Try.prog (Instr.lookup 71 (.map (some B)) (.agg #[.pointer (some p), .pointer (some q)]) true) w = .ok (.tuple #[.int .i64 0, .bool false]) w := by
  have hm : Try.prog.underlying 71 = some (.map 69 3) := by kernel_rfl
  have hz : (zeroValue 3).run Try.prog w = .ok (.int .i64 0) w := by go_simp
  simp [Instr.lookup, run_underlying hm, MapKept.run_getObj_map hb, check_key, find_key w hp es.toList h, hz, Result.andThen]
/-- a pair that is no key yet is laid at the end. -/
theorem upd_no (w : World) {B : Nat} {es : Array MapEntry} {ck : Nat} {p q : Addr} {v : Value} (hb : w.heap[B]? = some (.map es ck)) (hp : Fr w p.block) (h : ∀ e ∈ es.toList, ∃ a a', e.key = .agg #[.pointer (some a), .pointer (some a')] ∧ p ≠ a ∧ Fr w a.block) :
    Sem.run Try.prog (Instr.mapUpdate 71 (.map (some B)) (.agg #[.pointer (some p), .pointer (some q)]) v) w = .ok () { w with heap := w.heap.setIfInBounds B (.map (es.push ⟨.agg #[.pointer (some p), .pointer (some q)], v, ck⟩) (ck + 1)) } := by
  have hm : Try.prog.underlying 71 = some (.map 69 3) := by kernel_rfl
  simp [Instr.mapUpdate, run_underlying hm, MapKept.run_getObj_map hb, check_key, find_key w hp es.toList h, MapKept.run_setObj_map _ hb, Result.andThen]
end Go.Proofs.Ytflnkfjjjacjbaa
