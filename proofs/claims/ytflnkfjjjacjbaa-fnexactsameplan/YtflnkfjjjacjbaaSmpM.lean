/- Own text. A map with pairs of pointers to plans as keys. -/
import Derived.Test.YtflnkfjjjacjbaaSameM
namespace Go.Proofs.Ytflnkfjjjacjbaa
open Go.RowKit
set_option linter.unusedVariables false
theorem ptr_noP (w : World) {a b : Addr} (hne : a ≠ b) (ha : Fr w a.block) (hb : Fr w b.block) (d : Nat) :
    (Op.equalIn (d + 1) 49 (.pointer (some a)) (.pointer (some b))).run Try.prog w = .ok false w := by
  have hp : Try.prog.underlying 49 = some (.pointer 38) := by kernel_rfl
  obtain ⟨j, hte, hsz⟩ : ∃ j, Try.prog.info? 38 = some j ∧ j.size = 12 := by
    have : (Try.prog.info? 38).map (fun i => i.size) = some 12 := by kernel_rfl
    obtain ⟨j, h1, h2⟩ := Option.map_eq_some_iff.1 this
    exact ⟨j, h1, h2⟩
  have h7 : j.size ≠ 0 := by omega
  simp [Op.equalIn, run_underlying hp, sizeOf, typeInfo, hte, h7, sameAddr_no w hne ha hb]
theorem key_noP (w : World) {a b a' b' : Addr} (hne : a ≠ b) (ha : Fr w a.block) (hb : Fr w b.block) :
    (Op.equal 57 (.agg #[.pointer (some a), .pointer (some a')]) (.agg #[.pointer (some b), .pointer (some b')])).run Try.prog w = .ok false w := by
  have hS : Try.prog.underlying 57 = some (.struct (Try.prog.fieldsOf 57)) := by kernel_rfl
  have hp : Try.prog.stoodInHeld 57 = false := by kernel_rfl
  have u3 := Try.underlying49
  have a3 := Try.isAgg49
  have z3 := Try.sizeOf49
  have hn := ptr_noP w hne ha hb 9998
  unfold Op.equal Op.maxDepth
  rw [show (10000 : Nat) = 9999 + 1 from rfl, run_equalIn_agg w 9999 _ _ _ hS hp]
  simp only [Program.fieldsOf, Try.underlying57]
  go_simp
theorem find_noneP (w : World) {p q : Addr} (hp : Fr w p.block) : ∀ (es : List MapEntry) (i : Nat), (∀ e ∈ es, ∃ a a', e.key = .agg #[.pointer (some a), .pointer (some a')] ∧ p ≠ a ∧ Fr w a.block) →
    (Instr.findAsking 57 (.agg #[.pointer (some p), .pointer (some q)]) es i).run Try.prog w = .ok none w
  | [], i, _ => by simp [Instr.findAsking]
  | e :: es, i, h => by
    obtain ⟨a, a', he, hne, hF⟩ := h e List.mem_cons_self
    have h1 := key_noP w (a := p) (b := a) (a' := q) (b' := a') hne hp hF
    simp [Instr.findAsking, he, h1, find_noneP w hp es (i + 1) fun e' he' => h e' (List.mem_cons_of_mem _ he')]
theorem check_ptrP (w : World) (em : Bool) (n : Nat) (a : Addr) : (Instr.checkKey em (n + 1) 49 (.pointer (some a))).run Try.prog w = .ok () w := by
  have hp : Try.prog.underlying 49 = some (.pointer 38) := by kernel_rfl
  simp [Instr.checkKey, run_underlying hp]
theorem check_pairP (w : World) (em : Bool) (n : Nat) (p q : Addr) : (Instr.checkKey em (n + 2) 57 (.agg #[.pointer (some p), .pointer (some q)])).run Try.prog w = .ok () w := by
  have hS := Try.underlying57
  have a3 := Try.isAgg49
  have z3 := Try.sizeOf49
  have hp1 : (part 49 #[.pointer (some p), .pointer (some q)] 0).run Try.prog w = .ok (.pointer (some p)) w := by go_simp
  have hp2 : (part 49 #[.pointer (some p), .pointer (some q)] 1).run Try.prog w = .ok (.pointer (some q)) w := by go_simp
  unfold Instr.checkKey
  simp [run_underlying hS, hp1, hp2, check_ptrP, Result.andThen]
theorem check_keyP (w : World) (em : Bool) (p q : Addr) : (Instr.checkKey em 10000 57 (.agg #[.pointer (some p), .pointer (some q)])).run Try.prog w = .ok () w := check_pairP w em 9998 p q
theorem find_keyP (w : World) {p q : Addr} (hp : Fr w p.block) (es : List MapEntry) (h : ∀ e ∈ es, ∃ a a', e.key = .agg #[.pointer (some a), .pointer (some a')] ∧ p ≠ a ∧ Fr w a.block) :
    (Instr.findKey 57 (.agg #[.pointer (some p), .pointer (some q)]) es).run Try.prog w = .ok none w := by
  rw [run_findKey_eq w (by kernel_rfl)]
  exact find_noneP w hp es 0 h
/-- a pair that is no key yet is not found. -/
theorem look_noP (w : World) {B : Nat} {es : Array MapEntry} {ck : Nat} {p q : Addr} (hb : w.heap[B]? = some (.map es ck)) (hp : Fr w p.block) (h : ∀ e ∈ es.toList, ∃ a a', e.key = .agg #[.pointer (some a), .pointer (some a')] ∧ p ≠ a ∧ Fr w a.block) :
    Sem.run Try.prog (Instr.lookup 59 (.map (some B)) (.agg #[.pointer (some p), .pointer (some q)]) true) w = .ok (.tuple #[.int .i64 0, .bool false]) w := by
  have hm : Try.prog.underlying 59 = some (.map 57 3) := by kernel_rfl
  have hz : (zeroValue 3).run Try.prog w = .ok (.int .i64 0) w := by go_simp
  simp [Instr.lookup, run_underlying hm, MapKept.run_getObj_map hb, check_keyP, find_keyP w hp es.toList h, hz, Result.andThen]
/-- a pair that is no key yet is laid at the end. -/
theorem upd_noP (w : World) {B : Nat} {es : Array MapEntry} {ck : Nat} {p q : Addr} {v : Value} (hb : w.heap[B]? = some (.map es ck)) (hp : Fr w p.block) (h : ∀ e ∈ es.toList, ∃ a a', e.key = .agg #[.pointer (some a), .pointer (some a')] ∧ p ≠ a ∧ Fr w a.block) :
    Sem.run Try.prog (Instr.mapUpdate 59 (.map (some B)) (.agg #[.pointer (some p), .pointer (some q)]) v) w = .ok () { w with heap := w.heap.setIfInBounds B (.map (es.push ⟨.agg #[.pointer (some p), .pointer (some q)], v, ck⟩) (ck + 1)) } := by
  have hm : Try.prog.underlying 59 = some (.map 57 3) := by kernel_rfl
  simp [Instr.mapUpdate, run_underlying hm, MapKept.run_getObj_map hb, check_keyP, find_keyP w hp es.toList h, MapKept.run_setObj_map _ hb, Result.andThen]
end Go.Proofs.Ytflnkfjjjacjbaa
