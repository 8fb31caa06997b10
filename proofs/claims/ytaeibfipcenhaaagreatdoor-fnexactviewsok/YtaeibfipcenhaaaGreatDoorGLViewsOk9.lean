/- Own texts, joined: contracts that the law's proof goes by. -/
import Derived.Test.YtaeibfipcenhaaaGreatDoorGLViewsOk8
import Derived.Test.YtaeibfipcenhaaaGreatDoorGLViewsOk1
import Derived.Handy
import Derived.Laws.Bits64b
import Derived.OwnWalk
import Derived.Lib.SmallJoins
import Derived.Lib.AppendStr
import Derived.Laws.BytesArg
import Derived.Laws.OwnMore
namespace Go.Proofs.YtaeibfipcenhaaaGreatDoor
open Go.RowKit
set_option linter.unusedVariables false
attribute [local go_sem] ta_nullForm_nullForm ta_nullForm_intForm ta_nullForm_boolForm ta_nullForm_textForm ta_intForm_nullForm ta_intForm_intForm ta_intForm_boolForm ta_intForm_textForm ta_boolForm_nullForm ta_boolForm_intForm ta_boolForm_boolForm ta_boolForm_textForm ta_textForm_nullForm ta_textForm_intForm ta_textForm_boolForm ta_textForm_textForm ta_nil_nullForm ta_nil_intForm ta_nil_boolForm ta_nil_textForm
set_option maxHeartbeats 1000000 in
set_option maxRecDepth 100000 in
theorem implValueOk_0 (n : Int) (s : ByteArray) (w : World) :
    Calls Tryz.prog 90 #[(.agg #[.int .i64 0, .int .i64 n, .string s])] w fun e w' => e = .returned (.bool (okB 0 n s)) ∧ Below w.heap.size w w' := by
  have hq := eqV
  go_enter Tryz.func90, Tryz.ntmps90
  go_wp2_with (first | (go_at_call 104; refine (formOf_0 _ _ _).mono ?_; rintro e w1 ⟨rfl, rfl⟩))
  first | go_region_calls | fail
  all_goals (go_wp2; go_returns; refine ⟨ret_bool ?_, ?_⟩)
  all_goals first | (go_grown; done) | ((repeat (first | exact Below.refl _ _ | refine Below.drew ?_ | refine Below.alloc ?_ (by first | (simp; done) | (simp; omega) | omega) _ | refine bstep (by assumption) (by first | (simp; done) | (simp; omega) | omega) ?_)); done) | (clear hq; rw [okB_0]; simp [beq0])
set_option maxHeartbeats 1000000 in
set_option maxRecDepth 100000 in
theorem implValueOk_1 (n : Int) (s : ByteArray) (w : World) :
    Calls Tryz.prog 90 #[(.agg #[.int .i64 1, .int .i64 n, .string s])] w fun e w' => e = .returned (.bool (okB 1 n s)) ∧ Below w.heap.size w w' := by
  have hq := eqV
  go_enter Tryz.func90, Tryz.ntmps90
  go_wp2_with (first | (go_at_call 104; refine (formOf_1 _ _ _).mono ?_; rintro e w1 ⟨rfl, rfl⟩))
  first | go_region_calls | fail
  all_goals (go_wp2; go_returns; refine ⟨ret_bool ?_, ?_⟩)
  all_goals first | (go_grown; done) | ((repeat (first | exact Below.refl _ _ | refine Below.drew ?_ | refine Below.alloc ?_ (by first | (simp; done) | (simp; omega) | omega) _ | refine bstep (by assumption) (by first | (simp; done) | (simp; omega) | omega) ?_)); done) | (clear hq; rw [okB_1]; simp)
set_option maxHeartbeats 1000000 in
set_option maxRecDepth 100000 in
theorem implValueOk_2 (n : Int) (s : ByteArray) (w : World) :
    Calls Tryz.prog 90 #[(.agg #[.int .i64 2, .int .i64 n, .string s])] w fun e w' => e = .returned (.bool (okB 2 n s)) ∧ Below w.heap.size w w' := by
  have hq := eqV
  by_cases hc : n = 0 ∨ n = 1
  · go_enter Tryz.func90, Tryz.ntmps90
    go_wp2_with (first | (go_at_call 104; refine (formOf_2 _ _ _).mono ?_; rintro e w1 ⟨rfl, rfl⟩))
    first | go_region_held3 (fun w' => w'.cell? ⟨w.heap.size, 0, none⟩ = some (.int .i64 2) ∧ w'.cell? ⟨w.heap.size, 1, none⟩ = some (.int .i64 n) ∧ w'.cell? ⟨w.heap.size, 2, none⟩ = some (.string s)) (refine ⟨?_, ?_, ?_⟩ <;> first | (go_simp; done) | (exact cell_later (by assumption) (by go_simp))) (first | (go_at_call 175; refine (inRange_2 _ _ hc).mono ?_; rintro e w1 ⟨rfl, hb1⟩; have hz1 := hb1.size; (try simp at hz1); have hy1 : w.heap.size < w1.heap.size := (by omega)) | (go_at_call 105; refine (valueOf_2 _ _).mono ?_; rintro e w2 ⟨rfl, hb2⟩; have hz2 := hb2.size; (try simp at hz2); have hy2 : w.heap.size < w2.heap.size := (by omega))) | fail
    all_goals (go_wp2; go_returns; refine ⟨ret_bool ?_, ?_⟩)
    all_goals first | (go_grown; done) | ((repeat (first | exact Below.refl _ _ | refine Below.drew ?_ | refine Below.alloc ?_ (by first | (simp; done) | (simp; omega) | omega) _ | refine bstep (by assumption) (by first | (simp; done) | (simp; omega) | omega) ?_)); done) | (clear hq; rw [okB_2]; rcases hc with rfl | rfl <;> simp)
  have hx0 : (n == 0) = false := by simp; omega
  have hx1 : (n == 1) = false := by simp; omega
  go_enter Tryz.func90, Tryz.ntmps90
  go_wp2_with (first | (go_at_call 104; refine (formOf_2 _ _ _).mono ?_; rintro e w1 ⟨rfl, rfl⟩))
  first | go_region_with (first | (go_at_call 175; refine (inRange_2x _ _ hx0 hx1).mono ?_; rintro e w1 ⟨rfl, hb1⟩; have hz1 := hb1.size; (try simp at hz1); have hy1 : w.heap.size < w1.heap.size := (by omega))) | fail
  all_goals (go_wp2; go_returns; refine ⟨ret_bool ?_, ?_⟩)
  all_goals first | (go_grown; done) | ((repeat (first | exact Below.refl _ _ | refine Below.drew ?_ | refine Below.alloc ?_ (by first | (simp; done) | (simp; omega) | omega) _ | refine bstep (by assumption) (by first | (simp; done) | (simp; omega) | omega) ?_)); done) | (clear hq; rw [okB_2]; simp [hx0, hx1])
set_option maxHeartbeats 1000000 in
set_option maxRecDepth 100000 in
theorem implValueOk_3 (n : Int) (s : ByteArray) (w : World) (hs : s.size ≤ maxLen) :
    Calls Tryz.prog 90 #[(.agg #[.int .i64 3, .int .i64 n, .string s])] w fun e w' => e = .returned (.bool (okB 3 n s)) ∧ Below w.heap.size w w' := by
  have hq := eqV
  by_cases hc : (s.size : Int) ≤ 100
  · go_enter Tryz.func90, Tryz.ntmps90
    go_wp2_with (first | (go_at_call 104; refine (formOf_3 _ _ _).mono ?_; rintro e w1 ⟨rfl, rfl⟩))
    first | go_region_held3 (fun w' => w'.cell? ⟨w.heap.size, 0, none⟩ = some (.int .i64 3) ∧ w'.cell? ⟨w.heap.size, 1, none⟩ = some (.int .i64 n) ∧ w'.cell? ⟨w.heap.size, 2, none⟩ = some (.string s)) (refine ⟨?_, ?_, ?_⟩ <;> first | (go_simp; done) | (exact cell_later (by assumption) (by go_simp))) (first | (go_at_call 176; refine (inRange_3 _ _ hs hc).mono ?_; rintro e w1 ⟨rfl, hb1⟩; have hz1 := hb1.size; (try simp at hz1); have hy1 : w.heap.size < w1.heap.size := (by omega)) | (go_at_call 105; refine (valueOf_3 _ _).mono ?_; rintro e w2 ⟨rfl, hb2⟩; have hz2 := hb2.size; (try simp at hz2); have hy2 : w.heap.size < w2.heap.size := (by omega))) | fail
    all_goals (go_wp2; go_returns; refine ⟨ret_bool ?_, ?_⟩)
    all_goals first | (go_grown; done) | ((repeat (first | exact Below.refl _ _ | refine Below.drew ?_ | refine Below.alloc ?_ (by first | (simp; done) | (simp; omega) | omega) _ | refine bstep (by assumption) (by first | (simp; done) | (simp; omega) | omega) ?_)); done) | (clear hq; rw [okB_3]; have hc' : s.size ≤ 100 := (by omega); simp [beq0, hc'])
  · go_enter Tryz.func90, Tryz.ntmps90
    go_wp2_with (first | (go_at_call 104; refine (formOf_3 _ _ _).mono ?_; rintro e w1 ⟨rfl, rfl⟩))
    first | go_region_with (first | (go_at_call 176; refine (inRange_3x _ _ hs (by omega)).mono ?_; rintro e w1 ⟨rfl, hb1⟩; have hz1 := hb1.size; (try simp at hz1); have hy1 : w.heap.size < w1.heap.size := (by omega))) | fail
    all_goals (go_wp2; go_returns; refine ⟨ret_bool ?_, ?_⟩)
    all_goals first | (go_grown; done) | ((repeat (first | exact Below.refl _ _ | refine Below.drew ?_ | refine Below.alloc ?_ (by first | (simp; done) | (simp; omega) | omega) _ | refine bstep (by assumption) (by first | (simp; done) | (simp; omega) | omega) ?_)); done) | (clear hq; rw [okB_3]; have hc' : ¬ s.size ≤ 100 := (by omega); simp [hc'])
set_option maxHeartbeats 1000000 in
set_option maxRecDepth 100000 in
theorem implValueOk_x (k : Int) (n : Int) (s : ByteArray) (w : World) (h0 : (k == 0) = false) (h1 : (k == 1) = false) (h2 : (k == 2) = false) (h3 : (k == 3) = false) :
    Calls Tryz.prog 90 #[(.agg #[.int .i64 k, .int .i64 n, .string s])] w fun e w' => e = .returned (.bool (okB k n s)) ∧ Below w.heap.size w w' := by
  have hq := eqV
  go_enter Tryz.func90, Tryz.ntmps90
  go_wp2_with (first | (go_at_call 104; refine (formOf_x _ _ _ _ h0 h1 h2 h3).mono ?_; rintro e w1 ⟨rfl, rfl⟩))
  first | go_region_calls | fail
  all_goals (go_wp2; go_returns; refine ⟨ret_bool ?_, ?_⟩)
  all_goals first | (go_grown; done) | ((repeat (first | exact Below.refl _ _ | refine Below.drew ?_ | refine Below.alloc ?_ (by first | (simp; done) | (simp; omega) | omega) _ | refine bstep (by assumption) (by first | (simp; done) | (simp; omega) | omega) ?_)); done) | (clear hq; rw [okB_x k n s (by simpa using h0) (by simpa using h1) (by simpa using h2) (by simpa using h3)])
theorem implValueOk_any (k n : Int) (s : ByteArray) (w : World) (hs : s.size ≤ maxLen) :
    Calls Tryz.prog 90 #[(.agg #[.int .i64 k, .int .i64 n, .string s])] w fun e w' => e = .returned (.bool (okB k n s)) ∧ Below w.heap.size w w' := by
  by_cases h0 : k = 0
  · subst h0; exact implValueOk_0 n s w
  by_cases h1 : k = 1
  · subst h1; exact implValueOk_1 n s w
  by_cases h2 : k = 2
  · subst h2; exact implValueOk_2 n s w
  by_cases h3 : k = 3
  · subst h3; exact implValueOk_3 n s w hs
  exact implValueOk_x k n s w (by simp [h0]) (by simp [h1]) (by simp [h2]) (by simp [h3])
end Go.Proofs.YtaeibfipcenhaaaGreatDoor
namespace Go.Proofs.YtaeibfipcenhaaaGreatDoor
open Go.RowKit
set_option linter.unusedVariables false
/-- the byte at place j of the eight of a number. -/
def numB (n : Int) (j : Nat) : Int := IntKind.u64.wrap n / 2 ^ (8 * (7 - j)) % 256
/-- the first j of them, behind the kind. -/
def numL (n : Int) (j : Nat) : List Int := 1 :: (List.range j).map (numB n)
end Go.Proofs.YtaeibfipcenhaaaGreatDoor
namespace Go.Proofs.YtaeibfipcenhaaaGreatDoor
open Go.RowKit
set_option linter.unusedVariables false
attribute [local go_sem] ta_nullForm_nullForm ta_nullForm_intForm ta_nullForm_boolForm ta_nullForm_textForm ta_intForm_nullForm ta_intForm_intForm ta_intForm_boolForm ta_intForm_textForm ta_boolForm_nullForm ta_boolForm_intForm ta_boolForm_boolForm ta_boolForm_textForm ta_textForm_nullForm ta_textForm_intForm ta_textForm_boolForm ta_textForm_textForm ta_nil_nullForm ta_nil_intForm ta_nil_boolForm ta_nil_textForm
theorem ta_text1 (s : ByteArray) (w : World) : (Instr.typeAssert (.iface 213 (.agg #[.string s])) 192 213 false).run Tryz.prog w = .ok (.agg #[.string s]) w := by kernel_rfl
theorem fld_text (s : ByteArray) (w : World) : (Instr.field 213 (.agg #[.string s]) 0).run Tryz.prog w = .ok (.string s) w := by kernel_rfl
attribute [local go_sem] ta_text1 fld_text
end Go.Proofs.YtaeibfipcenhaaaGreatDoor
