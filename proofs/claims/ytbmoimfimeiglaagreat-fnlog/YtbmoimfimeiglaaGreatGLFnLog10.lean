/- Own texts, joined: contracts that the law's proof goes by. -/
import Derived.Test.YtbmoimfimeiglaaGreatGLFnLog8
import Derived.Test.YtbmoimfimeiglaaGreatGLFnLog12
import Derived.Test.YtbmoimfimeiglaaGreatGLFnLog7
import Derived.Handy
namespace Go.Proofs.YtbmoimfimeiglaaGreat
open Go.RowKit
set_option linter.unusedVariables false
attribute [local go_sem] ta_nullForm_nullForm ta_nullForm_intForm ta_nullForm_boolForm ta_nullForm_textForm ta_intForm_nullForm ta_intForm_intForm ta_intForm_boolForm ta_intForm_textForm ta_boolForm_nullForm ta_boolForm_intForm ta_boolForm_boolForm ta_boolForm_textForm ta_textForm_nullForm ta_textForm_intForm ta_textForm_boolForm ta_textForm_textForm ta_nil_nullForm ta_nil_intForm ta_nil_boolForm ta_nil_textForm
set_option maxHeartbeats 1000000 in
set_option maxRecDepth 100000 in
theorem implValueOk_0 (n : Int) (s : ByteArray) (w : World) :
    Calls Tryz.prog 110 #[(.agg #[.int .i64 0, .int .i64 n, .string s])] w fun e w' => e = .returned (.bool (okB 0 n s)) ∧ Below w.heap.size w w' := by
  have hq := eqV
  go_enter Tryz.func110, Tryz.ntmps110
  go_wp2_with (first | (go_at_call 115; refine (formOf_0 _ _ _).mono ?_; rintro e w1 ⟨rfl, rfl⟩))
  first | go_region_calls | fail
  all_goals (go_wp2; go_returns; refine ⟨ret_bool ?_, ?_⟩)
  all_goals first | (go_grown; done) | ((repeat (first | exact Below.refl _ _ | refine Below.drew ?_ | refine Below.alloc ?_ (by first | (simp; done) | (simp; omega) | omega) _ | refine bstep (by assumption) (by first | (simp; done) | (simp; omega) | omega) ?_)); done) | (clear hq; rw [okB_0]; simp [beq0])
set_option maxHeartbeats 1000000 in
set_option maxRecDepth 100000 in
theorem implValueOk_1 (n : Int) (s : ByteArray) (w : World) :
    Calls Tryz.prog 110 #[(.agg #[.int .i64 1, .int .i64 n, .string s])] w fun e w' => e = .returned (.bool (okB 1 n s)) ∧ Below w.heap.size w w' := by
  have hq := eqV
  go_enter Tryz.func110, Tryz.ntmps110
  go_wp2_with (first | (go_at_call 115; refine (formOf_1 _ _ _).mono ?_; rintro e w1 ⟨rfl, rfl⟩))
  first | go_region_calls | fail
  all_goals (go_wp2; go_returns; refine ⟨ret_bool ?_, ?_⟩)
  all_goals first | (go_grown; done) | ((repeat (first | exact Below.refl _ _ | refine Below.drew ?_ | refine Below.alloc ?_ (by first | (simp; done) | (simp; omega) | omega) _ | refine bstep (by assumption) (by first | (simp; done) | (simp; omega) | omega) ?_)); done) | (clear hq; rw [okB_1]; simp)
set_option maxHeartbeats 1000000 in
set_option maxRecDepth 100000 in
theorem implValueOk_2 (n : Int) (s : ByteArray) (w : World) :
    Calls Tryz.prog 110 #[(.agg #[.int .i64 2, .int .i64 n, .string s])] w fun e w' => e = .returned (.bool (okB 2 n s)) ∧ Below w.heap.size w w' := by
  have hq := eqV
  by_cases hc : n = 0 ∨ n = 1
  · go_enter Tryz.func110, Tryz.ntmps110
    go_wp2_with (first | (go_at_call 115; refine (formOf_2 _ _ _).mono ?_; rintro e w1 ⟨rfl, rfl⟩))
    first | go_region_held3 (fun w' => w'.cell? ⟨w.heap.size, 0, none⟩ = some (.int .i64 2) ∧ w'.cell? ⟨w.heap.size, 1, none⟩ = some (.int .i64 n) ∧ w'.cell? ⟨w.heap.size, 2, none⟩ = some (.string s)) (refine ⟨?_, ?_, ?_⟩ <;> first | (go_simp; done) | (exact cell_later (by assumption) (by go_simp))) (first | (go_at_call 147; refine (inRange_2 _ _ hc).mono ?_; rintro e w1 ⟨rfl, hb1⟩; have hz1 := hb1.size; (try simp at hz1); have hy1 : w.heap.size < w1.heap.size := (by omega)) | (go_at_call 120; refine (valueOf_2 _ _).mono ?_; rintro e w2 ⟨rfl, hb2⟩; have hz2 := hb2.size; (try simp at hz2); have hy2 : w.heap.size < w2.heap.size := (by omega))) | fail
    all_goals (go_wp2; go_returns; refine ⟨ret_bool ?_, ?_⟩)
    all_goals first | (go_grown; done) | ((repeat (first | exact Below.refl _ _ | refine Below.drew ?_ | refine Below.alloc ?_ (by first | (simp; done) | (simp; omega) | omega) _ | refine bstep (by assumption) (by first | (simp; done) | (simp; omega) | omega) ?_)); done) | (clear hq; rw [okB_2]; rcases hc with rfl | rfl <;> simp)
  have hx0 : (n == 0) = false := by simp; omega
  have hx1 : (n == 1) = false := by simp; omega
  go_enter Tryz.func110, Tryz.ntmps110
  go_wp2_with (first | (go_at_call 115; refine (formOf_2 _ _ _).mono ?_; rintro e w1 ⟨rfl, rfl⟩))
  first | go_region_with (first | (go_at_call 147; refine (inRange_2x _ _ hx0 hx1).mono ?_; rintro e w1 ⟨rfl, hb1⟩; have hz1 := hb1.size; (try simp at hz1); have hy1 : w.heap.size < w1.heap.size := (by omega))) | fail
  all_goals (go_wp2; go_returns; refine ⟨ret_bool ?_, ?_⟩)
  all_goals first | (go_grown; done) | ((repeat (first | exact Below.refl _ _ | refine Below.drew ?_ | refine Below.alloc ?_ (by first | (simp; done) | (simp; omega) | omega) _ | refine bstep (by assumption) (by first | (simp; done) | (simp; omega) | omega) ?_)); done) | (clear hq; rw [okB_2]; simp [hx0, hx1])
set_option maxHeartbeats 1000000 in
set_option maxRecDepth 100000 in
theorem implValueOk_3 (n : Int) (s : ByteArray) (w : World) (hs : s.size ≤ maxLen) :
    Calls Tryz.prog 110 #[(.agg #[.int .i64 3, .int .i64 n, .string s])] w fun e w' => e = .returned (.bool (okB 3 n s)) ∧ Below w.heap.size w w' := by
  have hq := eqV
  by_cases hc : (s.size : Int) ≤ 100
  · go_enter Tryz.func110, Tryz.ntmps110
    go_wp2_with (first | (go_at_call 115; refine (formOf_3 _ _ _).mono ?_; rintro e w1 ⟨rfl, rfl⟩))
    first | go_region_held3 (fun w' => w'.cell? ⟨w.heap.size, 0, none⟩ = some (.int .i64 3) ∧ w'.cell? ⟨w.heap.size, 1, none⟩ = some (.int .i64 n) ∧ w'.cell? ⟨w.heap.size, 2, none⟩ = some (.string s)) (refine ⟨?_, ?_, ?_⟩ <;> first | (go_simp; done) | (exact cell_later (by assumption) (by go_simp))) (first | (go_at_call 148; refine (inRange_3 _ _ hs hc).mono ?_; rintro e w1 ⟨rfl, hb1⟩; have hz1 := hb1.size; (try simp at hz1); have hy1 : w.heap.size < w1.heap.size := (by omega)) | (go_at_call 120; refine (valueOf_3 _ _).mono ?_; rintro e w2 ⟨rfl, hb2⟩; have hz2 := hb2.size; (try simp at hz2); have hy2 : w.heap.size < w2.heap.size := (by omega))) | fail
    all_goals (go_wp2; go_returns; refine ⟨ret_bool ?_, ?_⟩)
    all_goals first | (go_grown; done) | ((repeat (first | exact Below.refl _ _ | refine Below.drew ?_ | refine Below.alloc ?_ (by first | (simp; done) | (simp; omega) | omega) _ | refine bstep (by assumption) (by first | (simp; done) | (simp; omega) | omega) ?_)); done) | (clear hq; rw [okB_3]; have hc' : s.size ≤ 100 := (by omega); simp [beq0, hc'])
  · go_enter Tryz.func110, Tryz.ntmps110
    go_wp2_with (first | (go_at_call 115; refine (formOf_3 _ _ _).mono ?_; rintro e w1 ⟨rfl, rfl⟩))
    first | go_region_with (first | (go_at_call 148; refine (inRange_3x _ _ hs (by omega)).mono ?_; rintro e w1 ⟨rfl, hb1⟩; have hz1 := hb1.size; (try simp at hz1); have hy1 : w.heap.size < w1.heap.size := (by omega))) | fail
    all_goals (go_wp2; go_returns; refine ⟨ret_bool ?_, ?_⟩)
    all_goals first | (go_grown; done) | ((repeat (first | exact Below.refl _ _ | refine Below.drew ?_ | refine Below.alloc ?_ (by first | (simp; done) | (simp; omega) | omega) _ | refine bstep (by assumption) (by first | (simp; done) | (simp; omega) | omega) ?_)); done) | (clear hq; rw [okB_3]; have hc' : ¬ s.size ≤ 100 := (by omega); simp [hc'])
set_option maxHeartbeats 1000000 in
set_option maxRecDepth 100000 in
theorem implValueOk_x (k : Int) (n : Int) (s : ByteArray) (w : World) (h0 : (k == 0) = false) (h1 : (k == 1) = false) (h2 : (k == 2) = false) (h3 : (k == 3) = false) :
    Calls Tryz.prog 110 #[(.agg #[.int .i64 k, .int .i64 n, .string s])] w fun e w' => e = .returned (.bool (okB k n s)) ∧ Below w.heap.size w w' := by
  have hq := eqV
  go_enter Tryz.func110, Tryz.ntmps110
  go_wp2_with (first | (go_at_call 115; refine (formOf_x _ _ _ _ h0 h1 h2 h3).mono ?_; rintro e w1 ⟨rfl, rfl⟩))
  first | go_region_calls | fail
  all_goals (go_wp2; go_returns; refine ⟨ret_bool ?_, ?_⟩)
  all_goals first | (go_grown; done) | ((repeat (first | exact Below.refl _ _ | refine Below.drew ?_ | refine Below.alloc ?_ (by first | (simp; done) | (simp; omega) | omega) _ | refine bstep (by assumption) (by first | (simp; done) | (simp; omega) | omega) ?_)); done) | (clear hq; rw [okB_x k n s (by simpa using h0) (by simpa using h1) (by simpa using h2) (by simpa using h3)])
theorem implValueOk_any (k n : Int) (s : ByteArray) (w : World) (hs : s.size ≤ maxLen) :
    Calls Tryz.prog 110 #[(.agg #[.int .i64 k, .int .i64 n, .string s])] w fun e w' => e = .returned (.bool (okB k n s)) ∧ Below w.heap.size w w' := by
  by_cases h0 : k = 0
  · subst h0; exact implValueOk_0 n s w
  by_cases h1 : k = 1
  · subst h1; exact implValueOk_1 n s w
  by_cases h2 : k = 2
  · subst h2; exact implValueOk_2 n s w
  by_cases h3 : k = 3
  · subst h3; exact implValueOk_3 n s w hs
  exact implValueOk_x k n s w (by simp [h0]) (by simp [h1]) (by simp [h2]) (by simp [h3])
end Go.Proofs.YtbmoimfimeiglaaGreat
namespace Go.Proofs.YtbmoimfimeiglaaGreat
open Go.RowKit
set_option linter.unusedVariables false
theorem okB_of {b : Bool} {k n : Int} {s : ByteArray} (h : b = okB k n s) : Ending.returned (.bool b) = .returned (.bool (okB k n s)) := by rw [h]
set_option maxHeartbeats 1000000 in
set_option maxRecDepth 100000 in
theorem specValueOk_any (k n : Int) (s : ByteArray) (w : World) (hs : s.size ≤ maxLen) :
    Calls Tryz.prog 103 #[(.agg #[.int .i64 k, .int .i64 n, .string s])] w fun e w' => e = .returned (.bool (okB k n s)) ∧ Below w.heap.size w w' := by
  unfold maxLen at hs
  go_enter Tryz.func103, Tryz.ntmps103
  go_wp2
  all_goals (go_returns; refine ⟨okB_of ?_, ?_⟩)
  all_goals first | (go_grown; done) | (simp_all [okB]; done) | (simp_all [okB]; omega)
end Go.Proofs.YtbmoimfimeiglaaGreat
namespace Go.Proofs.YtbmoimfimeiglaaGreat
open Go.RowKit
set_option linter.unusedVariables false
def okW (x : V3) : Bool := okB x.k x.n x.s
def okRow (vs : List V3) (W : Int) : Bool := decide ((vs.length : Int) = W) && vs.all okW
theorem all_step {vs : List V3} {k : Nat} {x : V3} (h : vs[k]? = some x) : (vs.drop k).all okW = (okW x && (vs.drop (k + 1)).all okW) := by
  obtain ⟨hk, rfl⟩ := List.getElem?_eq_some_iff.1 h
  rw [List.drop_eq_getElem_cons hk]
  rfl
set_option maxHeartbeats 2000000 in
set_option maxRecDepth 100000 in
theorem l02Row_any (v : Value) (vs : List V3) (W : Int) (w : World) (hr : RowIs w v vs) (hw : VsWf vs) :
    Calls Tryz.prog 79 #[v, .int .i64 W] w fun e w' => e = .returned (.bool (okRow vs W)) ∧ Below w.heap.size w w' := by
  obtain ⟨a, c, b, o, rfl, hl, hc, ha⟩ := hr.pick
  unfold maxLen at hc
  clear hr
  go_enter Tryz.func79, Tryz.ntmps79
  go_wp2
  go_loopw [5] (fun i wr => ∃ k : Nat, k ≤ vs.length ∧ i = .int .i64 k ∧ Below w.heap.size w wr ∧ vs.all okW = (vs.drop k).all okW) (fun i _ => vs.length - (intOf i).toNat)
  case atStart => exact ⟨0, Nat.zero_le _, rfl, by go_grown, by simp⟩
  case round =>
    obtain ⟨k, hk, rfl, hb, heq⟩ := hrel
    have HE : Hid (vs.all okW = (vs.drop k).all okW) := heq
    have hzb := hb.size
    clear heq
    by_cases hlt : k < vs.length
    · obtain ⟨rfl, hblt, hL⟩ := ha k hlt
      obtain ⟨x, hx, c0, c1, c2, hbr⟩ := hL.at hblt hb hlt
      have hxs : x.s.size ≤ maxLen := (hw x (List.mem_of_getElem? hx)).2.2
      have HS : Hid ((vs.drop k).all okW = (okW x && (vs.drop (k + 1)).all okW)) := all_step hx
      clear ha hL hx hw
      by_cases hok : okB x.k x.n x.s = true
      · go_wp2_with (go_at_call 103; refine (specValueOk_any _ _ _ _ hxs).mono ?_; rintro e w1 ⟨rfl, hb1⟩)
        go_roundw
        case rel =>
          refine ⟨k + 1, hlt, by simp, bela, ?_⟩
          rw [HE.out, HS.out, show okW x = true from hok, Bool.true_and]
        case measure => simp [intOf]; omega
      · go_wp2_with (go_at_call 103; refine (specValueOk_any _ _ _ _ hxs).mono ?_; rintro e w1 ⟨rfl, hb1⟩)
        go_returns
        refine ⟨ret_bool ?_, bela⟩
        have hf : okW x = false := by unfold okW; simpa using hok
        unfold okRow
        rw [HE.out, HS.out, hf]
        simp
    · clear ha hw
      go_wp2
      go_returns
      refine ⟨ret_bool ?_, hb⟩
      unfold okRow
      rw [HE.out, List.drop_eq_nil_of_le (by omega)]
      simp
      try rfl
set_option maxHeartbeats 2000000 in
set_option maxRecDepth 100000 in
theorem rowOk_any (v : Value) (vs : List V3) (W : Int) (w : World) (hr : RowIs w v vs) (hw : VsWf vs) :
    Calls Tryz.prog 90 #[v, .int .i64 W] w fun e w' => e = .returned (.bool (okRow vs W)) ∧ Below w.heap.size w w' := by
  obtain ⟨a, c, b, o, rfl, hl, hc, ha⟩ := hr.pick
  unfold maxLen at hc
  clear hr
  by_cases hW : (vs.length : Int) = W
  · subst hW
    go_enter Tryz.func90, Tryz.ntmps90
    go_wp2
    go_loopw [13] (fun i wr => ∃ k : Nat, k ≤ vs.length ∧ i = .int .i64 k ∧ Below w.heap.size w wr ∧ vs.all okW = (vs.drop k).all okW) (fun i _ => vs.length - (intOf i).toNat)
    case atStart => exact ⟨0, Nat.zero_le _, rfl, by go_grown, by simp⟩
    case round =>
      obtain ⟨k, hk, rfl, hb, heq⟩ := hrel
      have HE : Hid (vs.all okW = (vs.drop k).all okW) := heq
      have hzb := hb.size
      clear heq
      by_cases hlt : k < vs.length
      · obtain ⟨rfl, hblt, hL⟩ := ha k hlt
        obtain ⟨x, hx, c0, c1, c2, hbr⟩ := hL.at hblt hb hlt
        have hxs : x.s.size ≤ maxLen := (hw x (List.mem_of_getElem? hx)).2.2
        have HS : Hid ((vs.drop k).all okW = (okW x && (vs.drop (k + 1)).all okW)) := all_step hx
        clear ha hL hx hw
        by_cases hok : okB x.k x.n x.s = true
        · go_wp2_with (go_at_call 110; refine (implValueOk_any _ _ _ _ hxs).mono ?_; rintro e w1 ⟨rfl, hb1⟩; have hz1 := hb1.size; (try simp at hz1))
          go_roundw
          case rel =>
            refine ⟨k + 1, hlt, by simp, bela, ?_⟩
            rw [HE.out, HS.out, show okW x = true from hok, Bool.true_and]
          case measure => simp [intOf]; omega
        · go_wp2_with (go_at_call 110; refine (implValueOk_any _ _ _ _ hxs).mono ?_; rintro e w1 ⟨rfl, hb1⟩; have hz1 := hb1.size; (try simp at hz1))
          go_returns
          refine ⟨ret_bool ?_, bela⟩
          have hf : okW x = false := by unfold okW; simpa using hok
          unfold okRow
          rw [HE.out, HS.out, hf]
          simp
      · clear ha hw
        go_wp2
        go_returns
        refine ⟨ret_bool ?_, hb⟩
        unfold okRow
        rw [HE.out, List.drop_eq_nil_of_le (by omega)]
        simp
  · go_enter Tryz.func90, Tryz.ntmps90
    go_wp2
    go_returns
    exact ⟨ret_bool (by simp [okRow, hW]), by go_grown⟩
def okN (n : Int) : Bool := decide (n ≠ 0) && decide (-1000000000 ≤ n) && decide (n ≤ 1000000000)
set_option maxHeartbeats 1000000 in
theorem countOk_any (n : Int) (w : World) :
    Calls Tryz.prog 91 #[.int .i64 n] w fun e w' => e = .returned (.bool (okN n)) ∧ Below w.heap.size w w' := by
  by_cases h0 : n = 0
  · subst h0
    go_enter Tryz.func91, Tryz.ntmps91
    go_wp2
    go_returns
    exact ⟨ret_bool (by simp [okN]), by go_grown⟩
  · by_cases h1 : -1000000000 ≤ n
    · go_enter Tryz.func91, Tryz.ntmps91
      go_wp2
      go_returns
      exact ⟨ret_bool (by simp [okN, h0, h1]), by go_grown⟩
    · go_enter Tryz.func91, Tryz.ntmps91
      go_wp2
      go_returns
      exact ⟨ret_bool (by simp [okN, h0]; omega), by go_grown⟩
set_option maxHeartbeats 1000000 in
theorem l01In_any (n a b : Int) (w : World) :
    Calls Tryz.prog 51 #[.int .i64 n, .int .i64 a, .int .i64 b] w fun e w' => e = .returned (.bool (decide (a ≤ n) && decide (n ≤ b))) ∧ Below w.heap.size w w' := by
  by_cases h1 : a ≤ n
  · go_enter Tryz.func51, Tryz.ntmps51
    go_wp2
    go_returns
    exact ⟨ret_bool (by simp [h1]), by go_grown⟩
  · go_enter Tryz.func51, Tryz.ntmps51
    go_wp2
    go_returns
    exact ⟨ret_bool (by simp; omega), by go_grown⟩
end Go.Proofs.YtbmoimfimeiglaaGreat
