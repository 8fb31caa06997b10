/- Own text. Whether a row is right: the contracts of spec.l02Row and impl.rowOk, impl.countOk, spec.l01In. -/
import Derived.Test.YtlobjpdkjlmglaaGreatBagC
import Derived.Test.YtlobjpdkjlmglaaGreatVOkImpl
import Derived.Test.YtlobjpdkjlmglaaGreatVOkSpec
import Derived.Handy
namespace Go.Proofs.YtlobjpdkjlmglaaGreat
open Go.RowKit
set_option linter.unusedVariables false
/-- whether a value is right. -/
def okW (x : V3) : Bool := okB x.k x.n x.s
/-- whether a row is right, with W values. -/
def okRow (vs : List V3) (W : Int) : Bool := decide ((vs.length : Int) = W) && vs.all okW
theorem all_step {vs : List V3} {k : Nat} {x : V3} (h : vs[k]? = some x) : (vs.drop k).all okW = (okW x && (vs.drop (k + 1)).all okW) := by
  obtain ⟨hk, rfl⟩ := List.getElem?_eq_some_iff.1 h
  rw [List.drop_eq_getElem_cons hk]
  rfl
set_option maxHeartbeats 2000000 in
set_option maxRecDepth 100000 in
theorem l02Row_any (v : Value) (vs : List V3) (W : Int) (w : World) (hr : RowIs w v vs) (hw : VsWf vs) :
    Calls Tryz.prog 89 #[v, .int .i64 W] w fun e w' => e = .returned (.bool (okRow vs W)) ∧ Below w.heap.size w w' := by
  obtain ⟨a, c, b, o, rfl, hl, hc, ha⟩ := hr.pick
  unfold maxLen at hc
  clear hr
  go_enter Tryz.func89, Tryz.ntmps89
  go_wp2
  go_loopw [5] (fun i wr => ∃ k : Nat, k ≤ vs.length ∧ i = .int .i64 k ∧ Below w.heap.size w wr ∧ vs.all okW = (vs.drop k).all okW) (fun i _ => vs.length - (intOf i).toNat)
  case atStart => exact ⟨0, Nat.zero_le _, rfl, by go_grown, by simp⟩
  case round =>
    obtain ⟨k, hk, rfl, hb, heq⟩ := hrel
    have HE : Hid (vs.all okW = (vs.drop k).all okW) := heq
    have hzb := hb.size
    clear heq
    by_cases hlt : k < vs.length
    · obtain ⟨rfl, hblt, hL⟩ := ha k hlt
      obtain ⟨x, hx, c0, c1, c2, hbr⟩ := hL.at hblt hb hlt
      have hxs : x.s.size ≤ maxLen := (hw x (List.mem_of_getElem? hx)).2.2
      have HS : Hid ((vs.drop k).all okW = (okW x && (vs.drop (k + 1)).all okW)) := all_step hx
      clear ha hL hx hw
      by_cases hok : okB x.k x.n x.s = true
      · go_wp2_with (go_at_call 117; refine (specValueOk_any _ _ _ _ hxs).mono ?_; rintro e w1 ⟨rfl, hb1⟩)
        go_roundw
        case rel =>
          refine ⟨k + 1, hlt, by simp, by repeat (first | exact Below.refl _ _ | refine Below.drew ?_ | refine Below.alloc ?_ (by first | (simp; done) | (simp; omega) | omega) _ | refine Below.setCell ?_ (by first | (simp; done) | (simp; omega) | omega) _ | refine bstep (by assumption) (by first | (simp; done) | (simp; omega) | omega) ?_), ?_⟩
          rw [HE.out, HS.out, show okW x = true from hok, Bool.true_and]
        case measure => simp [intOf]; omega
      · go_wp2_with (go_at_call 117; refine (specValueOk_any _ _ _ _ hxs).mono ?_; rintro e w1 ⟨rfl, hb1⟩)
        go_returns
        refine ⟨ret_bool ?_, by repeat (first | exact Below.refl _ _ | refine Below.drew ?_ | refine Below.alloc ?_ (by first | (simp; done) | (simp; omega) | omega) _ | refine Below.setCell ?_ (by first | (simp; done) | (simp; omega) | omega) _ | refine bstep (by assumption) (by first | (simp; done) | (simp; omega) | omega) ?_)⟩
        have hf : okW x = false := by unfold okW; simpa using hok
        unfold okRow
        rw [HE.out, HS.out, hf]
        simp
    · clear ha hw
      go_wp2
      go_returns
      refine ⟨ret_bool ?_, hb⟩
      unfold okRow
      rw [HE.out, List.drop_eq_nil_of_le (by omega)]
      simp
      try rfl
set_option maxHeartbeats 2000000 in
set_option maxRecDepth 100000 in
theorem rowOk_any (v : Value) (vs : List V3) (W : Int) (w : World) (hr : RowIs w v vs) (hw : VsWf vs) :
    Calls Tryz.prog 104 #[v, .int .i64 W] w fun e w' => e = .returned (.bool (okRow vs W)) ∧ Below w.heap.size w w' := by
  obtain ⟨a, c, b, o, rfl, hl, hc, ha⟩ := hr.pick
  unfold maxLen at hc
  clear hr
  by_cases hW : (vs.length : Int) = W
  · subst hW
    go_enter Tryz.func104, Tryz.ntmps104
    go_wp2
    go_loopw [13] (fun i wr => ∃ k : Nat, k ≤ vs.length ∧ i = .int .i64 k ∧ Below w.heap.size w wr ∧ vs.all okW = (vs.drop k).all okW) (fun i _ => vs.length - (intOf i).toNat)
    case atStart => exact ⟨0, Nat.zero_le _, rfl, by go_grown, by simp⟩
    case round =>
      obtain ⟨k, hk, rfl, hb, heq⟩ := hrel
      have HE : Hid (vs.all okW = (vs.drop k).all okW) := heq
      have hzb := hb.size
      clear heq
      by_cases hlt : k < vs.length
      · obtain ⟨rfl, hblt, hL⟩ := ha k hlt
        obtain ⟨x, hx, c0, c1, c2, hbr⟩ := hL.at hblt hb hlt
        have hxs : x.s.size ≤ maxLen := (hw x (List.mem_of_getElem? hx)).2.2
        have HS : Hid ((vs.drop k).all okW = (okW x && (vs.drop (k + 1)).all okW)) := all_step hx
        clear ha hL hx hw
        by_cases hok : okB x.k x.n x.s = true
        · go_wp2_with (go_at_call 127; refine (implValueOk_any _ _ _ _ hxs).mono ?_; rintro e w1 ⟨rfl, hb1⟩; have hz1 := hb1.size; (try simp at hz1))
          go_roundw
          case rel =>
            refine ⟨k + 1, hlt, by simp, by repeat (first | exact Below.refl _ _ | refine Below.drew ?_ | refine Below.alloc ?_ (by first | (simp; done) | (simp; omega) | omega) _ | refine Below.setCell ?_ (by first | (simp; done) | (simp; omega) | omega) _ | refine bstep (by assumption) (by first | (simp; done) | (simp; omega) | omega) ?_), ?_⟩
            rw [HE.out, HS.out, show okW x = true from hok, Bool.true_and]
          case measure => simp [intOf]; omega
        · go_wp2_with (go_at_call 127; refine (implValueOk_any _ _ _ _ hxs).mono ?_; rintro e w1 ⟨rfl, hb1⟩; have hz1 := hb1.size; (try simp at hz1))
          go_returns
          refine ⟨ret_bool ?_, by repeat (first | exact Below.refl _ _ | refine Below.drew ?_ | refine Below.alloc ?_ (by first | (simp; done) | (simp; omega) | omega) _ | refine Below.setCell ?_ (by first | (simp; done) | (simp; omega) | omega) _ | refine bstep (by assumption) (by first | (simp; done) | (simp; omega) | omega) ?_)⟩
          have hf : okW x = false := by unfold okW; simpa using hok
          unfold okRow
          rw [HE.out, HS.out, hf]
          simp
      · clear ha hw
        go_wp2
        go_returns
        refine ⟨ret_bool ?_, hb⟩
        unfold okRow
        rw [HE.out, List.drop_eq_nil_of_le (by omega)]
        simp
  · go_enter Tryz.func104, Tryz.ntmps104
    go_wp2
    go_returns
    exact ⟨ret_bool (by simp [okRow, hW]), by go_grown⟩
/-- whether a count is right. -/
def okN (n : Int) : Bool := decide (n ≠ 0) && decide (-1000000000 ≤ n) && decide (n ≤ 1000000000)
set_option maxHeartbeats 1000000 in
theorem countOk_any (n : Int) (w : World) :
    Calls Tryz.prog 105 #[.int .i64 n] w fun e w' => e = .returned (.bool (okN n)) ∧ Below w.heap.size w w' := by
  by_cases h0 : n = 0
  · subst h0
    go_enter Tryz.func105, Tryz.ntmps105
    go_wp2
    go_returns
    exact ⟨ret_bool (by simp [okN]), by go_grown⟩
  · by_cases h1 : -1000000000 ≤ n
    · go_enter Tryz.func105, Tryz.ntmps105
      go_wp2
      go_returns
      exact ⟨ret_bool (by simp [okN, h0, h1]), by go_grown⟩
    · go_enter Tryz.func105, Tryz.ntmps105
      go_wp2
      go_returns
      exact ⟨ret_bool (by simp [okN, h0]; omega), by go_grown⟩
set_option maxHeartbeats 1000000 in
theorem l01In_any (n a b : Int) (w : World) :
    Calls Tryz.prog 55 #[.int .i64 n, .int .i64 a, .int .i64 b] w fun e w' => e = .returned (.bool (decide (a ≤ n) && decide (n ≤ b))) ∧ Below w.heap.size w w' := by
  by_cases h1 : a ≤ n
  · go_enter Tryz.func55, Tryz.ntmps55
    go_wp2
    go_returns
    exact ⟨ret_bool (by simp [h1]), by go_grown⟩
  · go_enter Tryz.func55, Tryz.ntmps55
    go_wp2
    go_returns
    exact ⟨ret_bool (by simp; omega), by go_grown⟩
end Go.Proofs.YtlobjpdkjlmglaaGreat
