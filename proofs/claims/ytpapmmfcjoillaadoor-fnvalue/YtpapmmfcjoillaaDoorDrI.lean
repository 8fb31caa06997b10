/- Own text. What DrawGetValue draws. -/
import Derived.Test.YtpapmmfcjoillaaDoorDrP
import Derived.Test.YtpapmmfcjoillaaDoorDrB
import Derived.Test.YtpapmmfcjoillaaDoorPutS
import Derived.Handy
namespace Go.Proofs.YtpapmmfcjoillaaDoor
open Go.RowKit Go.Deep
set_option linter.unusedVariables false
theorem putS_size' (k n : Int) (s : ByteArray) (hs : s.size ≤ 100) : (putS k n s).size ≤ 102 := by
  unfold putS
  split
  · split
    · rw [nums_size]; simp
    · split
      · rw [nums_size, numL_len]; omega
      · split
        · rw [nums_size]; simp
        · rw [ByteArray.size_append, nums_size]; simp; omega
  · show 0 ≤ 102; omega
set_option maxHeartbeats 2000000 in
set_option maxRecDepth 100000 in
theorem drawGet_any (v : Value) (l : Nat) (w : World) (h : BytesB w w.heap.size v l) :
    Calls Tryd.prog 9 #[v] w fun e w' => (∃ (s : ByteArray) (i : Int), e = .returned (.tuple #[.string s, .int .i64 i]) ∧ s.size ≤ 105 ∧ -1 ≤ i ∧ i ≤ 9) ∧ Below w.heap.size w w' := by
  go_enter Tryd.func9, Tryd.ntmps9
  go_wp2_with fail
  refine (l01New_at w.heap.size v l _ rfl h).mono ?_
  rintro e w1 ⟨rfl, hc1, hb1⟩
  have hB0 := fun w2 => Drew.new (w2 := w2) (v := v) (l := l) (Below.refl w.heap.size w) hb1 rfl hc1.lt
  have hlt1 := hc1.lt
  clear hb1
  go_wp2_with fail
  refine (l01Any_any _ v l w1 hc1).mono ?_
  rintro e w2 ⟨⟨k, n, s, rfl, k0, k1, n0, n1, hs⟩, hd2⟩
  go_wp2_with fail
  refine (specPut_any k n s w2 (by unfold maxLen; omega)).mono ?_
  rintro e w3 ⟨rfl, hb3⟩
  have hD3 := (hc1.start.trans hd2).below hb3
  have hP := putS_size' k n s (by omega)
  generalize putS k n s = P at hP ⊢
  clear hd2 hb3 k0 k1 n0 n1 hs
  go_wp2_with fail
  have hT : (⟨#[120]⟩ ++ P ++ ⟨#[121, 121]⟩ : ByteArray).size ≤ 105 := by rw [ByteArray.size_append, ByteArray.size_append]; show 1 + P.size + 2 ≤ 105; omega
  generalize (⟨#[120]⟩ ++ P ++ ⟨#[121, 121]⟩ : ByteArray) = T at hT ⊢
  refine (l01Below_any 6 _ v l _ hD3.cur (by omega) (by omega)).mono ?_
  rintro e w4 ⟨⟨x, rfl, x0, x1⟩, hd4⟩
  have hD4 := hD3.trans hd4
  have hlt4 := hD4.cur.lt
  clear hD3 hd4
  by_cases e0 : x = 0
  · subst e0
    have hw : wrap64 ((T.size : Int) + 1) = (T.size : Int) + 1 := by unfold wrap64; omega
    go_wp2_with fail
    refine (l01Below_any ((T.size : Int) + 1) _ v l _ hD4.cur (by omega) (by omega)).mono ?_
    rintro e w5 ⟨⟨y, rfl, y0, y1⟩, hd5⟩
    have hB := hB0 w5 (hD4.trans hd5)
    clear hB0 hD4 hd5
    go_wp2
    go_returns
    exact ⟨⟨_, _, rfl, by rw [ByteArray.size_extract]; omega, by omega, by omega⟩, hB⟩
  by_cases e1 : x = 1
  · subst e1
    go_wp2_with fail
    refine (l01PickInt_any (fun x => -1 ≤ x ∧ x ≤ 9) w4.heap.size 4 4 w.heap.size v l _ (hD4.cur.start.alloc _).cur (by omega) (by omega) (by omega) (by omega) (by simp) ?_).mono ?_
    · intro j hj
      rw [cells_at]
      rcases j with _ | _ | _ | _ | j
      all_goals first | exact ⟨_, rfl, by decide, by decide⟩ | omega
    rintro e w5 ⟨⟨y, rfl, y0, y1⟩, hd5⟩
    have hB := hB0 w5 (hD4.trans ((hD4.cur.start.alloc _).trans hd5))
    clear hB0 hD4 hd5
    go_wp2
    go_returns
    exact ⟨⟨_, _, rfl, hT, y0, y1⟩, hB⟩
  have hB := hB0 w4 hD4
  have b0 : (x == 0) = false := by simp [e0]
  have b1 : (x == 1) = false := by simp [e1]
  clear hB0 hD4
  go_wp2
  go_returns
  exact ⟨⟨_, _, rfl, hT, by omega, by omega⟩, hB⟩
end Go.Proofs.YtpapmmfcjoillaaDoor
