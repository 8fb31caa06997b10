/- Own text. The contracts of both GetValue, joined: they answer getT. -/
import Derived.Test.YtiaafgmjigbjlaaGreatDoorGetSB
namespace Go.Proofs.YtiaafgmjigbjlaaGreatDoor
open Go.RowKit
set_option linter.unusedVariables false
set_option maxHeartbeats 1000000 in
set_option maxRecDepth 100000 in
theorem implGet_out (s : ByteArray) (i : Int) (w : World) (hs : s.size ≤ 1048576) (h : ¬ (0 ≤ i ∧ i < s.size)) :
    Calls Tryz.prog 44 #[.string s, .int .i64 i] w fun e w' => e = .returned (.tuple #[.agg #[.int .i64 0, .int .i64 0, .string ⟨#[]⟩], .int .i64 (-1)]) ∧ Below w.heap.size w w' := by
  by_cases h0 : i < 0
  · clear h
    go_enter Tryz.func44, Tryz.ntmps44
    go_wp2
    go_returns
    exact ⟨rfl, by go_grown⟩
  · have hd : decide (i < 0) = false := by simp; omega
    have hg : (s.size : Int) ≤ i := by omega
    clear h h0
    go_enter Tryz.func44, Tryz.ntmps44
    go_wp2
    go_returns
    exact ⟨rfl, by go_grown⟩
theorem implGet_any (s : ByteArray) (i : Int) (w : World) (hs : s.size ≤ 1048576) :
    Calls Tryz.prog 44 #[.string s, .int .i64 i] w fun e w' => e = .returned (.tuple #[.agg #[.int .i64 (getT s i).1, .int .i64 (getT s i).2.1, .string (getT s i).2.2.1], .int .i64 (getT s i).2.2.2]) ∧ Below w.heap.size w w' := by
  by_cases h : 0 ≤ i ∧ i < s.size
  · obtain ⟨j, rfl⟩ := Int.eq_ofNat_of_zero_le h.1
    have hj : j < s.size := by omega
    rw [getT_in s j hj]
    by_cases h0 : bAt s j = 0
    · rw [getN_0 s j h0]; exact get_0 s j 0 w hj hs h0
    by_cases h1 : bAt s j = 1
    · by_cases h9 : j + 9 ≤ s.size
      · rw [getN_1 s j h1 h9]
        have := get_1 s j 0 w hj hs h1 h9
        rw [numAt_extract s j h9] at this; exact this
      · rw [getN_x s j h0 (by omega) (by omega) (by omega)]; exact get_1n s j 0 w hj hs h1 (by omega)
    by_cases h2 : bAt s j = 2
    · by_cases hr : j + 2 ≤ s.size
      · by_cases hm : bAt s (j + 1) ≤ 1
        · rw [getN_2 s j h2 hr hm]; exact get_2 s j _ w hj hs h2 hr rfl (by omega)
        · rw [getN_x s j h0 (by omega) (by omega) (by omega)]; exact get_2x s j _ w hj hs h2 hr rfl (by omega)
      · rw [getN_x s j h0 (by omega) (by omega) (by omega)]; exact get_2n s j 0 w hj hs h2 (by omega)
    by_cases h3 : bAt s j = 3
    · by_cases hr : j + 2 ≤ s.size
      · by_cases hn : j + 2 + bAt s (j + 1) ≤ s.size
        · by_cases hm : bAt s (j + 1) ≤ 100
          · rw [getN_3 s j h3 hr hn hm]
            have := get_3 s j _ w hj hs h3 hr rfl hn hm
            rw [extract_extract' s j s.size 2 (2 + bAt s (j + 1)) (by omega), show j + (2 + bAt s (j + 1)) = j + 2 + bAt s (j + 1) from by omega] at this; exact this
          · rw [getN_x s j h0 (by omega) (by omega) (by omega)]; exact get_3x s j _ w hj hs h3 hr rfl hn (by omega)
        · rw [getN_x s j h0 (by omega) (by omega) (by omega)]; exact get_3m s j _ w hj hs h3 hr rfl (by omega)
      · rw [getN_x s j h0 (by omega) (by omega) (by omega)]; exact get_3n s j 0 w hj hs h3 (by omega)
    · rw [getN_x s j h0 (by omega) (by omega) (by omega)]; exact get_4 s j 0 w hj hs (by omega)
  · rw [getT_out s i h]; exact implGet_out s i w hs h
set_option maxHeartbeats 1000000 in
set_option maxRecDepth 100000 in
theorem specGet_out (s : ByteArray) (i : Int) (w : World) (hs : s.size ≤ 1048576) (h : ¬ (0 ≤ i ∧ i < s.size)) :
    Calls Tryz.prog 23 #[.string s, .int .i64 i] w fun e w' => e = .returned (.tuple #[.agg #[.int .i64 0, .int .i64 0, .string ⟨#[]⟩], .int .i64 (-1)]) ∧ Below w.heap.size w w' := by
  have hin : inB i 0 ((s.size : Int) - 1) = false := by simp [inB]; omega
  clear h
  go_enter Tryz.func23, Tryz.ntmps23
  go_wp2_with (first | (go_at_call 34; refine (l01InN_any _ _ _ _).mono ?_; rintro e w' ⟨rfl, rfl⟩))
  go_returns
  exact ⟨rfl, by go_grown⟩
theorem specGet_any (s : ByteArray) (i : Int) (w : World) (hs : s.size ≤ 1048576) :
    Calls Tryz.prog 23 #[.string s, .int .i64 i] w fun e w' => e = .returned (.tuple #[.agg #[.int .i64 (getT s i).1, .int .i64 (getT s i).2.1, .string (getT s i).2.2.1], .int .i64 (getT s i).2.2.2]) ∧ Below w.heap.size w w' := by
  by_cases h : 0 ≤ i ∧ i < s.size
  · obtain ⟨j, rfl⟩ := Int.eq_ofNat_of_zero_le h.1
    have hj : j < s.size := by omega
    rw [getT_in s j hj]
    by_cases h0 : bAt s j = 0
    · rw [getN_0 s j h0]; exact sget_0 s j 0 w hj hs h0
    by_cases h1 : bAt s j = 1
    · by_cases h9 : j + 9 ≤ s.size
      · rw [getN_1 s j h1 h9]
        have := sget_1 s j 0 w hj hs h1 h9
        exact this
      · rw [getN_x s j h0 (by omega) (by omega) (by omega)]; exact sget_1n s j 0 w hj hs h1 (by omega)
    by_cases h2 : bAt s j = 2
    · by_cases hr : j + 2 ≤ s.size
      · by_cases hm : bAt s (j + 1) ≤ 1
        · rw [getN_2 s j h2 hr hm]; exact sget_2 s j _ w hj hs h2 hr rfl (by omega)
        · rw [getN_x s j h0 (by omega) (by omega) (by omega)]; exact sget_2x s j _ w hj hs h2 hr rfl (by omega)
      · rw [getN_x s j h0 (by omega) (by omega) (by omega)]; exact sget_2n s j 0 w hj hs h2 (by omega)
    by_cases h3 : bAt s j = 3
    · by_cases hr : j + 2 ≤ s.size
      · by_cases hn : j + 2 + bAt s (j + 1) ≤ s.size
        · by_cases hm : bAt s (j + 1) ≤ 100
          · rw [getN_3 s j h3 hr hn hm]
            have := sget_3 s j _ w hj hs h3 hr rfl hn hm
            exact this
          · rw [getN_x s j h0 (by omega) (by omega) (by omega)]; exact sget_3x s j _ w hj hs h3 hr rfl hn (by omega)
        · rw [getN_x s j h0 (by omega) (by omega) (by omega)]; exact sget_3m s j _ w hj hs h3 hr rfl (by omega)
      · rw [getN_x s j h0 (by omega) (by omega) (by omega)]; exact sget_3n s j 0 w hj hs h3 (by omega)
    · rw [getN_x s j h0 (by omega) (by omega) (by omega)]; exact sget_4 s j 0 w hj hs (by omega)
  · rw [getT_out s i h]; exact specGet_out s i w hs h
end Go.Proofs.YtiaafgmjigbjlaaGreatDoor
