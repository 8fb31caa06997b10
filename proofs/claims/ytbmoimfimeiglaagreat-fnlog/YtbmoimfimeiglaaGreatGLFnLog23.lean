/- Own texts, joined: contracts that the law's proof goes by. -/
import Derived.Test.YtbmoimfimeiglaaGreatGLFnLog22
import Derived.Test.YtbmoimfimeiglaaGreatGLFnLog16
import Derived.Laws.BytesArg
import Derived.Handy
namespace Go.Proofs.YtbmoimfimeiglaaGreat
open Go.RowKit
set_option linter.unusedVariables false
set_option maxHeartbeats 1000000 in
set_option maxRecDepth 100000 in
theorem implGet_out (s : ByteArray) (i : Int) (w : World) (hs : s.size ≤ 1048576) (h : ¬ (0 ≤ i ∧ i < s.size)) :
    Calls Tryz.prog 125 #[.string s, .int .i64 i] w fun e w' => e = .returned (.tuple #[.agg #[.int .i64 0, .int .i64 0, .string ⟨#[]⟩], .int .i64 (-1)]) ∧ Below w.heap.size w w' := by
  by_cases h0 : i < 0
  · clear h
    go_enter Tryz.func125, Tryz.ntmps125
    go_wp2
    go_returns
    exact ⟨rfl, by go_grown⟩
  · have hd : decide (i < 0) = false := by simp; omega
    have hg : (s.size : Int) ≤ i := by omega
    clear h h0
    go_enter Tryz.func125, Tryz.ntmps125
    go_wp2
    go_returns
    exact ⟨rfl, by go_grown⟩
theorem implGet_any (s : ByteArray) (i : Int) (w : World) (hs : s.size ≤ 1048576) :
    Calls Tryz.prog 125 #[.string s, .int .i64 i] w fun e w' => e = .returned (.tuple #[.agg #[.int .i64 (getT s i).1, .int .i64 (getT s i).2.1, .string (getT s i).2.2.1], .int .i64 (getT s i).2.2.2]) ∧ Below w.heap.size w w' := by
  by_cases h : 0 ≤ i ∧ i < s.size
  · obtain ⟨j, rfl⟩ := Int.eq_ofNat_of_zero_le h.1
    have hj : j < s.size := by omega
    rw [getT_in s j hj]
    by_cases h0 : bAt s j = 0
    · rw [getN_0 s j h0]; exact get_0 s j 0 w hj hs h0
    by_cases h1 : bAt s j = 1
    · by_cases h9 : j + 9 ≤ s.size
      · rw [getN_1 s j h1 h9]
        have := get_1 s j 0 w hj hs h1 h9
        rw [numAt_extract s j h9] at this; exact this
      · rw [getN_x s j h0 (by omega) (by omega) (by omega)]; exact get_1n s j 0 w hj hs h1 (by omega)
    by_cases h2 : bAt s j = 2
    · by_cases hr : j + 2 ≤ s.size
      · by_cases hm : bAt s (j + 1) ≤ 1
        · rw [getN_2 s j h2 hr hm]; exact get_2 s j _ w hj hs h2 hr rfl (by omega)
        · rw [getN_x s j h0 (by omega) (by omega) (by omega)]; exact get_2x s j _ w hj hs h2 hr rfl (by omega)
      · rw [getN_x s j h0 (by omega) (by omega) (by omega)]; exact get_2n s j 0 w hj hs h2 (by omega)
    by_cases h3 : bAt s j = 3
    · by_cases hr : j + 2 ≤ s.size
      · by_cases hn : j + 2 + bAt s (j + 1) ≤ s.size
        · by_cases hm : bAt s (j + 1) ≤ 100
          · rw [getN_3 s j h3 hr hn hm]
            have := get_3 s j _ w hj hs h3 hr rfl hn hm
            rw [extract_extract' s j s.size 2 (2 + bAt s (j + 1)) (by omega), show j + (2 + bAt s (j + 1)) = j + 2 + bAt s (j + 1) from by omega] at this; exact this
          · rw [getN_x s j h0 (by omega) (by omega) (by omega)]; exact get_3x s j _ w hj hs h3 hr rfl hn (by omega)
        · rw [getN_x s j h0 (by omega) (by omega) (by omega)]; exact get_3m s j _ w hj hs h3 hr rfl (by omega)
      · rw [getN_x s j h0 (by omega) (by omega) (by omega)]; exact get_3n s j 0 w hj hs h3 (by omega)
    · rw [getN_x s j h0 (by omega) (by omega) (by omega)]; exact get_4 s j 0 w hj hs (by omega)
  · rw [getT_out s i h]; exact implGet_out s i w hs h
set_option maxHeartbeats 1000000 in
set_option maxRecDepth 100000 in
theorem specGet_out (s : ByteArray) (i : Int) (w : World) (hs : s.size ≤ 1048576) (h : ¬ (0 ≤ i ∧ i < s.size)) :
    Calls Tryz.prog 71 #[.string s, .int .i64 i] w fun e w' => e = .returned (.tuple #[.agg #[.int .i64 0, .int .i64 0, .string ⟨#[]⟩], .int .i64 (-1)]) ∧ Below w.heap.size w w' := by
  have hin : inB i 0 ((s.size : Int) - 1) = false := by simp [inB]; omega
  clear h
  go_enter Tryz.func71, Tryz.ntmps71
  go_wp2_with (first | (go_at_call 51; refine (l01InN_any _ _ _ _).mono ?_; rintro e w' ⟨rfl, rfl⟩))
  go_returns
  exact ⟨rfl, by go_grown⟩
theorem specGet_any (s : ByteArray) (i : Int) (w : World) (hs : s.size ≤ 1048576) :
    Calls Tryz.prog 71 #[.string s, .int .i64 i] w fun e w' => e = .returned (.tuple #[.agg #[.int .i64 (getT s i).1, .int .i64 (getT s i).2.1, .string (getT s i).2.2.1], .int .i64 (getT s i).2.2.2]) ∧ Below w.heap.size w w' := by
  by_cases h : 0 ≤ i ∧ i < s.size
  · obtain ⟨j, rfl⟩ := Int.eq_ofNat_of_zero_le h.1
    have hj : j < s.size := by omega
    rw [getT_in s j hj]
    by_cases h0 : bAt s j = 0
    · rw [getN_0 s j h0]; exact sget_0 s j 0 w hj hs h0
    by_cases h1 : bAt s j = 1
    · by_cases h9 : j + 9 ≤ s.size
      · rw [getN_1 s j h1 h9]
        have := sget_1 s j 0 w hj hs h1 h9
        exact this
      · rw [getN_x s j h0 (by omega) (by omega) (by omega)]; exact sget_1n s j 0 w hj hs h1 (by omega)
    by_cases h2 : bAt s j = 2
    · by_cases hr : j + 2 ≤ s.size
      · by_cases hm : bAt s (j + 1) ≤ 1
        · rw [getN_2 s j h2 hr hm]; exact sget_2 s j _ w hj hs h2 hr rfl (by omega)
        · rw [getN_x s j h0 (by omega) (by omega) (by omega)]; exact sget_2x s j _ w hj hs h2 hr rfl (by omega)
      · rw [getN_x s j h0 (by omega) (by omega) (by omega)]; exact sget_2n s j 0 w hj hs h2 (by omega)
    by_cases h3 : bAt s j = 3
    · by_cases hr : j + 2 ≤ s.size
      · by_cases hn : j + 2 + bAt s (j + 1) ≤ s.size
        · by_cases hm : bAt s (j + 1) ≤ 100
          · rw [getN_3 s j h3 hr hn hm]
            have := sget_3 s j _ w hj hs h3 hr rfl hn hm
            exact this
          · rw [getN_x s j h0 (by omega) (by omega) (by omega)]; exact sget_3x s j _ w hj hs h3 hr rfl hn (by omega)
        · rw [getN_x s j h0 (by omega) (by omega) (by omega)]; exact sget_3m s j _ w hj hs h3 hr rfl (by omega)
      · rw [getN_x s j h0 (by omega) (by omega) (by omega)]; exact sget_3n s j 0 w hj hs h3 (by omega)
    · rw [getN_x s j h0 (by omega) (by omega) (by omega)]; exact sget_4 s j 0 w hj hs (by omega)
  · rw [getT_out s i h]; exact specGet_out s i w hs h
end Go.Proofs.YtbmoimfimeiglaaGreat
namespace Go.Proofs.YtbmoimfimeiglaaGreat
open Go.RowKit
set_option linter.unusedVariables false
def tV (s : ByteArray) (i : Int) : V3 := ⟨(getT s i).1, (getT s i).2.1, (getT s i).2.2.1⟩
def tJ (s : ByteArray) (i : Int) : Int := (getT s i).2.2.2
def vB (x : V3) : List UInt8 := (putS x.k x.n x.s).data.toList
theorem drop_byte (s : ByteArray) (a : Nat) (h : a < s.size) : s.data.toList.drop a = UInt8.ofNat (bAt s a) :: s.data.toList.drop (a + 1) := by
  have h' : a < s.data.toList.length := by simpa using h
  rw [List.drop_eq_getElem_cons h']
  congr 1
  unfold bAt
  rw [List.getD_eq_getElem?_getD, List.getElem?_eq_getElem h']
  simp
theorem be8 (c0 c1 c2 c3 c4 c5 c6 c7 : UInt8) : be [c0, c1, c2, c3, c4, c5, c6, c7] = ((((((((c0.toNat : Int) * 256 + (c1.toNat : Int)) * 256 + (c2.toNat : Int)) * 256 + (c3.toNat : Int)) * 256 + (c4.toNat : Int)) * 256 + (c5.toNat : Int)) * 256 + (c6.toNat : Int)) * 256 + (c7.toNat : Int)) := by
  simp [be]; omega
theorem num_part (A r M A' c : Int) (hM : 0 < M) (hr : 0 ≤ r) (hr' : r < M) (hA : A = A' * 256 + c) (hc : 0 ≤ c) (hc' : c < 256) : (A * M + r) / M % 256 = c := by
  rw [Int.add_comm, Int.add_mul_ediv_right _ _ (by omega), Int.ediv_eq_zero_of_lt hr hr', Int.zero_add, hA]
  omega
theorem num_round (l : List UInt8) (h : l.length = 8) : ((List.range 8).map (numB (wrap64 (be l)))).map (fun n => UInt8.ofNat n.toNat) = l := by
  match l, h with
  | [c0, c1, c2, c3, c4, c5, c6, c7], _ =>
    have hb := be_bd8 [c0, c1, c2, c3, c4, c5, c6, c7] (by simp)
    have hw : IntKind.u64.wrap (wrap64 (be [c0, c1, c2, c3, c4, c5, c6, c7])) = be [c0, c1, c2, c3, c4, c5, c6, c7] := by
      rw [IntKind.wrap_u64]; unfold wrap64; omega
    have e := be8 c0 c1 c2 c3 c4 c5 c6 c7
    have g0 := c0.toNat_lt
    have g1 := c1.toNat_lt
    have g2 := c2.toNat_lt
    have g3 := c3.toNat_lt
    have g4 := c4.toNat_lt
    have g5 := c5.toNat_lt
    have g6 := c6.toNat_lt
    have g7 := c7.toNat_lt
    have k0 : numB (wrap64 (be [c0, c1, c2, c3, c4, c5, c6, c7])) 0 = c0.toNat := by
      have e' : ((((((((c0.toNat : Int) * 256 + (c1.toNat : Int)) * 256 + (c2.toNat : Int)) * 256 + (c3.toNat : Int)) * 256 + (c4.toNat : Int)) * 256 + (c5.toNat : Int)) * 256 + (c6.toNat : Int)) * 256 + (c7.toNat : Int)) = (c0.toNat : Int) * 72057594037927936 + (((((((c1.toNat : Int) * 256 + (c2.toNat : Int)) * 256 + (c3.toNat : Int)) * 256 + (c4.toNat : Int)) * 256 + (c5.toNat : Int)) * 256 + (c6.toNat : Int)) * 256 + (c7.toNat : Int)) := by omega
      unfold numB
      rw [hw, e, e', show (2 : Int) ^ (8 * (7 - 0)) = 72057594037927936 from rfl]
      exact num_part _ _ _ (0 : Int) _ (by omega) (by omega) (by omega) (by omega) (by omega) (by omega)
    have k1 : numB (wrap64 (be [c0, c1, c2, c3, c4, c5, c6, c7])) 1 = c1.toNat := by
      have e' : ((((((((c0.toNat : Int) * 256 + (c1.toNat : Int)) * 256 + (c2.toNat : Int)) * 256 + (c3.toNat : Int)) * 256 + (c4.toNat : Int)) * 256 + (c5.toNat : Int)) * 256 + (c6.toNat : Int)) * 256 + (c7.toNat : Int)) = ((c0.toNat : Int) * 256 + (c1.toNat : Int)) * 281474976710656 + ((((((c2.toNat : Int) * 256 + (c3.toNat : Int)) * 256 + (c4.toNat : Int)) * 256 + (c5.toNat : Int)) * 256 + (c6.toNat : Int)) * 256 + (c7.toNat : Int)) := by omega
      unfold numB
      rw [hw, e, e', show (2 : Int) ^ (8 * (7 - 1)) = 281474976710656 from rfl]
      exact num_part _ _ _ (c0.toNat : Int) _ (by omega) (by omega) (by omega) (by omega) (by omega) (by omega)
    have k2 : numB (wrap64 (be [c0, c1, c2, c3, c4, c5, c6, c7])) 2 = c2.toNat := by
      have e' : ((((((((c0.toNat : Int) * 256 + (c1.toNat : Int)) * 256 + (c2.toNat : Int)) * 256 + (c3.toNat : Int)) * 256 + (c4.toNat : Int)) * 256 + (c5.toNat : Int)) * 256 + (c6.toNat : Int)) * 256 + (c7.toNat : Int)) = (((c0.toNat : Int) * 256 + (c1.toNat : Int)) * 256 + (c2.toNat : Int)) * 1099511627776 + (((((c3.toNat : Int) * 256 + (c4.toNat : Int)) * 256 + (c5.toNat : Int)) * 256 + (c6.toNat : Int)) * 256 + (c7.toNat : Int)) := by omega
      unfold numB
      rw [hw, e, e', show (2 : Int) ^ (8 * (7 - 2)) = 1099511627776 from rfl]
      exact num_part _ _ _ ((c0.toNat : Int) * 256 + (c1.toNat : Int)) _ (by omega) (by omega) (by omega) (by omega) (by omega) (by omega)
    have k3 : numB (wrap64 (be [c0, c1, c2, c3, c4, c5, c6, c7])) 3 = c3.toNat := by
      have e' : ((((((((c0.toNat : Int) * 256 + (c1.toNat : Int)) * 256 + (c2.toNat : Int)) * 256 + (c3.toNat : Int)) * 256 + (c4.toNat : Int)) * 256 + (c5.toNat : Int)) * 256 + (c6.toNat : Int)) * 256 + (c7.toNat : Int)) = ((((c0.toNat : Int) * 256 + (c1.toNat : Int)) * 256 + (c2.toNat : Int)) * 256 + (c3.toNat : Int)) * 4294967296 + ((((c4.toNat : Int) * 256 + (c5.toNat : Int)) * 256 + (c6.toNat : Int)) * 256 + (c7.toNat : Int)) := by omega
      unfold numB
      rw [hw, e, e', show (2 : Int) ^ (8 * (7 - 3)) = 4294967296 from rfl]
      exact num_part _ _ _ (((c0.toNat : Int) * 256 + (c1.toNat : Int)) * 256 + (c2.toNat : Int)) _ (by omega) (by omega) (by omega) (by omega) (by omega) (by omega)
    have k4 : numB (wrap64 (be [c0, c1, c2, c3, c4, c5, c6, c7])) 4 = c4.toNat := by
      have e' : ((((((((c0.toNat : Int) * 256 + (c1.toNat : Int)) * 256 + (c2.toNat : Int)) * 256 + (c3.toNat : Int)) * 256 + (c4.toNat : Int)) * 256 + (c5.toNat : Int)) * 256 + (c6.toNat : Int)) * 256 + (c7.toNat : Int)) = (((((c0.toNat : Int) * 256 + (c1.toNat : Int)) * 256 + (c2.toNat : Int)) * 256 + (c3.toNat : Int)) * 256 + (c4.toNat : Int)) * 16777216 + (((c5.toNat : Int) * 256 + (c6.toNat : Int)) * 256 + (c7.toNat : Int)) := by omega
      unfold numB
      rw [hw, e, e', show (2 : Int) ^ (8 * (7 - 4)) = 16777216 from rfl]
      exact num_part _ _ _ ((((c0.toNat : Int) * 256 + (c1.toNat : Int)) * 256 + (c2.toNat : Int)) * 256 + (c3.toNat : Int)) _ (by omega) (by omega) (by omega) (by omega) (by omega) (by omega)
    have k5 : numB (wrap64 (be [c0, c1, c2, c3, c4, c5, c6, c7])) 5 = c5.toNat := by
      have e' : ((((((((c0.toNat : Int) * 256 + (c1.toNat : Int)) * 256 + (c2.toNat : Int)) * 256 + (c3.toNat : Int)) * 256 + (c4.toNat : Int)) * 256 + (c5.toNat : Int)) * 256 + (c6.toNat : Int)) * 256 + (c7.toNat : Int)) = ((((((c0.toNat : Int) * 256 + (c1.toNat : Int)) * 256 + (c2.toNat : Int)) * 256 + (c3.toNat : Int)) * 256 + (c4.toNat : Int)) * 256 + (c5.toNat : Int)) * 65536 + ((c6.toNat : Int) * 256 + (c7.toNat : Int)) := by omega
      unfold numB
      rw [hw, e, e', show (2 : Int) ^ (8 * (7 - 5)) = 65536 from rfl]
      exact num_part _ _ _ (((((c0.toNat : Int) * 256 + (c1.toNat : Int)) * 256 + (c2.toNat : Int)) * 256 + (c3.toNat : Int)) * 256 + (c4.toNat : Int)) _ (by omega) (by omega) (by omega) (by omega) (by omega) (by omega)
    have k6 : numB (wrap64 (be [c0, c1, c2, c3, c4, c5, c6, c7])) 6 = c6.toNat := by
      have e' : ((((((((c0.toNat : Int) * 256 + (c1.toNat : Int)) * 256 + (c2.toNat : Int)) * 256 + (c3.toNat : Int)) * 256 + (c4.toNat : Int)) * 256 + (c5.toNat : Int)) * 256 + (c6.toNat : Int)) * 256 + (c7.toNat : Int)) = (((((((c0.toNat : Int) * 256 + (c1.toNat : Int)) * 256 + (c2.toNat : Int)) * 256 + (c3.toNat : Int)) * 256 + (c4.toNat : Int)) * 256 + (c5.toNat : Int)) * 256 + (c6.toNat : Int)) * 256 + (c7.toNat : Int) := by omega
      unfold numB
      rw [hw, e, e', show (2 : Int) ^ (8 * (7 - 6)) = 256 from rfl]
      exact num_part _ _ _ ((((((c0.toNat : Int) * 256 + (c1.toNat : Int)) * 256 + (c2.toNat : Int)) * 256 + (c3.toNat : Int)) * 256 + (c4.toNat : Int)) * 256 + (c5.toNat : Int)) _ (by omega) (by omega) (by omega) (by omega) (by omega) (by omega)
    have k7 : numB (wrap64 (be [c0, c1, c2, c3, c4, c5, c6, c7])) 7 = c7.toNat := by
      have e' : ((((((((c0.toNat : Int) * 256 + (c1.toNat : Int)) * 256 + (c2.toNat : Int)) * 256 + (c3.toNat : Int)) * 256 + (c4.toNat : Int)) * 256 + (c5.toNat : Int)) * 256 + (c6.toNat : Int)) * 256 + (c7.toNat : Int)) = ((((((((c0.toNat : Int) * 256 + (c1.toNat : Int)) * 256 + (c2.toNat : Int)) * 256 + (c3.toNat : Int)) * 256 + (c4.toNat : Int)) * 256 + (c5.toNat : Int)) * 256 + (c6.toNat : Int)) * 256 + (c7.toNat : Int)) * 1 + (0 : Int) := by omega
      unfold numB
      rw [hw, e, e', show (2 : Int) ^ (8 * (7 - 7)) = 1 from rfl]
      exact num_part _ _ _ (((((((c0.toNat : Int) * 256 + (c1.toNat : Int)) * 256 + (c2.toNat : Int)) * 256 + (c3.toNat : Int)) * 256 + (c4.toNat : Int)) * 256 + (c5.toNat : Int)) * 256 + (c6.toNat : Int)) _ (by omega) (by omega) (by omega) (by omega) (by omega) (by omega)
    rw [show List.range 8 = [0, 1, 2, 3, 4, 5, 6, 7] from rfl]
    simp only [List.map_cons, List.map_nil, k0, k1, k2, k3, k4, k5, k6, k7, Int.toNat_natCast, UInt8.ofNat_toNat]
theorem nilB : (⟨#[]⟩ : ByteArray).toList = [] := by rw [ByteArray.toList_eq]
theorem get_round (s : ByteArray) (i : Int) (h : 0 ≤ tJ s i) : ∃ a b : Nat, i = a ∧ tJ s i = b ∧ a < b ∧ b ≤ s.size ∧ okB (tV s i).k (tV s i).n (tV s i).s = true ∧ s.data.toList.drop a = vB (tV s i) ++ s.data.toList.drop b ∧ ((tV s i).k ≠ 1 → bAt s a ≠ 1) ∧ (tV s i).s.size ≤ 100 := by
  unfold tJ at h
  by_cases hi : 0 ≤ i ∧ i < s.size
  rotate_left
  · rw [getT_out s i hi] at h; simp at h
  obtain ⟨a, rfl⟩ := Int.eq_ofNat_of_zero_le hi.1
  have ha : a < s.size := by omega
  unfold tJ tV vB
  rw [getT_in s a ha] at h ⊢
  by_cases h0 : bAt s a = 0
  · rw [getN_0 s a h0] at h ⊢
    have ok : okB 0 0 ⟨#[]⟩ = true := by rw [okB_0, nilB]; rfl
    refine ⟨a, a + 1, rfl, by simp, by omega, by omega, ok, ?_, fun _ => by omega, Nat.zero_le _⟩
    dsimp only
    rw [putS_0 _ _ ok, drop_byte s a ha, h0]
    rfl
  by_cases h1 : bAt s a = 1 ∧ a + 9 ≤ s.size
  · rw [getN_1 s a h1.1 h1.2] at h ⊢
    have ok : ∀ n, okB 1 n ⟨#[]⟩ = true := fun n => by rw [okB_1, nilB]; rfl
    refine ⟨a, a + 9, rfl, by simp, by omega, h1.2, ok _, ?_, fun h => absurd rfl h, Nat.zero_le _⟩
    dsimp only
    rw [putS_1 _ _ (ok _), strOfNums_data, drop_byte s a ha, h1.1]
    unfold numL numAt
    rw [List.map_cons, num_round _ (by simp; omega)]
    have ht := List.take_append_drop 8 (s.data.toList.drop (a + 1))
    rw [List.drop_drop] at ht
    rw [List.cons_append, show a + 9 = a + 1 + 8 from by omega, ht]
    rfl
  by_cases h2 : bAt s a = 2 ∧ a + 2 ≤ s.size ∧ bAt s (a + 1) ≤ 1
  · rw [getN_2 s a h2.1 h2.2.1 h2.2.2] at h ⊢
    have hm : bAt s (a + 1) = 0 ∨ bAt s (a + 1) = 1 := by omega
    have ok : okB 2 (bAt s (a + 1) : Int) ⟨#[]⟩ = true := by rw [okB_2, nilB]; rcases hm with e | e <;> rw [e] <;> rfl
    refine ⟨a, a + 2, rfl, by simp, by omega, h2.2.1, ok, ?_, fun _ => by omega, Nat.zero_le _⟩
    dsimp only
    rw [putS_2 _ _ ok, strOfNums_data, drop_byte s a ha, drop_byte s (a + 1) (by omega), h2.1]
    simp
  by_cases h3 : bAt s a = 3 ∧ a + 2 ≤ s.size ∧ a + 2 + bAt s (a + 1) ≤ s.size ∧ bAt s (a + 1) ≤ 100
  · rw [getN_3 s a h3.1 h3.2.1 h3.2.2.1 h3.2.2.2] at h ⊢
    have hsz : (s.extract (a + 2) (a + 2 + bAt s (a + 1))).size = bAt s (a + 1) := by rw [extract_size s _ _ (by omega) h3.2.2.1]; omega
    have ok : okB 3 0 (s.extract (a + 2) (a + 2 + bAt s (a + 1))) = true := by rw [okB_3, hsz]; simp [h3.2.2.2]
    refine ⟨a, a + 2 + bAt s (a + 1), rfl, by simp; omega, by omega, h3.2.2.1, ok, ?_, fun _ => by omega, by dsimp only; rw [hsz]; exact h3.2.2.2⟩
    dsimp only
    rw [putS_3 _ _ ok, ByteArray.data_append, Array.toList_append, strOfNums_data, hsz, extract_list, drop_byte s a ha, drop_byte s (a + 1) (by omega), h3.1]
    have ht := List.take_append_drop (bAt s (a + 1)) (s.data.toList.drop (a + 2))
    rw [List.drop_drop] at ht
    rw [show a + 2 + bAt s (a + 1) - (a + 2) = bAt s (a + 1) from by omega, List.append_assoc, ht]
    simp
  · rw [getN_x s a h0 h1 h2 h3] at h; simp at h
def valsV (s : ByteArray) : Nat → Int → List V3
  | 0, _ => []
  | n + 1, i => tV s i :: valsV s n (tJ s i)
def valsJ (s : ByteArray) : Nat → Int → Int
  | 0, i => i
  | n + 1, i => valsJ s n (tJ s i)
theorem tJ_neg (s : ByteArray) (i : Int) (h : i < 0) : tJ s i = -1 := by unfold tJ; rw [getT_out s i (by omega)]
theorem valsJ_neg (s : ByteArray) : ∀ (n : Nat) (i : Int), i < 0 → valsJ s n i < 0
  | 0, i, h => h
  | n + 1, i, h => valsJ_neg s n _ (by rw [tJ_neg s i h]; decide)
theorem vals_round (s : ByteArray) : ∀ (n : Nat) (i : Int), 0 ≤ i → i ≤ s.size → 0 ≤ valsJ s n i → ∃ a b : Nat, i = a ∧ valsJ s n i = b ∧ a ≤ b ∧ b ≤ s.size ∧ s.data.toList.drop a = rowU (valsV s n i) ++ s.data.toList.drop b
  | 0, i, h0, h1, h => by
    obtain ⟨a, rfl⟩ := Int.eq_ofNat_of_zero_le h0
    exact ⟨a, a, rfl, rfl, by omega, by omega, by simp [valsV, rowU]⟩
  | n + 1, i, h0, h1, h => by
    have hj : 0 ≤ tJ s i := by
      by_cases hj : 0 ≤ tJ s i
      · exact hj
      · have := valsJ_neg s n (tJ s i) (by omega)
        rw [valsJ] at h; omega
    obtain ⟨a, b, e1, e2, hab, hb, _, hd, _⟩ := get_round s i hj
    obtain ⟨b', c, e3, e4, hbc, hc, hd'⟩ := vals_round s n (tJ s i) hj (by omega) h
    obtain rfl : b' = b := by omega
    refine ⟨a, c, e1, e4, by omega, hc, ?_⟩
    rw [hd, hd', valsV]
    unfold rowU vB
    rw [List.flatMap_cons, List.append_assoc]
def rowS (s : ByteArray) (W : Nat) (i : Int) : C2 := ⟨valsV s W (tJ s i), (tV s i).n⟩
def endS (s : ByteArray) (W : Nat) (i : Int) : Int := valsJ s W (tJ s i)
def run (s : ByteArray) (W : Nat) : Nat → Int → List C2 → Option (List C2)
  | 0, _, acc => some acc
  | n + 1, i, acc => if i < s.size ∧ acc.length ≤ 400 then (if endS s W i < 0 then none else run s W n (endS s W i) (acc ++ [rowS s W i])) else some acc
def runI (s : ByteArray) (W : Nat) : Nat → Int → List C2 → Option (List C2)
  | 0, _, acc => some acc
  | n + 1, i, acc => if i < s.size ∧ acc.length ≤ 400 then (if (tV s i).k ≠ 1 ∨ endS s W i < 0 then none else runI s W n (endS s W i) (acc ++ [rowS s W i])) else some acc
def csU (cs : List C2) : List UInt8 := cs.flatMap fun x => (numL x.n 8).map (fun n => UInt8.ofNat n.toNat) ++ rowU x.r
theorem csU_cons (x : C2) (cs : List C2) : csU (x :: cs) = ((numL x.n 8).map (fun n => UInt8.ofNat n.toNat) ++ rowU x.r) ++ csU cs := by unfold csU; rw [List.flatMap_cons]
theorem end_round (s : ByteArray) (W : Nat) (i : Int) (h : 0 ≤ endS s W i) : ∃ a b : Nat, i = a ∧ endS s W i = b ∧ a < b ∧ b ≤ s.size ∧ s.data.toList.drop a = vB (tV s i) ++ (rowU (rowS s W i).r ++ s.data.toList.drop b) ∧ okB (tV s i).k (tV s i).n (tV s i).s = true ∧ ((tV s i).k ≠ 1 → bAt s a ≠ 1) := by
  have hj : 0 ≤ tJ s i := by
    by_cases hj : 0 ≤ tJ s i
    · exact hj
    · have := valsJ_neg s W (tJ s i) (by omega)
      unfold endS at h; omega
  obtain ⟨a, b, e1, e2, hab, hb, ok, hd, hk, _⟩ := get_round s i hj
  obtain ⟨b', c, e3, e4, hbc, hc, hd'⟩ := vals_round s W (tJ s i) hj (by omega) h
  obtain rfl : b' = b := by omega
  exact ⟨a, c, e1, e4, by omega, hc, by rw [hd, hd']; rfl, ok, hk⟩
theorem run_none (s : ByteArray) (W : Nat) : ∀ (n : Nat) (i : Int) (acc : List C2), run s W n i acc = none → runI s W n i acc = none
  | 0, _, _, h => by cases h
  | n + 1, i, acc, h => by
    rw [run] at h
    rw [runI]
    by_cases hc : i < s.size ∧ acc.length ≤ 400
    · rw [if_pos hc] at h ⊢
      by_cases he : endS s W i < 0
      · rw [if_pos (.inr he)]
      · rw [if_neg he] at h
        by_cases hk : (tV s i).k ≠ 1
        · rw [if_pos (.inl hk)]
        · rw [if_neg (by omega)]
          exact run_none s W n _ _ h
    · rw [if_neg hc] at h; cases h
theorem run_some (s : ByteArray) (W : Nat) : ∀ (n : Nat) (i : Nat) (acc cs : List C2), i ≤ s.size → s.size + 1 ≤ n + i → run s W n i acc = some cs →
    (runI s W n i acc = some cs ∧ ∃ more e, cs = acc ++ more ∧ (e = s.size ∨ 400 < cs.length) ∧ s.data.toList.drop i = csU more ++ s.data.toList.drop e) ∨
    (runI s W n i acc = none ∧ ∃ p c rest i', cs = acc ++ p ++ c :: rest ∧ i' < s.size ∧ bAt s i' ≠ 1 ∧ s.data.toList.drop i = csU p ++ s.data.toList.drop i')
  | 0, i, acc, cs, hi, hf, h => by omega
  | n + 1, i, acc, cs, hi, hf, h => by
    rw [run] at h
    rw [runI]
    by_cases hc : (i : Int) < s.size ∧ acc.length ≤ 400
    · rw [if_pos hc] at h ⊢
      by_cases he : endS s W i < 0
      · rw [if_pos he] at h; cases h
      rw [if_neg he] at h
      obtain ⟨a, b, e1, e2, hab, hb, hd, ok, hk1⟩ := end_round s W i (by omega)
      obtain rfl : a = i := by omega
      rw [e2] at h
      have ih := run_some s W n b (acc ++ [rowS s W a]) cs hb (by omega) h
      by_cases hk : (tV s a).k ≠ 1
      · right
        rw [if_pos (.inl hk)]
        refine ⟨rfl, ?_⟩
        have hex : ∃ more, cs = (acc ++ [rowS s W a]) ++ more := by
          rcases ih with ⟨_, more, e, h1, _⟩ | ⟨_, p, c, rest, i', h1, _⟩
          · exact ⟨more, h1⟩
          · exact ⟨p ++ c :: rest, by rw [h1, List.append_assoc]⟩
        obtain ⟨more, hm⟩ := hex
        exact ⟨[], rowS s W a, more, a, by rw [hm]; simp, by omega, hk1 hk, by simp [csU]⟩
      · have hk' : (tV s a).k = 1 := by omega
        rw [if_neg (by omega), e2]
        have hv : vB (tV s a) = (numL (rowS s W a).n 8).map (fun n => UInt8.ofNat n.toNat) := by
          unfold vB
          rw [hk'] at ok ⊢
          rw [putS_1 _ _ ok]
          rfl
        rcases ih with ⟨h0, more, e, h1, h2, h3⟩ | ⟨h0, p, c, rest, i', h1, h2, h3, h4⟩
        · left
          refine ⟨h0, rowS s W a :: more, e, by rw [h1]; simp, h2, ?_⟩
          rw [hd, h3, csU_cons, hv]
          simp only [List.append_assoc]
        · right
          refine ⟨h0, rowS s W a :: p, c, rest, i', by rw [h1]; simp, h2, h3, ?_⟩
          rw [hd, h4, csU_cons, hv]
          simp only [List.append_assoc]
    · rw [if_neg hc] at h ⊢
      cases h
      left
      refine ⟨rfl, [], i, by simp, ?_, by simp [csU]⟩
      omega
theorem nb_back (l : List UInt8) : (nb l).map (fun n => UInt8.ofNat n.toNat) = l := by
  unfold nb
  rw [List.map_map]
  have e : ((fun n : Int => UInt8.ofNat n.toNat) ∘ fun b : UInt8 => (b.toNat : Int)) = id := by funext b; simp
  rw [e, List.map_id]
theorem csN_back (cs : List C2) : (csN cs).map (fun n => UInt8.ofNat n.toNat) = csU cs := by
  induction cs with
  | nil => rfl
  | cons x xs ih =>
    have e : csN (x :: xs) = (numL x.n 8 ++ nb (rowU x.r)) ++ csN xs := by unfold csN; rw [List.flatMap_cons]
    rw [e, csU_cons, List.map_append, List.map_append, ih, nb_back]
def resS (s : ByteArray) : Option (List C2) := if bAt s 0 ≤ 12 then (match run s (bAt s 0) (s.size + 1) 1 [] with | none => none | some cs => if putB (bAt s 0) cs = s then some cs else none) else none
def resI (s : ByteArray) : Option (List C2) := match runI s (bAt s 0) (s.size + 1) 1 [] with | none => none | some cs => if okBag (bAt s 0) cs = true then some cs else none
theorem putB_yes (s : ByteArray) (cs : List C2) (hs : 0 < s.size) (ok : okBag (bAt s 0) cs = true) : putB (bAt s 0) cs = s ↔ s.data.toList.drop 1 = csU cs := by
  have e0 : s.data.toList = UInt8.ofNat (bAt s 0) :: s.data.toList.drop 1 := by have := drop_byte s 0 hs; simpa using this
  have e1 : (putB (bAt s 0) cs).data.toList = UInt8.ofNat (bAt s 0) :: csU cs := by
    unfold putB
    rw [if_pos ok, strOfNums_data]
    unfold bagN
    rw [List.map_cons, csN_back]
    rfl
  constructor
  · intro h
    rw [h, e0] at e1
    exact (List.cons.inj e1).2
  · intro h
    apply ByteArray.ext
    apply Array.toList_inj.1
    rw [e1, e0, h]
theorem putB_no (s : ByteArray) (W : Int) (cs : List C2) (hs : 0 < s.size) (ok : ¬ okBag W cs = true) : putB W cs ≠ s := by
  unfold putB
  rw [if_neg ok]
  rintro rfl
  exact absurd hs (by decide)
theorem res_same (s : ByteArray) (hs : 0 < s.size) : resS s = resI s := by
  unfold resS resI
  cases hr : run s (bAt s 0) (s.size + 1) 1 [] with
  | none =>
    rw [run_none _ _ _ _ _ hr]
    simp
  | some cs =>
    have hl : s.data.toList.length = s.size := by simp
    rcases run_some s (bAt s 0) (s.size + 1) 1 [] cs (by omega) (by omega) hr with ⟨h0, more, e, h1, h2, h3⟩ | ⟨h0, p, c, rest, i', h1, h2, h3, h4⟩
    · have h0' : runI s (bAt s 0) (s.size + 1) 1 [] = some cs := h0
      rw [h0']
      obtain rfl : cs = more := by simpa using h1
      dsimp only
      by_cases ok : okBag (bAt s 0) cs = true
      · obtain ⟨_, hW, hlen, _⟩ := okBag_facts ok
        have he : e = s.size := by omega
        rw [if_pos (by omega), if_pos ok, if_pos]
        rw [putB_yes s cs hs ok, h3, he, List.drop_eq_nil_of_le (by omega), List.append_nil]
      · rw [if_neg ok]
        split
        · rw [if_neg (putB_no s _ cs hs ok)]
        · rfl
    · have h0' : runI s (bAt s 0) (s.size + 1) 1 [] = none := h0
      rw [h0']
      dsimp only
      split
      · rw [if_neg]
        intro hp
        by_cases ok : okBag (bAt s 0) cs = true
        · rw [putB_yes s cs hs ok, h4, h1] at hp
          have e2 : csU ([] ++ p ++ c :: rest) = csU p ++ csU (c :: rest) := by unfold csU; simp
          rw [e2] at hp
          have hp := List.append_cancel_left hp
          rw [drop_byte s i' h2, csU_cons] at hp
          have := (List.cons.inj hp).1
          have hlt := bAt_lt s i'
          have h7 := congrArg UInt8.toNat this
          simp at h7
          omega
        · exact putB_no s _ cs hs ok hp
      · rfl
end Go.Proofs.YtbmoimfimeiglaaGreat
