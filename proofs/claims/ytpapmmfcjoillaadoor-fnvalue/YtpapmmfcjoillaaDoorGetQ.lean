/- Own text. What GetValue reads is what PutValue makes. (Made out of GetP.) -/
import Derived.Test.YtpapmmfcjoillaaDoorGetJ
import Derived.Test.YtpapmmfcjoillaaDoorRowK
import Derived.Laws.BytesArg
import Derived.Handy
import Derived.Test.YtpapmmfcjoillaaDoorPutS
namespace Go.Proofs.YtpapmmfcjoillaaDoor
open Go.RowKit
set_option linter.unusedVariables false
/-- what stands at a place, and where the next one does. -/
def tV (s : ByteArray) (i : Int) : V3 := ⟨(getT s i).1, (getT s i).2.1, (getT s i).2.2.1⟩
def tJ (s : ByteArray) (i : Int) : Int := (getT s i).2.2.2
/-- the bytes of a value. -/
def vB (x : V3) : List UInt8 := (putS x.k x.n x.s).data.toList
theorem drop_byte (s : ByteArray) (a : Nat) (h : a < s.size) : s.data.toList.drop a = UInt8.ofNat (bAt s a) :: s.data.toList.drop (a + 1) := by
  have h' : a < s.data.toList.length := by simpa using h
  rw [List.drop_eq_getElem_cons h']
  congr 1
  unfold bAt
  rw [List.getD_eq_getElem?_getD, List.getElem?_eq_getElem h']
  simp
theorem be8 (c0 c1 c2 c3 c4 c5 c6 c7 : UInt8) : be [c0, c1, c2, c3, c4, c5, c6, c7] = ((((((((c0.toNat : Int) * 256 + (c1.toNat : Int)) * 256 + (c2.toNat : Int)) * 256 + (c3.toNat : Int)) * 256 + (c4.toNat : Int)) * 256 + (c5.toNat : Int)) * 256 + (c6.toNat : Int)) * 256 + (c7.toNat : Int)) := by
  simp [be]; omega
theorem num_part (A r M A' c : Int) (hM : 0 < M) (hr : 0 ≤ r) (hr' : r < M) (hA : A = A' * 256 + c) (hc : 0 ≤ c) (hc' : c < 256) : (A * M + r) / M % 256 = c := by
  rw [Int.add_comm, Int.add_mul_ediv_right _ _ (by omega), Int.ediv_eq_zero_of_lt hr hr', Int.zero_add, hA]
  omega
theorem num_round (l : List UInt8) (h : l.length = 8) : ((List.range 8).map (numB (wrap64 (be l)))).map (fun n => UInt8.ofNat n.toNat) = l := by
  match l, h with
  | [c0, c1, c2, c3, c4, c5, c6, c7], _ =>
    have hb := be_bd8 [c0, c1, c2, c3, c4, c5, c6, c7] (by simp)
    have hw : IntKind.u64.wrap (wrap64 (be [c0, c1, c2, c3, c4, c5, c6, c7])) = be [c0, c1, c2, c3, c4, c5, c6, c7] := by
      rw [IntKind.wrap_u64]; unfold wrap64; omega
    have e := be8 c0 c1 c2 c3 c4 c5 c6 c7
    have g0 := c0.toNat_lt
    have g1 := c1.toNat_lt
    have g2 := c2.toNat_lt
    have g3 := c3.toNat_lt
    have g4 := c4.toNat_lt
    have g5 := c5.toNat_lt
    have g6 := c6.toNat_lt
    have g7 := c7.toNat_lt
    have k0 : numB (wrap64 (be [c0, c1, c2, c3, c4, c5, c6, c7])) 0 = c0.toNat := by
      have e' : ((((((((c0.toNat : Int) * 256 + (c1.toNat : Int)) * 256 + (c2.toNat : Int)) * 256 + (c3.toNat : Int)) * 256 + (c4.toNat : Int)) * 256 + (c5.toNat : Int)) * 256 + (c6.toNat : Int)) * 256 + (c7.toNat : Int)) = (c0.toNat : Int) * 72057594037927936 + (((((((c1.toNat : Int) * 256 + (c2.toNat : Int)) * 256 + (c3.toNat : Int)) * 256 + (c4.toNat : Int)) * 256 + (c5.toNat : Int)) * 256 + (c6.toNat : Int)) * 256 + (c7.toNat : Int)) := by omega
      unfold numB
      rw [hw, e, e', show (2 : Int) ^ (8 * (7 - 0)) = 72057594037927936 from rfl]
      exact num_part _ _ _ (0 : Int) _ (by omega) (by omega) (by omega) (by omega) (by omega) (by omega)
    have k1 : numB (wrap64 (be [c0, c1, c2, c3, c4, c5, c6, c7])) 1 = c1.toNat := by
      have e' : ((((((((c0.toNat : Int) * 256 + (c1.toNat : Int)) * 256 + (c2.toNat : Int)) * 256 + (c3.toNat : Int)) * 256 + (c4.toNat : Int)) * 256 + (c5.toNat : Int)) * 256 + (c6.toNat : Int)) * 256 + (c7.toNat : Int)) = ((c0.toNat : Int) * 256 + (c1.toNat : Int)) * 281474976710656 + ((((((c2.toNat : Int) * 256 + (c3.toNat : Int)) * 256 + (c4.toNat : Int)) * 256 + (c5.toNat : Int)) * 256 + (c6.toNat : Int)) * 256 + (c7.toNat : Int)) := by omega
      unfold numB
      rw [hw, e, e', show (2 : Int) ^ (8 * (7 - 1)) = 281474976710656 from rfl]
      exact num_part _ _ _ (c0.toNat : Int) _ (by omega) (by omega) (by omega) (by omega) (by omega) (by omega)
    have k2 : numB (wrap64 (be [c0, c1, c2, c3, c4, c5, c6, c7])) 2 = c2.toNat := by
      have e' : ((((((((c0.toNat : Int) * 256 + (c1.toNat : Int)) * 256 + (c2.toNat : Int)) * 256 + (c3.toNat : Int)) * 256 + (c4.toNat : Int)) * 256 + (c5.toNat : Int)) * 256 + (c6.toNat : Int)) * 256 + (c7.toNat : Int)) = (((c0.toNat : Int) * 256 + (c1.toNat : Int)) * 256 + (c2.toNat : Int)) * 1099511627776 + (((((c3.toNat : Int) * 256 + (c4.toNat : Int)) * 256 + (c5.toNat : Int)) * 256 + (c6.toNat : Int)) * 256 + (c7.toNat : Int)) := by omega
      unfold numB
      rw [hw, e, e', show (2 : Int) ^ (8 * (7 - 2)) = 1099511627776 from rfl]
      exact num_part _ _ _ ((c0.toNat : Int) * 256 + (c1.toNat : Int)) _ (by omega) (by omega) (by omega) (by omega) (by omega) (by omega)
    have k3 : numB (wrap64 (be [c0, c1, c2, c3, c4, c5, c6, c7])) 3 = c3.toNat := by
      have e' : ((((((((c0.toNat : Int) * 256 + (c1.toNat : Int)) * 256 + (c2.toNat : Int)) * 256 + (c3.toNat : Int)) * 256 + (c4.toNat : Int)) * 256 + (c5.toNat : Int)) * 256 + (c6.toNat : Int)) * 256 + (c7.toNat : Int)) = ((((c0.toNat : Int) * 256 + (c1.toNat : Int)) * 256 + (c2.toNat : Int)) * 256 + (c3.toNat : Int)) * 4294967296 + ((((c4.toNat : Int) * 256 + (c5.toNat : Int)) * 256 + (c6.toNat : Int)) * 256 + (c7.toNat : Int)) := by omega
      unfold numB
      rw [hw, e, e', show (2 : Int) ^ (8 * (7 - 3)) = 4294967296 from rfl]
      exact num_part _ _ _ (((c0.toNat : Int) * 256 + (c1.toNat : Int)) * 256 + (c2.toNat : Int)) _ (by omega) (by omega) (by omega) (by omega) (by omega) (by omega)
    have k4 : numB (wrap64 (be [c0, c1, c2, c3, c4, c5, c6, c7])) 4 = c4.toNat := by
      have e' : ((((((((c0.toNat : Int) * 256 + (c1.toNat : Int)) * 256 + (c2.toNat : Int)) * 256 + (c3.toNat : Int)) * 256 + (c4.toNat : Int)) * 256 + (c5.toNat : Int)) * 256 + (c6.toNat : Int)) * 256 + (c7.toNat : Int)) = (((((c0.toNat : Int) * 256 + (c1.toNat : Int)) * 256 + (c2.toNat : Int)) * 256 + (c3.toNat : Int)) * 256 + (c4.toNat : Int)) * 16777216 + (((c5.toNat : Int) * 256 + (c6.toNat : Int)) * 256 + (c7.toNat : Int)) := by omega
      unfold numB
      rw [hw, e, e', show (2 : Int) ^ (8 * (7 - 4)) = 16777216 from rfl]
      exact num_part _ _ _ ((((c0.toNat : Int) * 256 + (c1.toNat : Int)) * 256 + (c2.toNat : Int)) * 256 + (c3.toNat : Int)) _ (by omega) (by omega) (by omega) (by omega) (by omega) (by omega)
    have k5 : numB (wrap64 (be [c0, c1, c2, c3, c4, c5, c6, c7])) 5 = c5.toNat := by
      have e' : ((((((((c0.toNat : Int) * 256 + (c1.toNat : Int)) * 256 + (c2.toNat : Int)) * 256 + (c3.toNat : Int)) * 256 + (c4.toNat : Int)) * 256 + (c5.toNat : Int)) * 256 + (c6.toNat : Int)) * 256 + (c7.toNat : Int)) = ((((((c0.toNat : Int) * 256 + (c1.toNat : Int)) * 256 + (c2.toNat : Int)) * 256 + (c3.toNat : Int)) * 256 + (c4.toNat : Int)) * 256 + (c5.toNat : Int)) * 65536 + ((c6.toNat : Int) * 256 + (c7.toNat : Int)) := by omega
      unfold numB
      rw [hw, e, e', show (2 : Int) ^ (8 * (7 - 5)) = 65536 from rfl]
      exact num_part _ _ _ (((((c0.toNat : Int) * 256 + (c1.toNat : Int)) * 256 + (c2.toNat : Int)) * 256 + (c3.toNat : Int)) * 256 + (c4.toNat : Int)) _ (by omega) (by omega) (by omega) (by omega) (by omega) (by omega)
    have k6 : numB (wrap64 (be [c0, c1, c2, c3, c4, c5, c6, c7])) 6 = c6.toNat := by
      have e' : ((((((((c0.toNat : Int) * 256 + (c1.toNat : Int)) * 256 + (c2.toNat : Int)) * 256 + (c3.toNat : Int)) * 256 + (c4.toNat : Int)) * 256 + (c5.toNat : Int)) * 256 + (c6.toNat : Int)) * 256 + (c7.toNat : Int)) = (((((((c0.toNat : Int) * 256 + (c1.toNat : Int)) * 256 + (c2.toNat : Int)) * 256 + (c3.toNat : Int)) * 256 + (c4.toNat : Int)) * 256 + (c5.toNat : Int)) * 256 + (c6.toNat : Int)) * 256 + (c7.toNat : Int) := by omega
      unfold numB
      rw [hw, e, e', show (2 : Int) ^ (8 * (7 - 6)) = 256 from rfl]
      exact num_part _ _ _ ((((((c0.toNat : Int) * 256 + (c1.toNat : Int)) * 256 + (c2.toNat : Int)) * 256 + (c3.toNat : Int)) * 256 + (c4.toNat : Int)) * 256 + (c5.toNat : Int)) _ (by omega) (by omega) (by omega) (by omega) (by omega) (by omega)
    have k7 : numB (wrap64 (be [c0, c1, c2, c3, c4, c5, c6, c7])) 7 = c7.toNat := by
      have e' : ((((((((c0.toNat : Int) * 256 + (c1.toNat : Int)) * 256 + (c2.toNat : Int)) * 256 + (c3.toNat : Int)) * 256 + (c4.toNat : Int)) * 256 + (c5.toNat : Int)) * 256 + (c6.toNat : Int)) * 256 + (c7.toNat : Int)) = ((((((((c0.toNat : Int) * 256 + (c1.toNat : Int)) * 256 + (c2.toNat : Int)) * 256 + (c3.toNat : Int)) * 256 + (c4.toNat : Int)) * 256 + (c5.toNat : Int)) * 256 + (c6.toNat : Int)) * 256 + (c7.toNat : Int)) * 1 + (0 : Int) := by omega
      unfold numB
      rw [hw, e, e', show (2 : Int) ^ (8 * (7 - 7)) = 1 from rfl]
      exact num_part _ _ _ (((((((c0.toNat : Int) * 256 + (c1.toNat : Int)) * 256 + (c2.toNat : Int)) * 256 + (c3.toNat : Int)) * 256 + (c4.toNat : Int)) * 256 + (c5.toNat : Int)) * 256 + (c6.toNat : Int)) _ (by omega) (by omega) (by omega) (by omega) (by omega) (by omega)
    rw [show List.range 8 = [0, 1, 2, 3, 4, 5, 6, 7] from rfl]
    simp only [List.map_cons, List.map_nil, k0, k1, k2, k3, k4, k5, k6, k7, Int.toNat_natCast, UInt8.ofNat_toNat]
theorem nilB : (⟨#[]⟩ : ByteArray).toList = [] := by rw [ByteArray.toList_eq]
/-- what is read is what stands there. -/
theorem get_round (s : ByteArray) (i : Int) (h : 0 ≤ tJ s i) : ∃ a b : Nat, i = a ∧ tJ s i = b ∧ a < b ∧ b ≤ s.size ∧ okB (tV s i).k (tV s i).n (tV s i).s = true ∧ s.data.toList.drop a = vB (tV s i) ++ s.data.toList.drop b ∧ ((tV s i).k ≠ 1 → bAt s a ≠ 1) ∧ (tV s i).s.size ≤ 100 := by
  unfold tJ at h
  by_cases hi : 0 ≤ i ∧ i < s.size
  rotate_left
  · rw [getT_out s i hi] at h; simp at h
  obtain ⟨a, rfl⟩ := Int.eq_ofNat_of_zero_le hi.1
  have ha : a < s.size := by omega
  unfold tJ tV vB
  rw [getT_in s a ha] at h ⊢
  by_cases h0 : bAt s a = 0
  · rw [getN_0 s a h0] at h ⊢
    have ok : okB 0 0 ⟨#[]⟩ = true := by rw [okB_0, nilB]; rfl
    refine ⟨a, a + 1, rfl, by simp, by omega, by omega, ok, ?_, fun _ => by omega, Nat.zero_le _⟩
    dsimp only
    rw [putS_0 _ _ ok, drop_byte s a ha, h0]
    rfl
  by_cases h1 : bAt s a = 1 ∧ a + 9 ≤ s.size
  · rw [getN_1 s a h1.1 h1.2] at h ⊢
    have ok : ∀ n, okB 1 n ⟨#[]⟩ = true := fun n => by rw [okB_1, nilB]; rfl
    refine ⟨a, a + 9, rfl, by simp, by omega, h1.2, ok _, ?_, fun h => absurd rfl h, Nat.zero_le _⟩
    dsimp only
    rw [putS_1 _ _ (ok _), strOfNums_data, drop_byte s a ha, h1.1]
    unfold numL numAt
    rw [List.map_cons, num_round _ (by simp; omega)]
    have ht := List.take_append_drop 8 (s.data.toList.drop (a + 1))
    rw [List.drop_drop] at ht
    rw [List.cons_append, show a + 9 = a + 1 + 8 from by omega, ht]
    rfl
  by_cases h2 : bAt s a = 2 ∧ a + 2 ≤ s.size ∧ bAt s (a + 1) ≤ 1
  · rw [getN_2 s a h2.1 h2.2.1 h2.2.2] at h ⊢
    have hm : bAt s (a + 1) = 0 ∨ bAt s (a + 1) = 1 := by omega
    have ok : okB 2 (bAt s (a + 1) : Int) ⟨#[]⟩ = true := by rw [okB_2, nilB]; rcases hm with e | e <;> rw [e] <;> rfl
    refine ⟨a, a + 2, rfl, by simp, by omega, h2.2.1, ok, ?_, fun _ => by omega, Nat.zero_le _⟩
    dsimp only
    rw [putS_2 _ _ ok, strOfNums_data, drop_byte s a ha, drop_byte s (a + 1) (by omega), h2.1]
    simp
  by_cases h3 : bAt s a = 3 ∧ a + 2 ≤ s.size ∧ a + 2 + bAt s (a + 1) ≤ s.size ∧ bAt s (a + 1) ≤ 100
  · rw [getN_3 s a h3.1 h3.2.1 h3.2.2.1 h3.2.2.2] at h ⊢
    have hsz : (s.extract (a + 2) (a + 2 + bAt s (a + 1))).size = bAt s (a + 1) := by rw [extract_size s _ _ (by omega) h3.2.2.1]; omega
    have ok : okB 3 0 (s.extract (a + 2) (a + 2 + bAt s (a + 1))) = true := by rw [okB_3, hsz]; simp [h3.2.2.2]
    refine ⟨a, a + 2 + bAt s (a + 1), rfl, by simp; omega, by omega, h3.2.2.1, ok, ?_, fun _ => by omega, by dsimp only; rw [hsz]; exact h3.2.2.2⟩
    dsimp only
    rw [putS_3 _ _ ok, ByteArray.data_append, Array.toList_append, strOfNums_data, hsz, extract_list, drop_byte s a ha, drop_byte s (a + 1) (by omega), h3.1]
    have ht := List.take_append_drop (bAt s (a + 1)) (s.data.toList.drop (a + 2))
    rw [List.drop_drop] at ht
    rw [show a + 2 + bAt s (a + 1) - (a + 2) = bAt s (a + 1) from by omega, List.append_assoc, ht]
    simp
  · rw [getN_x s a h0 h1 h2 h3] at h; simp at h
end Go.Proofs.YtpapmmfcjoillaaDoor
