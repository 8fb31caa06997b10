/- Own text. What was written is read again. -/
import Derived.Test.YtpapmmfcjoillaaDoorFvP
namespace Go.Proofs.YtpapmmfcjoillaaDoor
open Go.RowKit
set_option linter.unusedVariables false
set_option linter.unusedSimpArgs false
/-- the bytes of a number make it again. -/
theorem num_back (n : Int) (h0 : -9223372036854775808 ≤ n) (h1 : n ≤ 9223372036854775807) : wrap64 (be (((List.range 8).map (numB n)).map (fun n => UInt8.ofNat n.toNat))) = n := by
  have e : (List.range 8).map (numB n) = [numB n 0, numB n 1, numB n 2, numB n 3, numB n 4, numB n 5, numB n 6, numB n 7] := rfl
  have hb : ∀ x : Int, 0 ≤ x → x < 256 → ((UInt8.ofNat x.toNat).toNat : Int) = x := by
    intro x h0 h1
    rw [UInt8.toNat_ofNat']
    omega
  have hu : 0 ≤ IntKind.u64.wrap n ∧ IntKind.u64.wrap n < 18446744073709551616 ∧ (IntKind.u64.wrap n = n ∨ IntKind.u64.wrap n = n + 18446744073709551616) := by rw [IntKind.wrap_u64]; omega
  rw [e]
  simp only [List.map_cons, List.map_nil]
  rw [be8]
  simp only [numB]
  generalize IntKind.u64.wrap n = u at hu ⊢
  rw [hb _ (by omega) (by omega), hb _ (by omega) (by omega), hb _ (by omega) (by omega), hb _ (by omega) (by omega), hb _ (by omega) (by omega), hb _ (by omega) (by omega), hb _ (by omega) (by omega), hb _ (by omega) (by omega)]
  have hs : ((((((((u / 2 ^ (8 * (7 - 0)) % 256) * 256 + (u / 2 ^ (8 * (7 - 1)) % 256)) * 256 + (u / 2 ^ (8 * (7 - 2)) % 256)) * 256 + (u / 2 ^ (8 * (7 - 3)) % 256)) * 256 + (u / 2 ^ (8 * (7 - 4)) % 256)) * 256 + (u / 2 ^ (8 * (7 - 5)) % 256)) * 256 + (u / 2 ^ (8 * (7 - 6)) % 256)) * 256 + (u / 2 ^ (8 * (7 - 7)) % 256)) = u := by
    simp only [show (8 * (7 - 0) : Nat) = 56 from rfl, show (8 * (7 - 1) : Nat) = 48 from rfl, show (8 * (7 - 2) : Nat) = 40 from rfl, show (8 * (7 - 3) : Nat) = 32 from rfl, show (8 * (7 - 4) : Nat) = 24 from rfl, show (8 * (7 - 5) : Nat) = 16 from rfl, show (8 * (7 - 6) : Nat) = 8 from rfl, show (8 * (7 - 7) : Nat) = 0 from rfl]
    omega
  rw [hs]
  unfold wrap64
  omega
theorem data_app (a b : ByteArray) : (a ++ b).data.toList = a.data.toList ++ b.data.toList := by rw [ByteArray.data_append, Array.toList_append]
/-- what was written is read, whatever stands ahead of it and behind it. -/
theorem put_get (k n : Int) (s : ByteArray) (h0 : -9223372036854775808 ≤ n) (h1 : n ≤ 9223372036854775807) (hok : okB k n s = true) :
    getT (⟨#[97]⟩ ++ putS k n s ++ ⟨#[98]⟩) 1 = (k, n, s, 1 + ((putS k n s).size : Int)) := by
  have hin : ∀ T : ByteArray, 1 < T.size → getT T 1 = getN T 1 := fun T h => getT_in T 1 h
  have hsz : ∀ p : ByteArray, (⟨#[97]⟩ ++ p ++ ⟨#[98]⟩ : ByteArray).size = p.size + 2 := fun p => by rw [ByteArray.size_append, ByteArray.size_append]; show 1 + p.size + 1 = _; omega
  have hdt : ∀ p : ByteArray, (⟨#[97]⟩ ++ p ++ ⟨#[98]⟩ : ByteArray).data.toList = 97 :: (p.data.toList ++ [98]) := fun p => by rw [data_app, data_app]; rfl
  by_cases k0 : k = 0
  · subst k0
    have h := hok
    rw [okB_0] at h
    simp at h
    obtain ⟨rfl, h⟩ := h
    obtain rfl := nil_of s h
    rw [putS_0 _ _ hok, hin _ (by rw [hsz, nums_size]; simp), getN_0 _ _ (by unfold bAt; rw [hdt, strOfNums_data]; rfl), nums_size]
    rfl
  by_cases k1 : k = 1
  · subst k1
    have h := hok
    rw [okB_1] at h
    simp at h
    obtain rfl := nil_of s h
    have hz : (strOfNums (numL n 8)).size = 9 := by rw [nums_size, numL_len]
    rw [putS_1 _ _ hok, hin _ (by rw [hsz, hz]; omega), getN_1 _ _ (by unfold bAt; rw [hdt, strOfNums_data]; rfl) (by rw [hsz, hz]; omega), hz]
    have : numAt (⟨#[97]⟩ ++ strOfNums (numL n 8) ++ ⟨#[98]⟩) (1 + 1) = n := by
      unfold numAt
      rw [hdt, strOfNums_data]
      have e : (List.drop (1 + 1) ((97 : UInt8) :: (List.map (fun n => UInt8.ofNat n.toNat) (numL n 8) ++ [98]))).take 8 = ((List.range 8).map (numB n)).map (fun n => UInt8.ofNat n.toNat) := rfl
      rw [e]
      exact num_back n h0 h1
    rw [this]
    rfl
  by_cases k2 : k = 2
  · subst k2
    have h := hok
    rw [okB_2] at h
    simp at h
    obtain ⟨hn, h⟩ := h
    obtain rfl := nil_of s h
    have hz : (strOfNums [2, n]).size = 2 := by rw [nums_size]; rfl
    have hb : bAt (⟨#[97]⟩ ++ strOfNums [2, n] ++ ⟨#[98]⟩) (1 + 1) = n.toNat := by
      unfold bAt; rw [hdt, strOfNums_data]
      show (UInt8.ofNat n.toNat).toNat = n.toNat
      rw [UInt8.toNat_ofNat']; omega
    rw [putS_2 _ _ hok, hin _ (by rw [hsz, hz]; omega), getN_2 _ _ (by unfold bAt; rw [hdt, strOfNums_data]; rfl) (by rw [hsz, hz]; omega) (by rw [hb]; omega), hz, hb]
    rw [show ((n.toNat : Nat) : Int) = n by omega]
    rfl
  by_cases k3 : k = 3
  · subst k3
    have h := hok
    rw [okB_3] at h
    simp at h
    obtain ⟨rfl, hs⟩ := h
    have hz : (strOfNums [3, (s.size : Int)] ++ s).size = 2 + s.size := by rw [ByteArray.size_append, nums_size]; rfl
    have hd : (⟨#[97]⟩ ++ (strOfNums [3, (s.size : Int)] ++ s) ++ ⟨#[98]⟩ : ByteArray).data.toList = 97 :: 3 :: UInt8.ofNat s.size :: (s.data.toList ++ [98]) := by
      rw [hdt, data_app, strOfNums_data]; rfl
    have hb : bAt (⟨#[97]⟩ ++ (strOfNums [3, (s.size : Int)] ++ s) ++ ⟨#[98]⟩) (1 + 1) = s.size := by
      unfold bAt; rw [hd]
      show (UInt8.ofNat s.size).toNat = s.size
      rw [UInt8.toNat_ofNat']; omega
    rw [putS_3 _ _ hok, hin _ (by rw [hsz, hz]; omega), getN_3 _ _ (by unfold bAt; rw [hd]; rfl) (by rw [hsz, hz]; omega) (by rw [hb, hsz, hz]; omega) (by rw [hb]; exact hs), hz, hb]
    have he : (⟨#[97]⟩ ++ (strOfNums [3, (s.size : Int)] ++ s) ++ ⟨#[98]⟩ : ByteArray).extract (1 + 2) (1 + 2 + s.size) = s := by
      apply ByteArray.ext
      apply Array.toList_inj.1
      rw [extract_list, hd]
      show List.take (1 + 2 + s.size - (1 + 2)) (s.data.toList ++ [98]) = s.data.toList
      rw [show 1 + 2 + s.size - (1 + 2) = s.data.toList.length by have : s.data.toList.length = s.size := rfl; omega, List.take_left']
      rfl
    rw [he]
    simp
  · exfalso
    rw [okB_x k n s k0 k1 k2 k3] at hok
    cases hok
end Go.Proofs.YtpapmmfcjoillaaDoor
