/- Own text. The contract of the specification's DecText: it answers the digits of the number, in the shelf's own word. -/
import Derived.Test.YtiaafgmjigbjlaaGreatDoorKit
import Derived.Handy
import Derived.Lib.ItoaMem
import Derived.Lib.ItoaLen
namespace Go.Proofs.YtiaafgmjigbjlaaGreatDoor
open Go.RowKit
set_option linter.unusedVariables false
/-- the digits of a number; none of 0. -/
def digs (u : Nat) : List UInt8 := if u = 0 then [] else Lib.decDigits u
theorem digs_step (u : Nat) (h : u ≠ 0) : digs u = digs (u / 10) ++ [UInt8.ofNat (48 + u % 10)] := by
  rw [digs, if_neg h, Lib.decDigits]
  by_cases h1 : u < 10
  · rw [dif_pos h1, digs, if_pos (by omega), List.nil_append, show u % 10 = u from by omega]
  · rw [dif_neg h1, digs, if_neg (by omega)]
/-- the digit's byte, as it is cut out of the ten. -/
theorem digit_cut (d : Nat) (h : d < 10) : (⟨#[48, 49, 50, 51, 52, 53, 54, 55, 56, 57]⟩ : ByteArray).extract d (d + 1) = ⟨#[UInt8.ofNat (48 + d)]⟩ := by
  match d, h with
  | 0, _ => decide +kernel
  | 1, _ => decide +kernel
  | 2, _ => decide +kernel
  | 3, _ => decide +kernel
  | 4, _ => decide +kernel
  | 5, _ => decide +kernel
  | 6, _ => decide +kernel
  | 7, _ => decide +kernel
  | 8, _ => decide +kernel
  | 9, _ => decide +kernel
theorem digs_len (u : Nat) (h1 : (u : Int) ≤ 9223372036854775808) : (digs u).length ≤ 40 := by
  unfold digs
  split
  · simp
  · rename_i h
    by_cases h2 : (u : Int) ≤ 9223372036854775807
    · have := Lib.itoa_length_le (u : Int) (by omega) h2
      rw [Lib.itoa_nonneg] at this
      omega
    · have e : u = 9223372036854775808 := by omega
      subst e
      have := Lib.itoa_length_le (-(9223372036854775808 : Nat) : Int) (by omega) (by omega)
      rw [Lib.itoa_neg _ (by omega)] at this
      simp only [List.length_cons] at this
      omega
theorem cat_digit (d : Nat) (l : List UInt8) (h : d < 10) : (⟨#[48, 49, 50, 51, 52, 53, 54, 55, 56, 57]⟩ : ByteArray).extract d (d + 1) ++ ⟨l.toArray⟩ = ⟨(UInt8.ofNat (48 + d) :: l).toArray⟩ := by
  rw [digit_cut d h]
  apply ByteArray.ext
  rw [ByteArray.data_append]
  simp
set_option maxHeartbeats 1000000 in
set_option maxRecDepth 100000 in
theorem specDec_pos (u : Nat) (w : World) (h0 : u ≠ 0) (h1 : (u : Int) ≤ 9223372036854775807) :
    Calls Tryz.prog 31 #[.int .i64 u] w fun e w' => e = .returned (.string ⟨(digs u).toArray⟩) ∧ w' = w := by
  have hn : ((u : Int) == 0) = false := by simp; omega
  have hneg : decide ((u : Int) < 0) = false := by first | (simp; done) | (simp; omega)
  have hU := digs_len u (by omega)
  go_enter Tryz.func31, Tryz.ntmps31
  go_wp2
  go_loop [3, 4] (fun o m => ∃ (v : Nat) (l : List UInt8), o = .string ⟨l.toArray⟩ ∧ m = .int .i64 v ∧ v ≤ u ∧ digs v ++ l = digs u) (fun _ m => (intOf m).toNat)
  case atStart => exact ⟨u, [], rfl, rfl, Nat.le_refl _, by simp⟩
  case round =>
    obtain ⟨v, l, rfl, rfl, hv, hl0⟩ := hrel
    have hll : l.length ≤ 40 := by have := congrArg List.length hl0; rw [List.length_append] at this; omega
    have hl : Hid (digs v ++ l = digs u) := hl0
    clear hl0
    by_cases hz : v = 0
    · subst hz
      have hfin : Hid (l = digs u) := by show _ = _; rw [← hl.out]; simp [digs]
      go_wp2
      go_returns
      exact ⟨by rw [hfin.out]; rfl, rfl⟩
    · have hvn : ((v : Int) != 0) = true := by simp; omega
      have hd : v % 10 < 10 := by omega
      have hcat : Hid ((⟨#[48, 49, 50, 51, 52, 53, 54, 55, 56, 57]⟩ : ByteArray).extract (v % 10) (v % 10 + 1) ++ ⟨l.toArray⟩ = ⟨(UInt8.ofNat (48 + v % 10) :: l).toArray⟩) := cat_digit (v % 10) l hd
      have hst : Hid (digs (v / 10) ++ (UInt8.ofNat (48 + v % 10) :: l) = digs u) := by
        show _ = _
        rw [← hl.out, digs_step v hz, List.append_assoc]; rfl
      have hlow : (0 : Int) ≤ (v : Int) % 10 := by omega
      have hup : (v : Int) % 10 + 1 ≤ 10 := by omega
      have hdz : decide ((v : Int) % 10 < 0) = false := by first | (simp; done) | (simp; omega)
      go_wp2
      exact ⟨⟨v / 10, _, by rw [hcat.out], by go_num, by omega, hst.out⟩, by simp [intOf]; omega⟩
theorem neg_tmod (v : Nat) : (-(v : Int)).tmod 10 = -((v % 10 : Nat) : Int) := by rw [Int.neg_tmod]; rfl
theorem neg_tdiv (v : Nat) : (-(v : Int)).tdiv 10 = -((v / 10 : Nat) : Int) := by rw [Int.neg_tdiv]; rfl
theorem cat_minus (l : List UInt8) : (⟨#[45]⟩ : ByteArray) ++ ⟨l.toArray⟩ = ⟨(45 :: l).toArray⟩ := by
  apply ByteArray.ext
  rw [ByteArray.data_append]
  simp
set_option maxHeartbeats 1000000 in
set_option maxRecDepth 100000 in
theorem specDec_neg (u : Nat) (w : World) (h0 : u ≠ 0) (h1 : (u : Int) ≤ 9223372036854775808) :
    Calls Tryz.prog 31 #[.int .i64 (-(u : Int))] w fun e w' => e = .returned (.string ⟨(45 :: digs u).toArray⟩) ∧ w' = w := by
  have hn : (-(u : Int) == 0) = false := by simp; omega
  have hneg : -(u : Int) < 0 := by omega
  have hU := digs_len u h1
  have hu0 : ¬ u = 0 := h0
  clear h0
  go_enter Tryz.func31, Tryz.ntmps31
  go_wp2
  go_loop [3, 4] (fun o m => ∃ (v : Nat) (l : List UInt8), o = .string ⟨l.toArray⟩ ∧ m = .int .i64 (-(v : Int)) ∧ v ≤ u ∧ digs v ++ l = digs u) (fun _ m => (-(intOf m)).toNat)
  case atStart => exact ⟨u, [], rfl, rfl, Nat.le_refl _, by simp⟩
  case round =>
    obtain ⟨v, l, rfl, rfl, hv, hl0⟩ := hrel
    have hll : l.length ≤ 40 := by have := congrArg List.length hl0; rw [List.length_append] at this; omega
    have hl : Hid (digs v ++ l = digs u) := hl0
    clear hl0
    by_cases hz : v = 0
    · subst hz
      have hfin : Hid ((⟨#[45]⟩ : ByteArray) ++ ⟨l.toArray⟩ = ⟨(45 :: digs u).toArray⟩) := by show _ = _; rw [cat_minus, ← hl.out]; simp [digs]
      go_wp2
      go_returns
      exact ⟨by rw [← hfin.out]; rfl, rfl⟩
    · have hvn : (-(v : Int) != 0) = true := by simp; omega
      have hcat : Hid ((⟨#[48, 49, 50, 51, 52, 53, 54, 55, 56, 57]⟩ : ByteArray).extract (v % 10) (v % 10 + 1) ++ ⟨l.toArray⟩ = ⟨(UInt8.ofNat (48 + v % 10) :: l).toArray⟩) := cat_digit (v % 10) l (by omega)
      have hst : Hid (digs (v / 10) ++ (UInt8.ofNat (48 + v % 10) :: l) = digs u) := by
        show _ = _
        rw [← hl.out, digs_step v hz, List.append_assoc]; rfl
      have htm := neg_tmod v
      have htd := neg_tdiv v
      have hdv : Hid (v / 10 < v) := by show _ < _; omega
      obtain ⟨x, hx⟩ : ∃ x : Nat, v % 10 = x := ⟨_, rfl⟩
      obtain ⟨y, hy⟩ : ∃ y : Nat, v / 10 = y := ⟨_, rfl⟩
      rw [hx] at htm hcat hst
      rw [hy] at htd hst hdv
      have hx10 : x < 10 := by omega
      have hyu : y ≤ u := by omega
      have hyb : (y : Int) ≤ 9223372036854775807 := by omega
      clear hx hy
      by_cases hx0 : x = 0
      · subst hx0
        go_wp2
        exact ⟨⟨y, _, by rw [← hcat.out], by go_num, hyu, hst.out⟩, by have := hdv.out; simp [intOf]; omega⟩
      · have hxn : -(x : Int) < 0 := by omega
        have hxt : ((x : Int)).toNat = x := by omega
        have hxt1 : ((x : Int) + 1).toNat = x + 1 := by omega
        go_wp2
        exact ⟨⟨y, _, by rw [← hcat.out], by go_num, hyu, hst.out⟩, by have := hdv.out; simp [intOf]; omega⟩
set_option maxHeartbeats 400000 in
theorem specDec_zero (w : World) :
    Calls Tryz.prog 31 #[.int .i64 0] w fun e w' => e = .returned (.string ⟨#[48]⟩) ∧ w' = w := by
  go_enter Tryz.func31, Tryz.ntmps31
  go_wp2
  go_returns
  exact ⟨rfl, rfl⟩
theorem specDec_any (n : Int) (w : World) (h0 : -9223372036854775808 ≤ n) (h1 : n ≤ 9223372036854775807) :
    Calls Tryz.prog 31 #[.int .i64 n] w fun e w' => e = .returned (.string ⟨(Lib.itoa n).toArray⟩) ∧ w' = w := by
  by_cases hz : n = 0
  · subst hz
    have e : (Lib.itoa 0).toArray = #[48] := by
      rw [show (0 : Int) = ((0 : Nat) : Int) from rfl, Lib.itoa_nonneg, Lib.decDigits_one (by omega)]
      rfl
    rw [e]; exact specDec_zero w
  by_cases hp : 0 ≤ n
  · obtain ⟨u, rfl⟩ := Int.eq_ofNat_of_zero_le hp
    have hu : u ≠ 0 := by omega
    have e : Lib.itoa (u : Int) = digs u := by rw [Lib.itoa_nonneg, digs, if_neg hu]
    rw [e]; exact specDec_pos u w hu h1
  · obtain ⟨u, hu⟩ := Int.eq_ofNat_of_zero_le (show 0 ≤ -n by omega)
    obtain rfl : n = -(u : Int) := by omega
    have hu : u ≠ 0 := by omega
    have e : Lib.itoa (-(u : Int)) = 45 :: digs u := by rw [Lib.itoa_neg u (by omega), digs, if_neg hu]
    rw [e]; exact specDec_neg u w hu (by omega)
end Go.Proofs.YtiaafgmjigbjlaaGreatDoor
