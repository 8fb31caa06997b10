/- Own text. The contracts of both Sum: they answer sumB, and turn nothing. -/
import Derived.Test.YtdkbhoichmcodaaKit
import Derived.Handy
namespace Go.Proofs.Ytdkbhoichmcodaa
open Go.RowKit
set_option linter.unusedVariables false
/-- a sum, and one byte more. -/
def smix (x c : Int) : Int := bits .xor .u32 x c * 16777619 % 4294967296
theorem smix_bd (x c : Int) : 0 ≤ smix x c ∧ smix x c < 4294967296 := by unfold smix; omega
/-- the sum of the first n bytes. -/
def sumN (s : ByteArray) : Nat → Int
  | 0 => 2166136261
  | n + 1 => smix (sumN s n) (if h : n < s.size then s[n].toNat else 0)
theorem sumN_bd (s : ByteArray) (n : Nat) : 0 ≤ sumN s n ∧ sumN s n < 4294967296 := by
  cases n with
  | zero => unfold sumN; omega
  | succ n => exact smix_bd _ _
theorem sumN_step (s : ByteArray) (n : Nat) (h : n < s.size) : sumN s (n + 1) = smix (sumN s n) s[n].toNat := by show smix _ _ = _; rw [dif_pos h]
/-- the sum of a text. -/
def sumB (s : ByteArray) : Int := sumN s s.size
theorem sumB_bd (s : ByteArray) : 0 ≤ sumB s ∧ sumB s < 4294967296 := sumN_bd _ _
theorem ret_u32 {a b : Int} (h : a = b) : Ending.returned (.int .u32 a) = .returned (.int .u32 b) := by rw [h]
set_option maxHeartbeats 400000 in
theorem with_any (x c : Int) (w : World) (h0 : 0 ≤ x) (h1 : x < 4294967296) (hc0 : 0 ≤ c) (hc1 : c ≤ 255) :
    Calls Try.prog 91 #[.int .u32 x, .int .u8 c] w fun e w' => e = .returned (.int .u32 (smix x c)) ∧ w' = w := by
  go_enter Try.func91, Try.ntmps91
  go_wp2
  go_returns
  exact ⟨rfl, rfl⟩
set_option maxHeartbeats 1000000 in
set_option maxRecDepth 100000 in
theorem over_any (s : ByteArray) (w : World) (hs : s.size ≤ maxLen) :
    Calls Try.prog 90 #[.string s, .int .u32 2166136261, .func (.func 91) #[] #[]] w fun e w' => e = .returned (.int .u32 (sumB s)) ∧ w' = w := by
  unfold maxLen at hs
  go_enter Try.func90, Try.ntmps90
  go_wp2_with fail
  go_loop [1, 10] (fun x i => ∃ k : Nat, k ≤ s.size ∧ i = .int .i64 k ∧ x = .int .u32 (sumN s k)) (fun _ i => s.size - (intOf i).toNat)
  case atStart => exact ⟨0, Nat.zero_le _, rfl, rfl⟩
  case round =>
    obtain ⟨k, hk, rfl, rfl⟩ := hrel
    have hb := sumN_bd s k
    by_cases hlt : k < s.size
    · have hc := s[k].toNat_lt
      have hst : Hid (sumN s (k + 1) = smix (sumN s k) s[k].toNat) := sumN_step s k hlt
      go_wp2_with (go_at_call 91; refine (with_any _ _ _ hb.1 hb.2 (by omega) (by omega)).mono ?_; rintro e w' ⟨rfl, rfl⟩)
      exact ⟨⟨k + 1, by omega, by go_num, by rw [hst.out]⟩, by simp [intOf]; omega⟩
    · obtain rfl : k = s.size := by omega
      go_wp2_with fail
      go_returns
      exact ⟨rfl, rfl⟩
set_option maxHeartbeats 1000000 in
set_option maxRecDepth 100000 in
theorem implSum_any (s : ByteArray) (w : World) (hs : s.size ≤ maxLen) :
    Calls Try.prog 36 #[.string s] w fun e w' => e = .returned (.int .u32 (sumB s)) ∧ w' = w := by
  go_enter Try.func36, Try.ntmps36
  go_wp2_with (go_at_call 90; refine (over_any s _ hs).mono ?_; rintro e w' ⟨rfl, rfl⟩)
  go_returns
  exact ⟨rfl, rfl⟩
set_option maxHeartbeats 1000000 in
set_option maxRecDepth 100000 in
theorem specSum_any (s : ByteArray) (w : World) (hs : s.size ≤ maxLen) :
    Calls Try.prog 35 #[.string s] w fun e w' => e = .returned (.int .u32 (sumB s)) ∧ w' = w := by
  unfold maxLen at hs
  go_enter Try.func35, Try.ntmps35
  go_wp2_with fail
  go_loop [3, 4] (fun x i => ∃ k : Nat, k ≤ s.size ∧ i = .int .i64 k ∧ x = .int .u32 (sumN s k)) (fun _ i => s.size - (intOf i).toNat)
  case atStart => exact ⟨0, Nat.zero_le _, rfl, rfl⟩
  case round =>
    obtain ⟨k, hk, rfl, rfl⟩ := hrel
    have hb := sumN_bd s k
    by_cases hlt : k < s.size
    · have hc := s[k].toNat_lt
      have hst : Hid (sumN s (k + 1) = smix (sumN s k) s[k].toNat) := sumN_step s k hlt
      go_wp2_with fail
      exact ⟨⟨k + 1, by omega, by go_num, by rw [hst.out]; try rfl⟩, by simp [intOf]; omega⟩
    · obtain rfl : k = s.size := by omega
      go_wp2_with fail
      go_returns
      exact ⟨rfl, rfl⟩
end Go.Proofs.Ytdkbhoichmcodaa
