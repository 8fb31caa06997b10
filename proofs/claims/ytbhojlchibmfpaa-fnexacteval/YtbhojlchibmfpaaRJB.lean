/- Own text. At every sign and every two values both Reckon answer the same, a value with a number of 64 bits. -/
import Derived.Test.YtbhojlchibmfpaaRI
import Derived.Test.YtbhojlchibmfpaaRS
namespace Go.Proofs.Ytbhojlchibmfpaa
open Go.RowKit
set_option linter.unusedVariables false
abbrev InN (x : Int) : Prop := -9223372036854775808 ≤ x ∧ x ≤ 9223372036854775807
theorem bd_wrap (x : Int) : InN (wrap64 x) := by unfold InN wrap64; omega
theorem bd_get {o : Option Int} (h : ∀ x, o = some x → InN x) : InN (nO o) := by
  cases o with
  | none => decide
  | some x => exact h x rfl
theorem bd_add (a b : Int) : InN (nO (addO a b)) := bd_get fun x h => by unfold addO at h; split at h <;> cases h; exact bd_wrap _
theorem bd_sub (a b : Int) : InN (nO (subO a b)) := bd_get fun x h => by unfold subO at h; split at h <;> cases h; exact bd_wrap _
theorem bd_mul (a b : Int) : InN (nO (mulO a b)) := bd_get fun x h => by
  unfold mulO at h
  split at h
  · cases h; decide
  · split at h
    · unfold subO at h; split at h <;> cases h; exact bd_wrap _
    · split at h <;> cases h; exact bd_wrap _
theorem bd_div (a b : Int) : InN (nO (divO a b)) := bd_get fun x h => by
  unfold divO at h
  split at h
  · cases h
  · split at h
    · unfold subO at h; split at h <;> cases h; exact bd_wrap _
    · cases h
      split <;> exact bd_wrap _
theorem bd_bn (b : Bool) : InN (bn b) := by cases b <;> decide
theorem bd_ch0 (p q r s : Bool) : InN (chN 0 p q r s) := by cases p <;> cases q <;> cases r <;> cases s <;> decide
theorem bd_ch1 (p q r s : Bool) : InN (chN 1 p q r s) := by cases p <;> cases q <;> cases r <;> cases s <;> decide
/-- both Reckon answer one and the same value. -/
def BothB (op : ByteArray) (k a : Int) (s : ByteArray) (k' b : Int) (s' : ByteArray) (m : Int) : Prop := ∃ K N : Int, InN N ∧
  (∀ w : World, w.cell? ⟨0, 0, none⟩ = some (.int .i64 m) → Calls Try.prog 75 #[.string op, (.agg #[.int .i64 k, .int .i64 a, .string s]), (.agg #[.int .i64 k', .int .i64 b, .string s'])] w fun e w' => e = .returned (.agg #[.int .i64 K, .int .i64 N, .string ⟨#[]⟩]) ∧ Below w.heap.size w w') ∧
  (∀ w : World, Calls Try.prog 69 #[.string op, (.agg #[.int .i64 k, .int .i64 a, .string s]), (.agg #[.int .i64 k', .int .i64 b, .string s'])] w fun e w' => e = .returned (.agg #[.int .i64 K, .int .i64 N, .string ⟨#[]⟩]) ∧ Below w.heap.size w w')
theorem no_specB (op : ByteArray) (k a k' b : Int) (s s' : ByteArray) (x7 : (op.toList == [97, 110, 100]) = false) (x8 : (op.toList == [111, 114]) = false) (h : ¬ (k = k' ∧ ¬ k = 0)) (w : World) :
    Calls Try.prog 69 #[.string op, (.agg #[.int .i64 k, .int .i64 a, .string s]), (.agg #[.int .i64 k', .int .i64 b, .string s'])] w fun e w' => e = .returned (.agg #[.int .i64 0, .int .i64 0, .string ⟨#[]⟩]) ∧ Below w.heap.size w w' := by
  by_cases hk : k = k'
  · subst hk
    have h0 : k = 0 := by
      rcases Int.lt_trichotomy k 0 with h' | h' | h'
      · exact absurd ⟨rfl, by omega⟩ h
      · exact h'
      · exact absurd ⟨rfl, by omega⟩ h
    subst h0
    exact rS_null op a b s s' w x7 x8
  · exact rS_ne op k k' a b s s' w x7 x8 (by simp [hk])
theorem bothB_add (op : ByteArray) (k a k' b : Int) (s s' : ByteArray) (m : Int) (ha : -9223372036854775808 ≤ a ∧ a ≤ 9223372036854775807) (hb : -9223372036854775808 ≤ b ∧ b ≤ 9223372036854775807) (hop : op.toList = [43]) : BothB op k a s k' b s' m := by
  by_cases h : k = 1 ∧ k' = 1
  · obtain ⟨rfl, rfl⟩ := h
    exact ⟨_, _, by first | exact bd_add _ _ | exact bd_sub _ _ | exact bd_mul _ _ | exact bd_div _ _ | exact bd_bn _ | exact bd_ch0 _ _ _ _ | exact bd_ch1 _ _ _ _, fun w _ => rI_add op a b s s' w hop, fun w => rS_add op a b s s' w ha hb hop⟩
  · refine ⟨0, 0, by decide, fun w _ => rI_add_no op k k' a b s s' w hop h, fun w => ?_⟩
    by_cases hk : k = k' ∧ ¬ k = 0
    · obtain ⟨rfl, h0⟩ := hk
      have h1 : ¬ k = 1 := fun e => h ⟨e, e⟩
      exact rS_kx op k a b s s' w (by rw [hop]; rfl) (by rw [hop]; rfl) (by rw [hop]; rfl) (by rw [hop]; rfl) (by rw [hop]; rfl) (by simp [h0]) (by simp [h1])
    · exact no_specB op k a k' b s s' (by rw [hop]; rfl) (by rw [hop]; rfl) hk w
theorem bothB_sub (op : ByteArray) (k a k' b : Int) (s s' : ByteArray) (m : Int) (ha : -9223372036854775808 ≤ a ∧ a ≤ 9223372036854775807) (hb : -9223372036854775808 ≤ b ∧ b ≤ 9223372036854775807) (hop : op.toList = [45]) : BothB op k a s k' b s' m := by
  by_cases h : k = 1 ∧ k' = 1
  · obtain ⟨rfl, rfl⟩ := h
    exact ⟨_, _, by first | exact bd_add _ _ | exact bd_sub _ _ | exact bd_mul _ _ | exact bd_div _ _ | exact bd_bn _ | exact bd_ch0 _ _ _ _ | exact bd_ch1 _ _ _ _, fun w _ => rI_sub op a b s s' w hop, fun w => rS_sub op a b s s' w ha hb hop⟩
  · refine ⟨0, 0, by decide, fun w _ => rI_sub_no op k k' a b s s' w hop h, fun w => ?_⟩
    by_cases hk : k = k' ∧ ¬ k = 0
    · obtain ⟨rfl, h0⟩ := hk
      have h1 : ¬ k = 1 := fun e => h ⟨e, e⟩
      exact rS_kx op k a b s s' w (by rw [hop]; rfl) (by rw [hop]; rfl) (by rw [hop]; rfl) (by rw [hop]; rfl) (by rw [hop]; rfl) (by simp [h0]) (by simp [h1])
    · exact no_specB op k a k' b s s' (by rw [hop]; rfl) (by rw [hop]; rfl) hk w
theorem bothB_mul (op : ByteArray) (k a k' b : Int) (s s' : ByteArray) (m : Int) (ha : -9223372036854775808 ≤ a ∧ a ≤ 9223372036854775807) (hb : -9223372036854775808 ≤ b ∧ b ≤ 9223372036854775807) (hop : op.toList = [42]) : BothB op k a s k' b s' m := by
  by_cases h : k = 1 ∧ k' = 1
  · obtain ⟨rfl, rfl⟩ := h
    exact ⟨_, _, by first | exact bd_add _ _ | exact bd_sub _ _ | exact bd_mul _ _ | exact bd_div _ _ | exact bd_bn _ | exact bd_ch0 _ _ _ _ | exact bd_ch1 _ _ _ _, fun w _ => rI_mul op a b s s' w hop, fun w => rS_mul op a b s s' w ha hb hop⟩
  · refine ⟨0, 0, by decide, fun w _ => rI_mul_no op k k' a b s s' w hop h, fun w => ?_⟩
    by_cases hk : k = k' ∧ ¬ k = 0
    · obtain ⟨rfl, h0⟩ := hk
      have h1 : ¬ k = 1 := fun e => h ⟨e, e⟩
      exact rS_kx op k a b s s' w (by rw [hop]; rfl) (by rw [hop]; rfl) (by rw [hop]; rfl) (by rw [hop]; rfl) (by rw [hop]; rfl) (by simp [h0]) (by simp [h1])
    · exact no_specB op k a k' b s s' (by rw [hop]; rfl) (by rw [hop]; rfl) hk w
theorem bothB_div (op : ByteArray) (k a k' b : Int) (s s' : ByteArray) (m : Int) (ha : -9223372036854775808 ≤ a ∧ a ≤ 9223372036854775807) (hb : -9223372036854775808 ≤ b ∧ b ≤ 9223372036854775807) (hop : op.toList = [47]) : BothB op k a s k' b s' m := by
  by_cases h : k = 1 ∧ k' = 1
  · obtain ⟨rfl, rfl⟩ := h
    exact ⟨_, _, by first | exact bd_add _ _ | exact bd_sub _ _ | exact bd_mul _ _ | exact bd_div _ _ | exact bd_bn _ | exact bd_ch0 _ _ _ _ | exact bd_ch1 _ _ _ _, fun w _ => rI_div op a b s s' w hop, fun w => rS_div op a b s s' w ha hb hop⟩
  · refine ⟨0, 0, by decide, fun w _ => rI_div_no op k k' a b s s' w hop h, fun w => ?_⟩
    by_cases hk : k = k' ∧ ¬ k = 0
    · obtain ⟨rfl, h0⟩ := hk
      have h1 : ¬ k = 1 := fun e => h ⟨e, e⟩
      exact rS_kx op k a b s s' w (by rw [hop]; rfl) (by rw [hop]; rfl) (by rw [hop]; rfl) (by rw [hop]; rfl) (by rw [hop]; rfl) (by simp [h0]) (by simp [h1])
    · exact no_specB op k a k' b s s' (by rw [hop]; rfl) (by rw [hop]; rfl) hk w
theorem bothB_eq (op : ByteArray) (k a k' b : Int) (s s' : ByteArray) (m : Int) (hop : op.toList = [61]) : BothB op k a s k' b s' m := by
  by_cases hk : k = k' ∧ ¬ k = 0
  · obtain ⟨rfl, h0⟩ := hk
    exact ⟨_, _, by first | exact bd_add _ _ | exact bd_sub _ _ | exact bd_mul _ _ | exact bd_div _ _ | exact bd_bn _ | exact bd_ch0 _ _ _ _ | exact bd_ch1 _ _ _ _, fun w _ => rI_eq op k a b s s' w hop (by simp [h0]), fun w => rS_eq op k a b s s' w hop (by simp [h0])⟩
  · exact ⟨0, 0, by decide, fun w _ => rI_eq_no op k k' a b s s' w hop hk, fun w => no_specB op k a k' b s s' (by rw [hop]; rfl) (by rw [hop]; rfl) hk w⟩
theorem bothB_lt (op : ByteArray) (k a k' b : Int) (s s' : ByteArray) (m : Int) (hop : op.toList = [60]) : BothB op k a s k' b s' m := by
  by_cases hk : k = k' ∧ ¬ k = 0
  · obtain ⟨rfl, h0⟩ := hk
    exact ⟨_, _, by first | exact bd_add _ _ | exact bd_sub _ _ | exact bd_mul _ _ | exact bd_div _ _ | exact bd_bn _ | exact bd_ch0 _ _ _ _ | exact bd_ch1 _ _ _ _, fun w _ => rI_lt op k a b s s' w hop (by simp [h0]), fun w => rS_lt op k a b s s' w hop (by simp [h0])⟩
  · exact ⟨0, 0, by decide, fun w _ => rI_lt_no op k k' a b s s' w hop hk, fun w => no_specB op k a k' b s s' (by rw [hop]; rfl) (by rw [hop]; rfl) hk w⟩
theorem bothB_hold (op : ByteArray) (k a k' b : Int) (s s' : ByteArray) (m : Int) (hs : s.size ≤ 1048576) (hs' : s'.size ≤ 1048576) (hop : op.toList = [126]) : BothB op k a s k' b s' m := by
  by_cases h : k = 3 ∧ k' = 3
  · obtain ⟨rfl, rfl⟩ := h
    exact ⟨_, _, by first | exact bd_add _ _ | exact bd_sub _ _ | exact bd_mul _ _ | exact bd_div _ _ | exact bd_bn _ | exact bd_ch0 _ _ _ _ | exact bd_ch1 _ _ _ _, fun w hm => rI_hold op a b s s' _ rfl m w (by omega) hm hop, fun w => rS_hold op a b s s' _ rfl w hs hs' hop⟩
  · refine ⟨0, 0, by decide, fun w _ => rI_hold_no op k k' a b s s' w hop h, fun w => ?_⟩
    by_cases hk : k = k' ∧ ¬ k = 0
    · obtain ⟨rfl, h0⟩ := hk
      have h3 : ¬ k = 3 := fun e => h ⟨e, e⟩
      by_cases h1 : k = 1
      · subst h1; exact rS_1h op a b s s' w hop
      · exact rS_kh op k a b s s' w hop (by simp [h0]) (by simp [h1]) (by simp [h3])
    · exact no_specB op k a k' b s s' (by rw [hop]; rfl) (by rw [hop]; rfl) hk w
theorem bothB_and (op : ByteArray) (k a k' b : Int) (s s' : ByteArray) (m : Int) (hop : op.toList = [97, 110, 100]) : BothB op k a s k' b s' m :=
  ⟨_, _, by first | exact bd_add _ _ | exact bd_sub _ _ | exact bd_mul _ _ | exact bd_div _ _ | exact bd_bn _ | exact bd_ch0 _ _ _ _ | exact bd_ch1 _ _ _ _, fun w _ => rI_and op k k' a b s s' _ _ _ _ rfl rfl rfl rfl w hop, fun w => rS_and op k k' a b s s' _ _ _ _ rfl rfl rfl rfl w hop⟩
theorem bothB_or (op : ByteArray) (k a k' b : Int) (s s' : ByteArray) (m : Int) (hop : op.toList = [111, 114]) : BothB op k a s k' b s' m :=
  ⟨_, _, by first | exact bd_add _ _ | exact bd_sub _ _ | exact bd_mul _ _ | exact bd_div _ _ | exact bd_bn _ | exact bd_ch0 _ _ _ _ | exact bd_ch1 _ _ _ _, fun w _ => rI_or op k k' a b s s' _ _ _ _ rfl rfl rfl rfl w hop, fun w => rS_or op k k' a b s s' _ _ _ _ rfl rfl rfl rfl w hop⟩
theorem bothB_x (op : ByteArray) (k a k' b : Int) (s s' : ByteArray) (m : Int) (x0 : (op.toList == [43]) = false) (x1 : (op.toList == [45]) = false) (x2 : (op.toList == [42]) = false) (x3 : (op.toList == [47]) = false) (x4 : (op.toList == [61]) = false) (x5 : (op.toList == [60]) = false) (x6 : (op.toList == [126]) = false) (x7 : (op.toList == [97, 110, 100]) = false) (x8 : (op.toList == [111, 114]) = false) : BothB op k a s k' b s' m := by
  refine ⟨0, 0, by decide, fun w _ => rI_x op k k' a b s s' w x0 x1 x2 x3 x4 x5 x6 x7 x8, fun w => ?_⟩
  by_cases hk : k = k' ∧ ¬ k = 0
  · obtain ⟨rfl, h0⟩ := hk
    by_cases h1 : k = 1
    · subst h1; exact rS_1x op a b s s' w x0 x1 x2 x3 x4 x5 x7 x8 x6
    · exact rS_kx op k a b s s' w x4 x5 x7 x8 x6 (by simp [h0]) (by simp [h1])
  · exact no_specB op k a k' b s s' x7 x8 hk w
theorem bothB_any (op : ByteArray) (k a k' b : Int) (s s' : ByteArray) (m : Int) (ha : -9223372036854775808 ≤ a ∧ a ≤ 9223372036854775807) (hb : -9223372036854775808 ≤ b ∧ b ≤ 9223372036854775807) (hs : s.size ≤ 1048576) (hs' : s'.size ≤ 1048576) : BothB op k a s k' b s' m := by
  by_cases y0 : op.toList = [43]
  · exact bothB_add op k a k' b s s' m ha hb y0
  by_cases y1 : op.toList = [45]
  · exact bothB_sub op k a k' b s s' m ha hb y1
  by_cases y2 : op.toList = [42]
  · exact bothB_mul op k a k' b s s' m ha hb y2
  by_cases y3 : op.toList = [47]
  · exact bothB_div op k a k' b s s' m ha hb y3
  by_cases y4 : op.toList = [61]
  · exact bothB_eq op k a k' b s s' m y4
  by_cases y5 : op.toList = [60]
  · exact bothB_lt op k a k' b s s' m y5
  by_cases y6 : op.toList = [126]
  · exact bothB_hold op k a k' b s s' m hs hs' y6
  by_cases y7 : op.toList = [97, 110, 100]
  · exact bothB_and op k a k' b s s' m y7
  by_cases y8 : op.toList = [111, 114]
  · exact bothB_or op k a k' b s s' m y8
  exact bothB_x op k a k' b s s' m (by simp [y0]) (by simp [y1]) (by simp [y2]) (by simp [y3]) (by simp [y4]) (by simp [y5]) (by simp [y6]) (by simp [y7]) (by simp [y8])
end Go.Proofs.Ytbhojlchibmfpaa
