/- Own text. At every sign and every two values both Reckon answer the same, and it is a value. (Made out of RJ.) -/
import Derived.Test.YtlakhcmbalcclaaRI
import Derived.Test.YtlakhcmbalcclaaRS
import Derived.Test.YtlakhcmbalcclaaRkF
namespace Go.Proofs.Ytlakhcmbalcclaa
open Go.RowKit
set_option linter.unusedVariables false
set_option linter.unusedSimpArgs false
/-- both Reckon answer one and the same value. -/
def BothK (op : ByteArray) (k a : Int) (s : ByteArray) (k' b : Int) (s' : ByteArray) (m : Int) : Prop := ∃ K N : Int, okB K N ⟨#[]⟩ = true ∧
  (∀ w : World, w.cell? ⟨0, 0, none⟩ = some (.int .i64 m) → Calls Try.prog 6 #[.string op, (.agg #[.int .i64 k, .int .i64 a, .string s]), (.agg #[.int .i64 k', .int .i64 b, .string s'])] w fun e w' => e = .returned (.agg #[.int .i64 K, .int .i64 N, .string ⟨#[]⟩]) ∧ Below w.heap.size w w') ∧
  (∀ w : World, Calls Try.prog 8 #[.string op, (.agg #[.int .i64 k, .int .i64 a, .string s]), (.agg #[.int .i64 k', .int .i64 b, .string s'])] w fun e w' => e = .returned (.agg #[.int .i64 K, .int .i64 N, .string ⟨#[]⟩]) ∧ Below w.heap.size w w')
theorem ok_o (o : Option Int) : okB (kO o) (nO o) ⟨#[]⟩ = true := by cases o <;> simp [kO, nO, okB, l_nil]
theorem ok_b (b : Bool) : okB 2 (bn b) ⟨#[]⟩ = true := by cases b <;> simp [bn, okB, l_nil]
theorem ok_c0 (p0 q0 p1 q1 : Bool) : okB (chK p0 q0 p1 q1) (chN 0 p0 q0 p1 q1) ⟨#[]⟩ = true := by cases p0 <;> cases q0 <;> cases p1 <;> cases q1 <;> simp [chK, chN, okB, l_nil]
theorem ok_c1 (p0 q0 p1 q1 : Bool) : okB (chK p0 q0 p1 q1) (chN 1 p0 q0 p1 q1) ⟨#[]⟩ = true := by cases p0 <;> cases q0 <;> cases p1 <;> cases q1 <;> simp [chK, chN, okB, l_nil]
theorem ok_0 : okB 0 0 ⟨#[]⟩ = true := by simp [okB, l_nil]
theorem bothK_add (op : ByteArray) (k a k' b : Int) (s s' : ByteArray) (m : Int) (ha : -9223372036854775808 ≤ a ∧ a ≤ 9223372036854775807) (hb : -9223372036854775808 ≤ b ∧ b ≤ 9223372036854775807) (hop : op.toList = [43]) : BothK op k a s k' b s' m := by
  by_cases h : k = 1 ∧ k' = 1
  · obtain ⟨rfl, rfl⟩ := h
    exact ⟨_, _, ok_o _, fun w _ => rI_add op a b s s' w hop, fun w => rS_add op a b s s' w ha hb hop⟩
  · refine ⟨0, 0, ok_0, fun w _ => rI_add_no op k k' a b s s' w hop h, fun w => ?_⟩
    by_cases hk : k = k' ∧ ¬ k = 0
    · obtain ⟨rfl, h0⟩ := hk
      have h1 : ¬ k = 1 := fun e => h ⟨e, e⟩
      exact rS_kx op k a b s s' w (by rw [hop]; rfl) (by rw [hop]; rfl) (by rw [hop]; rfl) (by rw [hop]; rfl) (by rw [hop]; rfl) (by simp [h0]) (by simp [h1])
    · exact no_spec op k a k' b s s' (by rw [hop]; rfl) (by rw [hop]; rfl) hk w
theorem bothK_sub (op : ByteArray) (k a k' b : Int) (s s' : ByteArray) (m : Int) (ha : -9223372036854775808 ≤ a ∧ a ≤ 9223372036854775807) (hb : -9223372036854775808 ≤ b ∧ b ≤ 9223372036854775807) (hop : op.toList = [45]) : BothK op k a s k' b s' m := by
  by_cases h : k = 1 ∧ k' = 1
  · obtain ⟨rfl, rfl⟩ := h
    exact ⟨_, _, ok_o _, fun w _ => rI_sub op a b s s' w hop, fun w => rS_sub op a b s s' w ha hb hop⟩
  · refine ⟨0, 0, ok_0, fun w _ => rI_sub_no op k k' a b s s' w hop h, fun w => ?_⟩
    by_cases hk : k = k' ∧ ¬ k = 0
    · obtain ⟨rfl, h0⟩ := hk
      have h1 : ¬ k = 1 := fun e => h ⟨e, e⟩
      exact rS_kx op k a b s s' w (by rw [hop]; rfl) (by rw [hop]; rfl) (by rw [hop]; rfl) (by rw [hop]; rfl) (by rw [hop]; rfl) (by simp [h0]) (by simp [h1])
    · exact no_spec op k a k' b s s' (by rw [hop]; rfl) (by rw [hop]; rfl) hk w
theorem bothK_mul (op : ByteArray) (k a k' b : Int) (s s' : ByteArray) (m : Int) (ha : -9223372036854775808 ≤ a ∧ a ≤ 9223372036854775807) (hb : -9223372036854775808 ≤ b ∧ b ≤ 9223372036854775807) (hop : op.toList = [42]) : BothK op k a s k' b s' m := by
  by_cases h : k = 1 ∧ k' = 1
  · obtain ⟨rfl, rfl⟩ := h
    exact ⟨_, _, ok_o _, fun w _ => rI_mul op a b s s' w hop, fun w => rS_mul op a b s s' w ha hb hop⟩
  · refine ⟨0, 0, ok_0, fun w _ => rI_mul_no op k k' a b s s' w hop h, fun w => ?_⟩
    by_cases hk : k = k' ∧ ¬ k = 0
    · obtain ⟨rfl, h0⟩ := hk
      have h1 : ¬ k = 1 := fun e => h ⟨e, e⟩
      exact rS_kx op k a b s s' w (by rw [hop]; rfl) (by rw [hop]; rfl) (by rw [hop]; rfl) (by rw [hop]; rfl) (by rw [hop]; rfl) (by simp [h0]) (by simp [h1])
    · exact no_spec op k a k' b s s' (by rw [hop]; rfl) (by rw [hop]; rfl) hk w
theorem bothK_div (op : ByteArray) (k a k' b : Int) (s s' : ByteArray) (m : Int) (ha : -9223372036854775808 ≤ a ∧ a ≤ 9223372036854775807) (hb : -9223372036854775808 ≤ b ∧ b ≤ 9223372036854775807) (hop : op.toList = [47]) : BothK op k a s k' b s' m := by
  by_cases h : k = 1 ∧ k' = 1
  · obtain ⟨rfl, rfl⟩ := h
    exact ⟨_, _, ok_o _, fun w _ => rI_div op a b s s' w hop, fun w => rS_div op a b s s' w ha hb hop⟩
  · refine ⟨0, 0, ok_0, fun w _ => rI_div_no op k k' a b s s' w hop h, fun w => ?_⟩
    by_cases hk : k = k' ∧ ¬ k = 0
    · obtain ⟨rfl, h0⟩ := hk
      have h1 : ¬ k = 1 := fun e => h ⟨e, e⟩
      exact rS_kx op k a b s s' w (by rw [hop]; rfl) (by rw [hop]; rfl) (by rw [hop]; rfl) (by rw [hop]; rfl) (by rw [hop]; rfl) (by simp [h0]) (by simp [h1])
    · exact no_spec op k a k' b s s' (by rw [hop]; rfl) (by rw [hop]; rfl) hk w
theorem bothK_eq (op : ByteArray) (k a k' b : Int) (s s' : ByteArray) (m : Int) (hop : op.toList = [61]) : BothK op k a s k' b s' m := by
  by_cases hk : k = k' ∧ ¬ k = 0
  · obtain ⟨rfl, h0⟩ := hk
    exact ⟨_, _, ok_b _, fun w _ => rI_eq op k a b s s' w hop (by simp [h0]), fun w => rS_eq op k a b s s' w hop (by simp [h0])⟩
  · exact ⟨0, 0, ok_0, fun w _ => rI_eq_no op k k' a b s s' w hop hk, fun w => no_spec op k a k' b s s' (by rw [hop]; rfl) (by rw [hop]; rfl) hk w⟩
theorem bothK_lt (op : ByteArray) (k a k' b : Int) (s s' : ByteArray) (m : Int) (hop : op.toList = [60]) : BothK op k a s k' b s' m := by
  by_cases hk : k = k' ∧ ¬ k = 0
  · obtain ⟨rfl, h0⟩ := hk
    exact ⟨_, _, ok_b _, fun w _ => rI_lt op k a b s s' w hop (by simp [h0]), fun w => rS_lt op k a b s s' w hop (by simp [h0])⟩
  · exact ⟨0, 0, ok_0, fun w _ => rI_lt_no op k k' a b s s' w hop hk, fun w => no_spec op k a k' b s s' (by rw [hop]; rfl) (by rw [hop]; rfl) hk w⟩
theorem bothK_hold (op : ByteArray) (k a k' b : Int) (s s' : ByteArray) (m : Int) (hs : s.size ≤ 1048576) (hs' : s'.size ≤ 1048576) (hop : op.toList = [126]) : BothK op k a s k' b s' m := by
  by_cases h : k = 3 ∧ k' = 3
  · obtain ⟨rfl, rfl⟩ := h
    exact ⟨_, _, ok_b _, fun w hm => rI_hold op a b s s' _ rfl m w (by omega) hm hop, fun w => rS_hold op a b s s' _ rfl w hs hs' hop⟩
  · refine ⟨0, 0, ok_0, fun w _ => rI_hold_no op k k' a b s s' w hop h, fun w => ?_⟩
    by_cases hk : k = k' ∧ ¬ k = 0
    · obtain ⟨rfl, h0⟩ := hk
      have h3 : ¬ k = 3 := fun e => h ⟨e, e⟩
      by_cases h1 : k = 1
      · subst h1; exact rS_1h op a b s s' w hop
      · exact rS_kh op k a b s s' w hop (by simp [h0]) (by simp [h1]) (by simp [h3])
    · exact no_spec op k a k' b s s' (by rw [hop]; rfl) (by rw [hop]; rfl) hk w
theorem bothK_and (op : ByteArray) (k a k' b : Int) (s s' : ByteArray) (m : Int) (hop : op.toList = [97, 110, 100]) : BothK op k a s k' b s' m :=
  ⟨_, _, ok_c0 _ _ _ _, fun w _ => rI_and op k k' a b s s' _ _ _ _ rfl rfl rfl rfl w hop, fun w => rS_and op k k' a b s s' _ _ _ _ rfl rfl rfl rfl w hop⟩
theorem bothK_or (op : ByteArray) (k a k' b : Int) (s s' : ByteArray) (m : Int) (hop : op.toList = [111, 114]) : BothK op k a s k' b s' m :=
  ⟨_, _, ok_c1 _ _ _ _, fun w _ => rI_or op k k' a b s s' _ _ _ _ rfl rfl rfl rfl w hop, fun w => rS_or op k k' a b s s' _ _ _ _ rfl rfl rfl rfl w hop⟩
theorem bothK_x (op : ByteArray) (k a k' b : Int) (s s' : ByteArray) (m : Int) (x0 : (op.toList == [43]) = false) (x1 : (op.toList == [45]) = false) (x2 : (op.toList == [42]) = false) (x3 : (op.toList == [47]) = false) (x4 : (op.toList == [61]) = false) (x5 : (op.toList == [60]) = false) (x6 : (op.toList == [126]) = false) (x7 : (op.toList == [97, 110, 100]) = false) (x8 : (op.toList == [111, 114]) = false) : BothK op k a s k' b s' m := by
  refine ⟨0, 0, ok_0, fun w _ => rI_x op k k' a b s s' w x0 x1 x2 x3 x4 x5 x6 x7 x8, fun w => ?_⟩
  by_cases hk : k = k' ∧ ¬ k = 0
  · obtain ⟨rfl, h0⟩ := hk
    by_cases h1 : k = 1
    · subst h1; exact rS_1x op a b s s' w x0 x1 x2 x3 x4 x5 x7 x8 x6
    · exact rS_kx op k a b s s' w x4 x5 x7 x8 x6 (by simp [h0]) (by simp [h1])
  · exact no_spec op k a k' b s s' x7 x8 hk w
theorem bothK_any (op : ByteArray) (k a k' b : Int) (s s' : ByteArray) (m : Int) (ha : -9223372036854775808 ≤ a ∧ a ≤ 9223372036854775807) (hb : -9223372036854775808 ≤ b ∧ b ≤ 9223372036854775807) (hs : s.size ≤ 1048576) (hs' : s'.size ≤ 1048576) : BothK op k a s k' b s' m := by
  by_cases y0 : op.toList = [43]
  · exact bothK_add op k a k' b s s' m ha hb y0
  by_cases y1 : op.toList = [45]
  · exact bothK_sub op k a k' b s s' m ha hb y1
  by_cases y2 : op.toList = [42]
  · exact bothK_mul op k a k' b s s' m ha hb y2
  by_cases y3 : op.toList = [47]
  · exact bothK_div op k a k' b s s' m ha hb y3
  by_cases y4 : op.toList = [61]
  · exact bothK_eq op k a k' b s s' m y4
  by_cases y5 : op.toList = [60]
  · exact bothK_lt op k a k' b s s' m y5
  by_cases y6 : op.toList = [126]
  · exact bothK_hold op k a k' b s s' m hs hs' y6
  by_cases y7 : op.toList = [97, 110, 100]
  · exact bothK_and op k a k' b s s' m y7
  by_cases y8 : op.toList = [111, 114]
  · exact bothK_or op k a k' b s s' m y8
  exact bothK_x op k a k' b s s' m (by simp [y0]) (by simp [y1]) (by simp [y2]) (by simp [y3]) (by simp [y4]) (by simp [y5]) (by simp [y6]) (by simp [y7]) (by simp [y8])
end Go.Proofs.Ytlakhcmbalcclaa
