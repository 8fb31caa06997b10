/- Own text. What the program's Reckon answers at each sign of the law, and what follows. -/
import Derived.Test.YtlakhcmbalcclaaRJ
import Derived.Test.YtlakhcmbalcclaaRkQ
import Derived.Test.YtlakhcmbalcclaaRkT
import Derived.Test.YtlakhcmbalcclaaNotN
import Derived.Handy
namespace Go.Proofs.Ytlakhcmbalcclaa
open Go.RowKit
set_option linter.unusedVariables false
set_option linter.unusedSimpArgs false
/-- the program's Reckon answers the value of kind K and number N, in every memory. -/
def RIs (op : ByteArray) (k n : Int) (s : ByteArray) (k' n' : Int) (s' : ByteArray) (K N : Int) : Prop :=
  ∀ w : World, Calls Try.prog 6 #[.string op, (.agg #[.int .i64 k, .int .i64 n, .string s]), (.agg #[.int .i64 k', .int .i64 n', .string s'])] w fun e w' => e = .returned (.agg #[.int .i64 K, .int .i64 N, .string ⟨#[]⟩]) ∧ Below w.heap.size w w'
theorem l_and : (⟨#[97, 110, 100]⟩ : ByteArray).toList = [97, 110, 100] := by kernel_rfl
theorem l_or : (⟨#[111, 114]⟩ : ByteArray).toList = [111, 114] := by kernel_rfl
theorem l_lt : (⟨#[60]⟩ : ByteArray).toList = [60] := by kernel_rfl
theorem l_eq : (⟨#[61]⟩ : ByteArray).toList = [61] := by kernel_rfl
theorem l_div : (⟨#[47]⟩ : ByteArray).toList = [47] := by kernel_rfl
theorem l_mul : (⟨#[42]⟩ : ByteArray).toList = [42] := by kernel_rfl
theorem l_sub : (⟨#[45]⟩ : ByteArray).toList = [45] := by kernel_rfl
theorem ri_and (k n : Int) (s : ByteArray) (k' n' : Int) (s' : ByteArray) : RIs ⟨#[97, 110, 100]⟩ k n s k' n' s' (chK (is2 k n s 0) (is2 k' n' s' 0) (is2 k n s 1) (is2 k' n' s' 1)) (chN 0 (is2 k n s 0) (is2 k' n' s' 0) (is2 k n s 1) (is2 k' n' s' 1)) :=
  fun w => rI_and _ k k' n n' s s' _ _ _ _ rfl rfl rfl rfl w l_and
theorem ri_or (k n : Int) (s : ByteArray) (k' n' : Int) (s' : ByteArray) : RIs ⟨#[111, 114]⟩ k n s k' n' s' (chK (is2 k n s 1) (is2 k' n' s' 1) (is2 k n s 0) (is2 k' n' s' 0)) (chN 1 (is2 k n s 1) (is2 k' n' s' 1) (is2 k n s 0) (is2 k' n' s' 0)) :=
  fun w => rI_or _ k k' n n' s s' _ _ _ _ rfl rfl rfl rfl w l_or
theorem l_nil : (⟨#[]⟩ : ByteArray).toList = [] := by kernel_rfl
theorem is2_ok {k n : Int} {s : ByteArray} (h : okB k n s = true) (c : Int) : is2 k n s c = (k == 2 && n == c) := by
  by_cases hk : k = 2
  · subst hk
    rw [okB_2] at h
    simp at h
    simp [is2, l_nil, h.2]
  · have e : (k == 2) = false := by simp [hk]
    simp [is2, e]
theorem ok_bool {n : Int} {s : ByteArray} (h : okB 2 n s = true) : n = 0 ∨ n = 1 := by
  rw [okB_2] at h
  simp at h
  exact h.1
theorem t_and (p0 q0 p1 q1 : Bool) (hp : (p0 && p1) = false) (hq : (q0 && q1) = false) : isT (chK p0 q0 p1 q1) (chN 0 p0 q0 p1 q1) = (p1 && q1) := by
  cases p0 <;> cases q0 <;> cases p1 <;> cases q1 <;> simp_all [isT, chK, chN]
theorem t_or (p0 q0 p1 q1 : Bool) : isT (chK p0 q0 p1 q1) (chN 1 p0 q0 p1 q1) = (p0 || q0) := by
  cases p0 <;> cases q0 <;> cases p1 <;> cases q1 <;> simp_all [isT, chK, chN]
theorem not01 (k n : Int) : ((k == 2 && n == 0) && (k == 2 && n == 1)) = false := by
  by_cases h : n = 0
  · subst h; simp
  · simp [h]
/-- and: both ways round; what is true of it; its not. -/
theorem and_both (k n : Int) (s : ByteArray) (k' n' : Int) (s' : ByteArray) : ∃ K N, RIs ⟨#[97, 110, 100]⟩ k n s k' n' s' K N ∧ RIs ⟨#[97, 110, 100]⟩ k' n' s' k n s K N ∧ (okB k n s = true → okB k' n' s' = true → isT K N = (isT k n && isT k' n')) ∧
    (okB k n s = true → okB k' n' s' = true → k = 2 → k' = 2 → RIs ⟨#[111, 114]⟩ (notK k n) (notN k n) ⟨#[]⟩ (notK k' n') (notN k' n') ⟨#[]⟩ (notK K N) (notN K N)) := by
  refine ⟨_, _, ri_and k n s k' n' s', by have h := ri_and k' n' s' k n s; rw [chK_flip, chN_flip] at h; exact h, fun h h' => ?_, ?_⟩
  · rw [is2_ok h, is2_ok h', is2_ok h, is2_ok h']
    exact t_and _ _ _ _ (not01 _ _) (not01 _ _)
  · rintro h h' rfl rfl
    rw [is2_ok h, is2_ok h', is2_ok h, is2_ok h']
    have e := ri_or (notK 2 n) (notN 2 n) ⟨#[]⟩ (notK 2 n') (notN 2 n') ⟨#[]⟩
    rcases ok_bool h with rfl | rfl <;> rcases ok_bool h' with rfl | rfl <;> (simp [is2, notK, notN, chK, chN, l_nil] at e ⊢; exact e)
/-- or: both ways round; what is true of it. -/
theorem or_both (k n : Int) (s : ByteArray) (k' n' : Int) (s' : ByteArray) : ∃ K N, RIs ⟨#[111, 114]⟩ k n s k' n' s' K N ∧ RIs ⟨#[111, 114]⟩ k' n' s' k n s K N ∧ (okB k n s = true → okB k' n' s' = true → isT K N = (isT k n || isT k' n')) := by
  refine ⟨_, _, ri_or k n s k' n' s', by have h := ri_or k' n' s' k n s; rw [chK_flip, chN_flip] at h; exact h, fun h h' => ?_⟩
  rw [is2_ok h, is2_ok h', is2_ok h, is2_ok h']
  exact t_or _ _ _ _
theorem mulO_in {q b p : Int} (h : mulO q b = some p) : -9223372036854775808 ≤ p ∧ p ≤ 9223372036854775807 := by
  unfold mulO subO at h
  repeat' split at h
  all_goals first | (cases h; done) | (simp only [Option.some.injEq] at h; subst h; unfold wrap64; omega) | (simp only [Option.some.injEq] at h; omega)
/-- a quotient, its product, what is left. -/
theorem quot (k n : Int) (s : ByteArray) (k' n' : Int) (s' : ByteArray) (hn : -9223372036854775808 ≤ n ∧ n ≤ 9223372036854775807) (hn' : -9223372036854775808 ≤ n' ∧ n' ≤ 9223372036854775807) :
    ∃ Kq Nq, RIs ⟨#[47]⟩ k n s k' n' s' Kq Nq ∧ (Kq = 1 → ∃ Kp Np Kr Nr, RIs ⟨#[42]⟩ Kq Nq ⟨#[]⟩ k' n' s' Kp Np ∧ RIs ⟨#[45]⟩ k n s Kp Np ⟨#[]⟩ Kr Nr ∧ (Kp = 1 → Kr = 1 → ((0 < n' ∧ 0 ≤ Nr ∧ Nr < n') ∨ (n' < 0 ∧ Nr ≤ 0 ∧ n' < Nr)))) := by
  by_cases h : k = 1 ∧ k' = 1
  · obtain ⟨rfl, rfl⟩ := h
    refine ⟨_, _, fun w => rI_div _ n n' s s' w l_div, ?_⟩
    cases hd : divO n n' with
    | none => intro h; simp [kO] at h
    | some q =>
      intro _
      show ∃ Kp Np Kr Nr, RIs ⟨#[42]⟩ 1 q ⟨#[]⟩ 1 n' s' Kp Np ∧ RIs ⟨#[45]⟩ 1 n s Kp Np ⟨#[]⟩ Kr Nr ∧ _
      cases hm : mulO q n' with
      | none =>
        have e : RIs ⟨#[42]⟩ 1 q ⟨#[]⟩ 1 n' s' 0 0 := fun w => by have := rI_mul ⟨#[42]⟩ q n' ⟨#[]⟩ s' w l_mul; rw [hm] at this; exact this
        exact ⟨0, 0, 0, 0, e, fun w => rI_sub_no _ 1 0 n 0 s ⟨#[]⟩ w l_sub (by omega), by omega⟩
      | some p =>
        have e : RIs ⟨#[42]⟩ 1 q ⟨#[]⟩ 1 n' s' 1 p := fun w => by have := rI_mul ⟨#[42]⟩ q n' ⟨#[]⟩ s' w l_mul; rw [hm] at this; exact this
        refine ⟨1, p, _, _, e, fun w => rI_sub _ n p s ⟨#[]⟩ w l_sub, fun _ => ?_⟩
        cases hs : subO n p with
        | none => intro h; simp [kO] at h
        | some r => exact fun _ => quotient_left hn hn' hd hm (mulO_in hm) hs
  · exact ⟨0, 0, fun w => rI_div_no _ k k' n n' s s' w l_div h, by omega⟩
/-- less, the same, greater. -/
theorem three (k n : Int) (s : ByteArray) (k' n' : Int) (s' : ByteArray) : ∃ K N K2 N2 K3 N3, RIs ⟨#[60]⟩ k n s k' n' s' K N ∧ RIs ⟨#[61]⟩ k n s k' n' s' K2 N2 ∧ RIs ⟨#[60]⟩ k' n' s' k n s K3 N3 ∧ (K = 2 → N + N2 + N3 = 1) ∧ (0 ≤ N ∧ N ≤ 1) ∧ (0 ≤ N2 ∧ N2 ≤ 1) ∧ (0 ≤ N3 ∧ N3 ≤ 1) := by
  by_cases hk : k = k' ∧ ¬ k = 0
  · obtain ⟨rfl, h0⟩ := hk
    have hb : ∀ b : Bool, 0 ≤ bn b ∧ bn b ≤ 1 := by intro b; cases b <;> decide
    exact ⟨_, _, _, _, _, _, fun w => rI_lt _ k n n' s s' w l_lt (by simp [h0]), fun w => rI_eq _ k n n' s s' w l_eq (by simp [h0]), fun w => rI_lt _ k n' n s' s w l_lt (by simp [h0]), fun _ => one_of_three k n s k n' s', hb _, hb _, hb _⟩
  · have hk' : ¬ (k' = k ∧ ¬ k' = 0) := fun h => hk ⟨h.1.symm, by rw [← h.1]; exact h.2⟩
    exact ⟨0, 0, 0, 0, 0, 0, fun w => rI_lt_no _ k k' n n' s s' w l_lt hk, fun w => rI_eq_no _ k k' n n' s s' w l_eq hk, fun w => rI_lt_no _ k' k n' n s' s w l_lt hk', by omega, by omega, by omega, by omega⟩
end Go.Proofs.Ytlakhcmbalcclaa
