/- Own texts, joined: contracts that the law's proof goes by. -/
import Derived.Test.YtbmoimfimeiglaaGreatGLFnLog14
import Derived.Test.YtbmoimfimeiglaaGreatGLFnLog15
namespace Go.Proofs.YtbmoimfimeiglaaGreat
open Go.RowKit
set_option linter.unusedVariables false
set_option linter.unusedSimpArgs false
theorem bl_irrefl : ∀ (x : List UInt8), Op.bytesLess x x = false
  | [] => rfl
  | a :: l => by
    have ih := bl_irrefl l
    simp [Op.bytesLess, ih]
theorem bl_trans : ∀ {x y z : List UInt8}, Op.bytesLess x y = true → Op.bytesLess y z = true → Op.bytesLess x z = true
  | [], [], _, h, _ => by simp [Op.bytesLess] at h
  | [], _ :: _, [], _, h => by simp [Op.bytesLess] at h
  | [], _ :: _, _ :: _, _, _ => by simp [Op.bytesLess]
  | _ :: _, [], _, h, _ => by simp [Op.bytesLess] at h
  | _ :: _, _ :: _, [], _, h => by simp [Op.bytesLess] at h
  | a :: l, b :: m, c :: n, h, k => by
    have ih := @bl_trans l m n
    simp only [Op.bytesLess, Bool.or_eq_true, Bool.and_eq_true, decide_eq_true_eq, beq_iff_eq] at h k ⊢
    rcases h with h | ⟨rfl, h⟩
    · rcases k with k | ⟨rfl, k⟩
      · exact Or.inl (UInt8.lt_trans h k)
      · exact Or.inl h
    · rcases k with k | ⟨rfl, k⟩
      · exact Or.inl k
      · exact Or.inr ⟨rfl, ih h k⟩
theorem cmpI_0 (x y : Int) : cmpI x y = 0 ↔ x = y := by unfold cmpI; split <;> (try split) <;> omega
theorem cmpI_n (x y : Int) : cmpI x y < 0 ↔ x < y := by unfold cmpI; split <;> (try split) <;> omega
theorem cmpS_0 (s t : ByteArray) : cmpS s t = 0 ↔ s.toList = t.toList := by
  unfold cmpS
  by_cases h : s.toList = t.toList
  · rw [h, bl_irrefl]; simp
  · simp [h]; split <;> simp
theorem cmpS_le (s t : ByteArray) : cmpS s t ≤ 0 ↔ (Op.bytesLess s.toList t.toList = true ∨ s.toList = t.toList) := by
  unfold cmpS
  by_cases h : Op.bytesLess s.toList t.toList = true
  · simp [h]
  · by_cases e : s.toList = t.toList
    · rw [e, bl_irrefl]; simp
    · simp [h, e]
theorem cmpV_0 (k n : Int) (s : ByteArray) (k' n' : Int) (s' : ByteArray) : (cmpV k n s k' n' s' == 0) = (k == k' && (n == n' && s.toList == s'.toList)) := by
  have a := cmpI_0 k k'
  have b := cmpI_0 n n'
  have c := cmpS_0 s s'
  have : (cmpV k n s k' n' s' = 0) ↔ (k = k' ∧ n = n' ∧ s.toList = s'.toList) := by
    unfold cmpV orI
    rw [← a, ← b, ← c]
    by_cases h : cmpI k k' = 0
    · by_cases g : cmpI n n' = 0
      · simp [h, g]
      · simp [h, g]
    · simp [h]
  rw [Bool.eq_iff_iff]
  simp [this]
theorem cmpV_le (k n : Int) (s : ByteArray) (k' n' : Int) (s' : ByteArray) : cmpV k n s k' n' s' ≤ 0 ↔ (k < k' ∨ (k = k' ∧ (n < n' ∨ (n = n' ∧ cmpS s s' ≤ 0)))) := by
  have a := cmpI_0 k k'
  have b := cmpI_0 n n'
  have a' := cmpI_n k k'
  have b' := cmpI_n n n'
  unfold cmpV orI
  by_cases h : cmpI k k' = 0
  · by_cases g : cmpI n n' = 0
    · simp only [h, g, if_true]; omega
    · simp only [h, g, if_true, if_false]; omega
  · simp only [h, if_false]; omega
theorem cmpV_trans {k n : Int} {s : ByteArray} {k' n' : Int} {s' : ByteArray} {k2 n2 : Int} {s2 : ByteArray} (h : cmpV k n s k' n' s' ≤ 0) (g : cmpV k' n' s' k2 n2 s2 ≤ 0) : cmpV k n s k2 n2 s2 ≤ 0 := by
  have st : cmpS s s' ≤ 0 → cmpS s' s2 ≤ 0 → cmpS s s2 ≤ 0 := by
    rw [cmpS_le, cmpS_le, cmpS_le]
    rintro (h | h) (g | g)
    · exact Or.inl (bl_trans h g)
    · exact Or.inl (g ▸ h)
    · exact Or.inl (h ▸ g)
    · exact Or.inr (h.trans g)
  rw [cmpV_le] at *
  rcases h with h | ⟨rfl, h⟩
  · rcases g with g | ⟨rfl, g⟩
    · exact Or.inl (by omega)
    · exact Or.inl h
  · rcases g with g | ⟨rfl, g⟩
    · exact Or.inl g
    · refine Or.inr ⟨rfl, ?_⟩
      rcases h with h | ⟨rfl, h⟩
      · rcases g with g | ⟨rfl, g⟩
        · exact Or.inl (by omega)
        · exact Or.inl h
      · rcases g with g | ⟨rfl, g⟩
        · exact Or.inl g
        · exact Or.inr ⟨rfl, st h g⟩
end Go.Proofs.YtbmoimfimeiglaaGreat
namespace Go.Proofs.YtbmoimfimeiglaaGreat
open Go.RowKit
set_option linter.unusedVariables false
theorem ba_ext {s t : ByteArray} (h : s.toList = t.toList) : s = t := by
  rw [ByteArray.toList_eq, ByteArray.toList_eq] at h
  cases s; cases t
  simp at h
  rw [h]
theorem cmpW_0 (x y : V3) : cmpW x y = 0 ↔ x = y := by
  have h := cmpV_0 x.k x.n x.s y.k y.n y.s
  rw [Bool.eq_iff_iff] at h
  simp only [beq_iff_eq, Bool.and_eq_true] at h
  unfold cmpW
  rw [h]
  constructor
  · rintro ⟨h1, h2, h3⟩
    obtain ⟨k, n, s⟩ := x
    obtain ⟨k', n', s'⟩ := y
    have := ba_ext h3
    simp at h1 h2 this
    rw [h1, h2, this]
  · rintro rfl; exact ⟨rfl, rfl, rfl⟩
theorem cmpW_flip (x y : V3) : cmpW y x = - cmpW x y := cmpV_flip _ _ _ _ _ _
theorem cmpW_trans {x y z : V3} (h : cmpW x y ≤ 0) (g : cmpW y z ≤ 0) : cmpW x z ≤ 0 := cmpV_trans h g
theorem cmpRow_flip : ∀ (a b : List V3), cmpRow b a = - cmpRow a b
  | [], [] => rfl
  | [], _ :: _ => rfl
  | _ :: _, [] => rfl
  | x :: xs, y :: ys => by
    have h := cmpW_flip x y
    simp only [cmpRow]
    rw [h, cmpRow_flip xs ys]
    by_cases h0 : cmpW x y = 0
    · rw [if_pos (by omega), if_pos h0]
    · rw [if_neg (by omega), if_neg h0]
theorem cmpRow_0 : ∀ (a b : List V3), cmpRow a b = 0 ↔ a = b
  | [], [] => by simp [cmpRow]
  | [], _ :: _ => by simp [cmpRow]
  | _ :: _, [] => by simp [cmpRow]
  | x :: xs, y :: ys => by
    simp only [cmpRow]
    by_cases h0 : cmpW x y = 0
    · rw [if_pos h0, cmpRow_0 xs ys, (cmpW_0 x y).1 h0]
      simp
    · rw [if_neg h0]
      constructor
      · intro h; exact absurd h h0
      · intro h
        injection h with h1 _
        exact absurd ((cmpW_0 x y).2 h1) h0
theorem cmpRow_trans : ∀ {a b c : List V3}, cmpRow a b < 0 → cmpRow b c < 0 → cmpRow a c < 0
  | [], [], _, h, _ => by simp [cmpRow] at h
  | [], _ :: _, [], _, h => by simp [cmpRow] at h
  | [], _ :: _, _ :: _, _, _ => by simp [cmpRow]
  | _ :: _, [], _, h, _ => by simp [cmpRow] at h
  | _ :: _, _ :: _, [], _, h => by simp [cmpRow] at h
  | x :: xs, y :: ys, z :: zs, h, k => by
    have ih := @cmpRow_trans xs ys zs
    simp only [cmpRow] at h k ⊢
    by_cases h0 : cmpW x y = 0
    · rw [if_pos h0] at h
      obtain rfl := (cmpW_0 x y).1 h0
      by_cases k0 : cmpW x z = 0
      · rw [if_pos k0] at k ⊢
        exact ih h k
      · rw [if_neg k0] at k ⊢
        exact k
    · rw [if_neg h0] at h
      by_cases k0 : cmpW y z = 0
      · obtain rfl := (cmpW_0 y z).1 k0
        rw [if_neg h0]
        exact h
      · rw [if_neg k0] at k
        have h1 := cmpW_trans (x := x) (y := y) (z := z) (by omega) (by omega)
        have h2 : cmpW x z ≠ 0 := by
          intro e
          obtain rfl := (cmpW_0 x z).1 e
          have := cmpW_flip x y
          omega
        rw [if_neg h2]
        omega
theorem cmpRow_irr (a : List V3) : cmpRow a a = 0 := (cmpRow_0 a a).2 rfl
def Asc (cs : List C2) : Prop := cs.Pairwise fun x y => cmpRow x.r y.r < 0
def ahead (cs : List C2) (row : List V3) : Nat := (cs.takeWhile fun c => decide (cmpRow c.r row < 0)).length
theorem ahead_le (cs : List C2) (row : List V3) : ahead cs row ≤ cs.length := by
  unfold ahead
  induction cs with
  | nil => simp
  | cons c cs ih =>
    rw [List.takeWhile_cons]
    split
    · simp only [List.length_cons]; omega
    · simp
theorem ahead_lt : ∀ {cs : List C2} {row : List V3} {i : Nat} {c : C2}, Asc cs → cs[i]? = some c → (i < ahead cs row ↔ cmpRow c.r row < 0)
  | [], _, i, c, _, h => by simp at h
  | x :: cs, row, i, c, ha, h => by
    have ha' := List.pairwise_cons.1 ha
    unfold ahead
    rw [List.takeWhile_cons]
    by_cases hx : cmpRow x.r row < 0
    · rw [if_pos (by simpa using hx), List.length_cons]
      cases i with
      | zero => simp at h; subst h; simp [hx]
      | succ i =>
        have := ahead_lt (row := row) ha'.2 (i := i) (c := c) (by simpa using h)
        unfold ahead at this
        rw [← this]
        omega
    · rw [if_neg (by simpa using hx)]
      cases i with
      | zero => simp at h; subst h; simp; omega
      | succ i =>
        have hc : cmpRow x.r c.r < 0 := ha'.1 c (List.mem_of_getElem? (by simpa using h))
        have : ¬ cmpRow c.r row < 0 := fun hcr => hx (cmpRow_trans hc hcr)
        simp [this]
def putC (cs : List C2) (row : List V3) (n : Int) : List C2 :=
  match cs[ahead cs row]? with
  | some c => if cmpRow c.r row = 0 then (if n + c.n ≠ 0 then cs.set (ahead cs row) ⟨c.r, n + c.n⟩ else cs.take (ahead cs row) ++ cs.drop (ahead cs row + 1)) else if n ≠ 0 then cs.take (ahead cs row) ++ ⟨row, n⟩ :: cs.drop (ahead cs row) else cs
  | none => if n ≠ 0 then cs.take (ahead cs row) ++ ⟨row, n⟩ :: cs.drop (ahead cs row) else cs
def cntC (cs : List C2) (row : List V3) : Int := match cs.find? (fun c => decide (cmpRow c.r row = 0)) with | some c => c.n | none => 0
theorem cntC_cons (c : C2) (cs : List C2) (row : List V3) : cntC (c :: cs) row = if cmpRow c.r row = 0 then c.n else cntC cs row := by
  unfold cntC
  rw [List.find?_cons]
  by_cases h : cmpRow c.r row = 0
  · rw [if_pos h]; simp [h]
  · rw [if_neg h]
    simp [h]
theorem cntC_one (c : C2) (cs : List C2) : cntC (c :: cs) c.r = c.n := by rw [cntC_cons, if_pos (cmpRow_irr _)]
theorem cntC_far {c : C2} {row : List V3} (cs : List C2) (h : c.r ≠ row) : cntC (c :: cs) row = cntC cs row := by rw [cntC_cons, if_neg (fun e => h ((cmpRow_0 _ _).1 e))]
theorem cntC_none {cs : List C2} {row : List V3} (h : ∀ c ∈ cs, c.r ≠ row) : cntC cs row = 0 := by
  induction cs with
  | nil => rfl
  | cons c cs ih => rw [cntC_far _ (h c List.mem_cons_self)]; exact ih fun x hx => h x (List.mem_cons_of_mem _ hx)
theorem cntC_app {a b : List C2} {row : List V3} (h : ∀ c ∈ a, c.r ≠ row) : cntC (a ++ b) row = cntC b row := by
  induction a with
  | nil => rfl
  | cons c cs ih => rw [List.cons_append, cntC_far _ (h c List.mem_cons_self)]; exact ih fun x hx => h x (List.mem_cons_of_mem _ hx)
theorem Asc.ne {c : C2} {cs : List C2} (h : Asc (c :: cs)) : ∀ x ∈ cs, x.r ≠ c.r := fun x hx e => by
  have := (List.pairwise_cons.1 h).1 x hx
  rw [e, cmpRow_irr] at this
  omega
theorem ahead_parts {cs : List C2} (row : List V3) (h : Asc cs) : (∀ c ∈ cs.take (ahead cs row), cmpRow c.r row < 0) ∧ (∀ c ∈ cs.drop (ahead cs row), ¬ cmpRow c.r row < 0) := by
  constructor
  · intro c hc
    obtain ⟨i, hi, rfl⟩ := List.mem_iff_getElem.1 hc
    have hi' : i < ahead cs row ∧ i < cs.length := by simp at hi; omega
    have := (ahead_lt (row := row) h (i := i) (c := cs[i]) (by simp)).1 hi'.1
    simpa using this
  · intro c hc
    obtain ⟨i, hi, rfl⟩ := List.mem_iff_getElem.1 hc
    have hi' : ahead cs row + i < cs.length := by simp at hi; omega
    intro hl
    have := (ahead_lt (row := row) h (i := ahead cs row + i) (c := cs[ahead cs row + i]) (by simp)).2 (by simpa using hl)
    omega
theorem asc_mid {a b : List C2} {x : C2} (ha : Asc (a ++ b)) (h1 : ∀ c ∈ a, cmpRow c.r x.r < 0) (h2 : ∀ c ∈ b, cmpRow x.r c.r < 0) : Asc (a ++ x :: b) := by
  unfold Asc at *
  rw [List.pairwise_append] at ha ⊢
  refine ⟨ha.1, List.pairwise_cons.2 ⟨h2, ha.2.1⟩, fun y hy z hz => ?_⟩
  rcases List.mem_cons.1 hz with rfl | hz
  · exact h1 y hy
  · exact ha.2.2 y hy z hz
theorem lt_ne {a b : List V3} (h : cmpRow a b < 0) : a ≠ b := by rintro rfl; rw [cmpRow_irr] at h; omega
theorem gt_of {a b : List V3} (h : ¬ cmpRow a b < 0) (hne : a ≠ b) : cmpRow b a < 0 := by
  have := cmpRow_flip a b
  have h0 : cmpRow a b ≠ 0 := fun e => hne ((cmpRow_0 a b).1 e)
  omega
theorem put_all {cs : List C2} (row : List V3) (n : Int) (h : Asc cs) (hz : ∀ c ∈ cs, c.n ≠ 0) :
    Asc (putC cs row n) ∧ (∀ c ∈ putC cs row n, c.n ≠ 0) ∧ ∀ q, cntC (putC cs row n) q = cntC cs q + (if cmpRow row q = 0 then n else 0) := by
  obtain ⟨hp1, hp2⟩ := ahead_parts row h
  have hsp : cs = cs.take (ahead cs row) ++ cs.drop (ahead cs row) := (List.take_append_drop _ _).symm
  -- a row that is not there is laid between
  have ins : (∀ c ∈ cs.drop (ahead cs row), c.r ≠ row) → (if n ≠ 0 then cs.take (ahead cs row) ++ (⟨row, n⟩ : C2) :: cs.drop (ahead cs row) else cs) = putC cs row n →
      Asc (putC cs row n) ∧ (∀ c ∈ putC cs row n, c.n ≠ 0) ∧ ∀ q, cntC (putC cs row n) q = cntC cs q + (if cmpRow row q = 0 then n else 0) := by
    intro hne e
    rw [← e]
    by_cases hn : n ≠ 0
    · rw [if_pos hn]
      refine ⟨asc_mid (by rw [← hsp]; exact h) hp1 (fun c hc => gt_of (hp2 c hc) (hne c hc)), fun c hc => ?_, fun q => ?_⟩
      · rcases List.mem_append.1 hc with hc | hc
        · exact hz c (List.mem_of_mem_take hc)
        · rcases List.mem_cons.1 hc with rfl | hc
          · exact hn
          · exact hz c (List.mem_of_mem_drop hc)
      · by_cases hq : cmpRow row q = 0
        · obtain rfl := (cmpRow_0 row q).1 hq
          rw [if_pos hq, cntC_app (fun c hc => lt_ne (hp1 c hc)), cntC_one]
          have : cntC cs row = 0 := by rw [hsp, cntC_app (fun c hc => lt_ne (hp1 c hc))]; exact cntC_none hne
          rw [this]
          show n = 0 + n
          omega
        · rw [if_neg hq]
          have hqr : row ≠ q := fun e => hq ((cmpRow_0 _ _).2 e)
          have key : ∀ (a : List C2) (b : List C2), cntC (a ++ (⟨row, n⟩ : C2) :: b) q = cntC (a ++ b) q := by
            intro a b
            induction a with
            | nil => exact cntC_far _ hqr
            | cons c a ih => rw [List.cons_append, List.cons_append, cntC_cons, cntC_cons, ih]
          rw [key, ← hsp]
          omega
    · have hn0 : n = 0 := by omega
      rw [if_neg hn]
      refine ⟨h, hz, fun q => ?_⟩
      rw [hn0]
      split <;> omega
  unfold putC at ins ⊢
  cases hc : cs[ahead cs row]? with
  | none =>
    rw [hc] at ins
    have hl : cs.drop (ahead cs row) = [] := List.drop_eq_nil_of_le (List.getElem?_eq_none_iff.1 hc)
    exact ins (fun c hc' => by rw [hl] at hc'; cases hc') rfl
  | some c =>
    rw [hc] at ins
    have hi : ahead cs row < cs.length := (List.getElem?_eq_some_iff.1 hc).1
    have hcc : cs[ahead cs row] = c := (List.getElem?_eq_some_iff.1 hc).2
    have hdr : cs.drop (ahead cs row) = c :: cs.drop (ahead cs row + 1) := by rw [List.drop_eq_getElem_cons hi, hcc]
    dsimp only
    by_cases hr : cmpRow c.r row = 0
    · rw [if_pos hr]
      obtain rfl := (cmpRow_0 c.r row).1 hr
      have hA : Asc (cs.take (ahead cs c.r) ++ c :: cs.drop (ahead cs c.r + 1)) := by rw [← hdr, ← hsp]; exact h
      have hlow : ∀ x ∈ cs.take (ahead cs c.r), x.r ≠ c.r := fun x hx => lt_ne (hp1 x hx)
      have hA2 := List.pairwise_append.1 hA
      have hhi : ∀ x ∈ cs.drop (ahead cs c.r + 1), x.r ≠ c.r := Asc.ne hA2.2.1
      have hcnt : cntC cs c.r = c.n := by rw [hsp, cntC_app hlow, hdr, cntC_one]
      have far : ∀ (x : C2) (q : List V3), x.r = c.r → c.r ≠ q → ∀ a b : List C2, cntC (a ++ x :: b) q = cntC (a ++ b) q := by
        intro x q hx hq a b
        induction a with
        | nil => exact cntC_far _ (by rw [hx]; exact hq)
        | cons y a ih => rw [List.cons_append, List.cons_append, cntC_cons, cntC_cons, ih]
      have hbase : ∀ q, c.r ≠ q → cntC cs q = cntC (cs.take (ahead cs c.r) ++ cs.drop (ahead cs c.r + 1)) q := by
        intro q hq
        conv => lhs; rw [hsp, hdr]
        exact far c q rfl hq _ _
      by_cases hm : n + c.n ≠ 0
      · rw [if_pos hm]
        have hset : cs.set (ahead cs c.r) (⟨c.r, n + c.n⟩ : C2) = cs.take (ahead cs c.r) ++ (⟨c.r, n + c.n⟩ : C2) :: cs.drop (ahead cs c.r + 1) := List.set_eq_take_append_cons_drop.trans (by rw [if_pos hi])
        rw [hset]
        refine ⟨asc_mid (List.pairwise_append.2 ⟨hA2.1, (List.pairwise_cons.1 hA2.2.1).2, fun y hy z hz' => hA2.2.2 y hy z (List.mem_cons_of_mem _ hz')⟩) hp1 (List.pairwise_cons.1 hA2.2.1).1, fun x hx => ?_, fun q => ?_⟩
        · rcases List.mem_append.1 hx with hx | hx
          · exact hz x (List.mem_of_mem_take hx)
          · rcases List.mem_cons.1 hx with rfl | hx
            · exact hm
            · exact hz x (List.mem_of_mem_drop hx)
        · by_cases hq : cmpRow c.r q = 0
          · obtain rfl := (cmpRow_0 c.r q).1 hq
            rw [if_pos hq, cntC_app hlow, hcnt]
            have := cntC_one (⟨c.r, n + c.n⟩ : C2) (cs.drop (ahead cs c.r + 1))
            dsimp only at this
            rw [this]
            omega
          · have hqr : c.r ≠ q := fun e => hq ((cmpRow_0 _ _).2 e)
            rw [if_neg hq, hbase q hqr, far (⟨c.r, n + c.n⟩ : C2) q rfl hqr]
            omega
      · rw [if_neg hm]
        refine ⟨List.pairwise_append.2 ⟨hA2.1, (List.pairwise_cons.1 hA2.2.1).2, fun y hy z hz' => hA2.2.2 y hy z (List.mem_cons_of_mem _ hz')⟩, fun x hx => ?_, fun q => ?_⟩
        · rcases List.mem_append.1 hx with hx | hx
          · exact hz x (List.mem_of_mem_take hx)
          · exact hz x (List.mem_of_mem_drop hx)
        · by_cases hq : cmpRow c.r q = 0
          · obtain rfl := (cmpRow_0 c.r q).1 hq
            rw [if_pos hq, cntC_app hlow, hcnt, cntC_none hhi]
            omega
          · have hqr : c.r ≠ q := fun e => hq ((cmpRow_0 _ _).2 e)
            rw [if_neg hq, hbase q hqr]
            omega
    · dsimp only at ins
      rw [if_neg hr]
      rw [if_neg hr] at ins
      refine ins (fun x hx => ?_) rfl
      rw [hdr] at hx
      rcases List.mem_cons.1 hx with rfl | hx
      · exact fun e => hr ((cmpRow_0 _ _).2 e)
      · have h1 : cmpRow row c.r < 0 := gt_of (hp2 c (by rw [hdr]; exact List.mem_cons_self)) (fun e => hr ((cmpRow_0 _ _).2 e))
        have hA2 := List.pairwise_append.1 (show Asc (cs.take (ahead cs row) ++ c :: cs.drop (ahead cs row + 1)) by rw [← hdr, ← hsp]; exact h)
        have h2 := (List.pairwise_cons.1 hA2.2.1).1 x hx
        exact fun e => lt_ne (cmpRow_trans h1 h2) e.symm
end Go.Proofs.YtbmoimfimeiglaaGreat
