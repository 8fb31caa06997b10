/- Own text. A bag of rows (bofC): the contract of both BagOf, without memory. -/
import Derived.Test.YtdkbhoichmcodaaTalZ
namespace Go.Proofs.Ytdkbhoichmcodaa
open Go.RowKit
set_option linter.unusedVariables false
def onesC (rs : List (List V3)) : List C2 := rs.map fun r => ⟨r, 1⟩
/-- what both BagOf answer. -/
def bofC (W : Int) (rs : List (List V3)) : List C2 := if okBag W (sumC [] (onesC rs) 1) = true then sumC [] (onesC rs) 1 else []
theorem ones_sum : ∀ (rs : List (List V3)) (q : List V3), 0 ≤ ((onesC rs).map fun x => if cmpRow x.r q = 0 then 1 * x.n else 0).sum ∧ (q ∈ rs → 0 < ((onesC rs).map fun x => if cmpRow x.r q = 0 then 1 * x.n else 0).sum)
  | [], q => by simp [onesC]
  | r :: rs, q => by
    obtain ⟨h1, h2⟩ := ones_sum rs q
    have e : ((onesC (r :: rs)).map fun x => if cmpRow x.r q = 0 then 1 * x.n else 0).sum = (if cmpRow r q = 0 then 1 else 0) + ((onesC rs).map fun x => if cmpRow x.r q = 0 then 1 * x.n else 0).sum := by simp [onesC]
    rw [e]
    generalize ((onesC rs).map fun x => if cmpRow x.r q = 0 then 1 * x.n else 0).sum = S at *
    refine ⟨by split <;> omega, fun hq => ?_⟩
    rcases List.mem_cons.1 hq with rfl | hq
    · rw [if_pos ((cmpRow_0 q q).2 rfl)]; omega
    · have := h2 hq; split <;> omega
theorem ones_in {rs : List (List V3)} {r : List V3} (h : r ∈ rs) : ∃ c ∈ sumC [] (onesC rs) 1, c.r = r := by
  obtain ⟨_, _, s3⟩ := sumC_all (n := 1) (ds := onesC rs) (cs := []) List.Pairwise.nil (fun c hc => by cases hc)
  have hp := (ones_sum rs r).2 h
  refine Classical.byContradiction fun hn => ?_
  have h0 : cntC (sumC [] (onesC rs) 1) r = 0 := cntC_none fun c hc e => hn ⟨c, hc, e⟩
  have e0 : cntC ([] : List C2) r = 0 := cntC_none fun c hc => by cases hc
  rw [s3, e0] at h0
  omega
/-- a row that is none: no bag. -/
theorem bofC_bad {W : Int} {rs : List (List V3)} {r : List V3} (h : r ∈ rs) (hb : okRow r W = false) : bofC W rs = [] := by
  unfold bofC
  rw [if_neg]
  intro hk
  obtain ⟨c, hc, rfl⟩ := ones_in h
  simp only [okBag, Bool.and_eq_true] at hk
  have := ((okCs_all hk.2).2.2 c hc).1
  rw [hb] at this
  cases this
/-- the tally's rows in order are the sum. -/
theorem ordered_ones {W : Int} {rs : List (List V3)} {xs : List C2} (hg : ∀ r ∈ rs, GoodRow W r) (h : OrderedOf W (onesC rs) xs) : xs = sumC [] (onesC rs) 1 := by
  obtain ⟨s1, s2, s3⟩ := sumC_all (n := 1) (ds := onesC rs) (cs := []) List.Pairwise.nil (fun c hc => by cases hc)
  have e0 : ∀ r, cntC ([] : List C2) r = 0 := fun r => cntC_none fun c hc => by cases hc
  refine asc_ext h.asc s1 (fun c hc => (h.good c hc).1) s2 fun r => ?_
  rw [s3, totC_sum, e0]
  by_cases hr : GoodRow W r
  · rw [← totC_asc r h.asc, h.tot r hr]; omega
  · rw [cntC_out (fun c hc => (h.good c hc).2) hr, totC_none (r := r) fun c hc e => hr ?_]
    · rfl
    · obtain ⟨q, hq, rfl⟩ := List.mem_map.1 hc
      exact e ▸ hg q hq
end Go.Proofs.Ytdkbhoichmcodaa
