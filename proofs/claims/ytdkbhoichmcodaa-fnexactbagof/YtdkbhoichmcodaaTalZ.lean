/- Own text. Two bags together, in plain words: the tally of both, in order, is their sum. -/
import Derived.Test.YtdkbhoichmcodaaTalC
import Derived.Test.YtdkbhoichmcodaaSumP
import Derived.Test.YtdkbhoichmcodaaBagOkI
import Derived.Handy
namespace Go.Proofs.Ytdkbhoichmcodaa
open Go.RowKit
set_option linter.unusedVariables false
theorem okCs_all : ∀ {W : Int} {p : Option C2} {cs : List C2}, okCs W p cs = true → Asc cs ∧ (∀ y, p = some y → ∀ c ∈ cs, cmpRow y.r c.r < 0) ∧ ∀ c ∈ cs, okRow c.r W = true ∧ okN c.n = true
  | W, p, [], _ => ⟨List.Pairwise.nil, fun _ _ _ h => (by cases h), fun _ h => (by cases h)⟩
  | W, p, x :: xs, h => by
    simp only [okCs, Bool.and_eq_true] at h
    obtain ⟨⟨⟨h1, h2⟩, h3⟩, h4⟩ := h
    obtain ⟨a1, a2, a3⟩ := okCs_all h4
    refine ⟨List.pairwise_cons.2 ⟨a2 x rfl, a1⟩, fun y hy c hc => ?_, fun c hc => ?_⟩
    · subst hy
      have h5 : cmpRow y.r x.r < 0 := by simpa [okPrev] using h3
      rcases List.mem_cons.1 hc with rfl | hc
      · exact h5
      · exact cmpRow_trans h5 (a2 x rfl c hc)
    · rcases List.mem_cons.1 hc with rfl | hc
      · exact ⟨h1, h2⟩
      · exact a3 c hc
theorem okBag_all {W : Int} {cs : List C2} (h : okBag W cs = true) (hw : CsWf cs) : 0 ≤ W ∧ W ≤ 12 ∧ cs.length ≤ 400 ∧ Asc cs ∧ ∀ c ∈ cs, GoodRow W c.r ∧ c.n ≠ 0 ∧ -1000000000 ≤ c.n ∧ c.n ≤ 1000000000 := by
  simp only [okBag, Bool.and_eq_true, decide_eq_true_eq] at h
  obtain ⟨⟨⟨h1, h2⟩, h3⟩, h4⟩ := h
  obtain ⟨a1, _, a3⟩ := okCs_all h4
  refine ⟨h1, h2, h3, a1, fun c hc => ?_⟩
  obtain ⟨b1, b2⟩ := a3 c hc
  simp only [okN, Bool.and_eq_true, decide_eq_true_eq] at b2
  exact ⟨⟨b1, (hw c hc).1⟩, b2.1.1, b2.1.2, b2.2⟩
theorem cntC_out {W : Int} {cs : List C2} {r : List V3} (h : ∀ c ∈ cs, GoodRow W c.r) (hr : ¬ GoodRow W r) : cntC cs r = 0 := cntC_none fun c hc e => hr (e ▸ h c hc)
theorem totC_sum (ds : List C2) (q : List V3) : (ds.map fun x => if cmpRow x.r q = 0 then 1 * x.n else 0).sum = totC ds q := by
  induction ds with
  | nil => rfl
  | cons x xs ih => rw [List.map_cons, List.sum_cons, ih, totC, Int.one_mul]
/-- the tally of two bags, in order, is their sum. -/
theorem ordered_sum {W : Int} {cs ds xs : List C2} (hc : okBag W cs = true) (hd : okBag W ds = true) (wc : CsWf cs) (wd : CsWf ds) (h : OrderedOf W (cs ++ ds) xs) : xs = sumC cs ds 1 := by
  obtain ⟨_, _, _, ac, gc⟩ := okBag_all hc wc
  obtain ⟨_, _, _, ad, gd⟩ := okBag_all hd wd
  obtain ⟨s1, s2, s3⟩ := sumC_all (n := 1) (ds := ds) ac (fun c hc => (gc c hc).2.1)
  refine asc_ext h.asc s1 (fun c hc => (h.good c hc).1) s2 fun r => ?_
  rw [s3, totC_sum]
  by_cases hr : GoodRow W r
  · rw [← totC_asc r h.asc, h.tot r hr, totC_app, totC_asc r ac]
  · rw [cntC_out (fun c hc => (h.good c hc).2) hr, cntC_out (fun c hc => (gc c hc).1) hr, totC_none (r := r) fun c hc e => hr (e ▸ (gd c hc).1)]
    rfl
theorem pw_to {α : Type} {R S : α → α → Prop} (f : ∀ a b, R a b → S a b) : ∀ {l : List α}, l.Pairwise R → l.Pairwise S
  | [], _ => List.Pairwise.nil
  | a :: l, h => by
    cases h with
    | cons h1 h2 => exact List.Pairwise.cons (fun b hb => f a b (h1 b hb)) (pw_to f h2)
theorem wf_small {n : Int} (h : -9223372036854775808 ≤ n ∧ n ≤ 9223372036854775807) : (Lit.int .i64 n).wf = true := by
  have e1 : IntKind.i64.min = -9223372036854775808 := rfl
  have e2 : IntKind.i64.max = 9223372036854775807 := rfl
  simp [Lit.wf, e1, e2]
  omega
theorem ordered_wf {W : Int} {cs ds : List C2} (h : OrderedOf W cs ds) (hs : SmallC cs) : CsWf ds := fun c hc => by
  refine ⟨(h.good c hc).2.2, wf_small ?_⟩
  have h1 := h.tot c.r (h.good c hc).2
  rw [totC_asc c.r h.asc] at h1
  have h2 : cntC ds c.r = c.n := by
    rw [← totC_asc c.r h.asc]
    exact totC_mem (pw_to (fun _ _ h => lt_ne h) h.asc) hc
  have h3 := hs.tot (cs := cs) ⟨[], by simp⟩ c.r
  omega
theorem sumC_wf {W : Int} {cs ds : List C2} (hc : okBag W cs = true) (hd : okBag W ds = true) (wc : CsWf cs) (wd : CsWf ds) : CsWf (sumC cs ds 1) := fun c hm => by
  obtain ⟨_, _, lc, ac, gc⟩ := okBag_all hc wc
  obtain ⟨_, _, ld, ad, gd⟩ := okBag_all hd wd
  obtain ⟨s1, s2, s3⟩ := sumC_all (n := 1) (ds := ds) ac (fun c hc => (gc c hc).2.1)
  have h2 : cntC (sumC cs ds 1) c.r = c.n := by
    rw [← totC_asc c.r s1]
    exact totC_mem (pw_to (fun _ _ h => lt_ne h) s1) hm
  rw [s3, totC_sum, ← totC_asc c.r ac] at h2
  have b1 := totC_bound (cs := cs) (M := 1000000000) (fun x hx => (gc x hx).2.2) (by decide) c.r
  have b2 := totC_bound (cs := ds) (M := 1000000000) (fun x hx => (gd x hx).2.2) (by decide) c.r
  have l1 : (cs.length : Int) ≤ 400 := by omega
  have l2 : (ds.length : Int) ≤ 400 := by omega
  refine ⟨?_, wf_small (by omega)⟩
  by_cases h1 : ∃ x ∈ cs, x.r = c.r
  · obtain ⟨x, hx, e⟩ := h1
    rw [← e]; exact (wc x hx).1
  by_cases h3 : ∃ x ∈ ds, x.r = c.r
  · obtain ⟨x, hx, e⟩ := h3
    rw [← e]; exact (wd x hx).1
  · have e1 : totC cs c.r = 0 := totC_none fun x hx e => h1 ⟨x, hx, e⟩
    have e2 : totC ds c.r = 0 := totC_none fun x hx e => h3 ⟨x, hx, e⟩
    have := s2 c hm
    omega
/-- what two bags are together, or the first one where that is none. -/
def addC (W Wb : Int) (cs ds : List C2) : List C2 := if (okBag W cs && okBag Wb ds && W == Wb && okBag W (sumC cs ds 1)) = true then sumC cs ds 1 else cs
end Go.Proofs.Ytdkbhoichmcodaa
