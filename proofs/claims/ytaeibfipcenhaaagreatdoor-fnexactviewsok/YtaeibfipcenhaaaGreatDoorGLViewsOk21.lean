/- Own texts, joined: contracts that the law's proof goes by. -/
import Derived.Test.YtaeibfipcenhaaaGreatDoorGLViewsOk19
import Derived.Test.YtaeibfipcenhaaaGreatDoorGLViewsOk18
import Derived.Test.YtaeibfipcenhaaaGreatDoorGLViewsOk20
import Derived.Handy
import Derived.Test.YtaeibfipcenhaaaGreatDoorGLViewsOk11
import Derived.Test.YtaeibfipcenhaaaGreatDoorGLViewsOk16
import Derived.Shelf.SlSortCmp.WholeK
import Derived.Lib.QuietBelow
namespace Go.Proofs.YtaeibfipcenhaaaGreatDoor
open Go.RowKit
set_option linter.unusedVariables false
/-- a list of rows whose counts are small. -/
def SmallC (cs : List C2) : Prop := (∀ c ∈ cs, -1000000000 ≤ c.n ∧ c.n ≤ 1000000000) ∧ cs.length ≤ 4194304
theorem SmallC.tot {cs ds : List C2} (h : SmallC ds) (hs : ∃ t, ds = cs ++ t) (r : List V3) : -4294967296000000000 ≤ totC cs r ∧ totC cs r ≤ 4294967296000000000 := by
  obtain ⟨t, rfl⟩ := hs
  have h1 := totC_bound (cs := cs) (M := 1000000000) (fun c hc => h.1 c (by simp [hc])) (by decide) r
  have h2 := h.2
  rw [List.length_append] at h2
  have : (cs.length : Int) ≤ 4194304 := by omega
  omega
end Go.Proofs.YtaeibfipcenhaaaGreatDoor
namespace Go.Proofs.YtaeibfipcenhaaaGreatDoor
open Go.RowKit Go.Sort Go.Shelf Go.Lib
set_option linter.unusedVariables false
/-- a row that lay in w0, in blocks below b, with its number. -/
abbrev RowT (w0 : World) (b : Nat) := { p : Value × C2 // RowB w0 b p.1 p.2.r ∧ p.2.r.length ≤ 1048576 }
end Go.Proofs.YtaeibfipcenhaaaGreatDoor
namespace Go.Proofs.YtaeibfipcenhaaaGreatDoor
open Go.RowKit
set_option linter.unusedVariables false
/-- rows in order, each as often as in cs. -/
structure OrderedOf (W : Int) (cs ds : List C2) : Prop where
  asc : Asc ds
  good : ∀ c ∈ ds, c.n ≠ 0 ∧ GoodRow W c.r
  tot : ∀ r, GoodRow W r → totC ds r = totC cs r
theorem totC_mem : ∀ {ds : List C2} {c : C2}, (ds.Pairwise fun x y => x.r ≠ y.r) → c ∈ ds → totC ds c.r = c.n
  | d :: ds, c, hp, hc => by
    obtain ⟨h1, h2⟩ := List.pairwise_cons.1 hp
    rw [totC]
    rcases List.mem_cons.1 hc with rfl | h
    · rw [if_pos (cmpRow_irr _), totC_none fun x hx => (h1 x hx).symm, Int.add_zero]
    · rw [if_neg (fun e => h1 c h ((cmpRow_0 _ _).1 e)), totC_mem h2 h, Int.zero_add]
/-- what has been collected when left is still to come. -/
structure Coll {w : World} {b : Nat} (D : DT) (W : Int) (cs : List C2) (left : Lit → Bool) (ss : List (RowT w b)) : Prop where
  mem : ∀ x ∈ ss, GoodRow W x.1.2.r ∧ x.1.2.n = totC cs x.1.2.r ∧ x.1.2.n ≠ 0 ∧ left (klit x.1.2.r) = false
  apart : ss.Pairwise fun x y => x.1.2.r ≠ y.1.2.r
  all : ∀ r, GoodRow W r → totC cs r ≠ 0 → left (klit r) = true ∨ ∃ x ∈ ss, x.1.2.r = r
  has : ∀ kl, left kl = true → Maps.has D kl = true
/-- the entry that comes next. -/
theorem Coll.next {w : World} {b : Nat} {D : DT} {W : Int} {cs : List C2} {left : Lit → Bool} {ss : List (RowT w b)} (hT : TallyOf w b D W cs) (hW : W ≤ 1048576) (h : Coll D W cs left ss) {kl : Lit} (hl : left kl = true) {a : Option Addr} {l c : Nat} {m : Int} (hat : ∀ z, D.atKey kl z = .held (.slice a l c, m)) :
    ∃ x : RowT w b, x.1.1 = .slice a l c ∧ x.1.2.n = m ∧ Coll D W cs (fun z => left z && !z.sameKey kl) (ss ++ [x]) := by
  obtain ⟨r, hr, rfl⟩ := hT.only kl (h.has kl hl)
  have hn : totC cs r ≠ 0 := fun e => by
    have := hT.no r hr e
    rw [h.has _ hl] at this; cases this
  obtain ⟨v, h1, h2⟩ := hT.yes r hr hn
  have e := (h1 .nil).symm.trans (hat .nil)
  obtain ⟨rfl, rfl⟩ : v = .slice a l c ∧ totC cs r = m := by simpa using e
  have hself : (klit r).sameKey (klit r) = true := WideAt.sameKey_self (klit_key r)
  have hlen : r.length ≤ 1048576 := by
    have := hr.1
    simp only [okRow, Bool.and_eq_true, decide_eq_true_eq] at this
    omega
  refine ⟨⟨(.slice a l c, ⟨r, totC cs r⟩), h2, hlen⟩, rfl, rfl, ⟨fun x hx => ?_, ?_, fun q hq hnq => ?_, fun k hk => ?_⟩⟩
  · rcases List.mem_append.1 hx with hx | hx
    · obtain ⟨g1, g2, g3, g4⟩ := h.mem x hx
      exact ⟨g1, g2, g3, by rw [g4]; rfl⟩
    · rcases List.mem_singleton.1 hx with rfl
      exact ⟨hr, rfl, hn, by simp [hself]⟩
  · rw [List.pairwise_append]
    refine ⟨h.apart, List.pairwise_singleton _ _, fun x hx y hy => ?_⟩
    rcases List.mem_singleton.1 hy with rfl
    intro e
    have := (h.mem x hx).2.2.2
    dsimp only at e
    rw [e, hl] at this; cases this
  · by_cases e : q = r
    · subst e
      exact .inr ⟨_, List.mem_append.2 (.inr (List.mem_singleton.2 rfl)), rfl⟩
    · rcases h.all q hq hnq with h3 | ⟨x, hx, e2⟩
      · refine .inl ?_
        have : (klit q).sameKey (klit r) = false := by
          cases hs : (klit q).sameKey (klit r)
          · rfl
          · exact absurd (klit_inj hq hr (WideAt.sameKey_eq hs)) e
        rw [h3, this]; rfl
      · exact .inr ⟨x, List.mem_append.2 (.inl hx), e2⟩
  · rw [Bool.and_eq_true] at hk
    exact h.has k hk.1
theorem Coll.done {w : World} {b : Nat} {D : DT} {W : Int} {cs : List C2} {left : Lit → Bool} {ss ss' : List (RowT w b)} (h : Coll D W cs left ss) (hl : ∀ kl, left kl = false) (hp : ss'.Perm ss) (hs : ss'.Pairwise fun x y => ¬ cmpRow y.1.2.r x.1.2.r < 0) : OrderedOf W cs (ss'.map fun x => x.1.2) := by
  have hap : ss'.Pairwise fun x y => x.1.2.r ≠ y.1.2.r := (hp.pairwise_iff (fun {_ _} hne => Ne.symm hne)).2 h.apart
  have hapM : (ss'.map fun x => x.1.2).Pairwise fun x y => x.r ≠ y.r := List.pairwise_map.2 hap
  refine ⟨?_, fun c hc => ?_, fun r hr => ?_⟩
  · refine List.pairwise_map.2 ?_
    rw [List.pairwise_iff_getElem] at hap hs ⊢
    exact fun i j hi hj hij => gt_of (hs i j hi hj hij) (fun e => hap i j hi hj hij e.symm)
  · obtain ⟨x, hx, rfl⟩ := List.mem_map.1 hc
    obtain ⟨g1, g2, g3, _⟩ := h.mem x (hp.mem_iff.1 hx)
    exact ⟨g3, g1⟩
  · by_cases hn : totC cs r = 0
    · rw [hn]
      refine totC_none fun c hc e => ?_
      obtain ⟨x, hx, rfl⟩ := List.mem_map.1 hc
      obtain ⟨_, g2, g3, _⟩ := h.mem x (hp.mem_iff.1 hx)
      rw [e, hn] at g2
      exact g3 g2
    · rcases h.all r hr hn with h3 | ⟨x, hx, rfl⟩
      · rw [hl] at h3; cases h3
      · rw [totC_mem (c := x.1.2) hapM (List.mem_map.2 ⟨x, hp.mem_iff.2 hx, rfl⟩)]
        exact (h.mem x hx).2.1
end Go.Proofs.YtaeibfipcenhaaaGreatDoor
