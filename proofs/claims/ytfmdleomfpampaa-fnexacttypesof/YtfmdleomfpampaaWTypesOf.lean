/- Own text. The walk of the statement on TypesOf. -/
import Derived.Test.YtfmdleomfpampaaTyC
import Derived.Test.YtfmdleomfpampaaToH
import Derived.Test.YtfmdleomfpampaaToR
import Derived.Test.YtfmdleomfpampaaTake
import Derived.WalkKit
import Derived.WalkSpells
import Derived.WalkLawsBesides
import Derived.Handy
import Derived.Below
import Derived.Deep.RegionHeld3
import Derived.Deep.DeepCutAuto
namespace Go.Proofs.Ytfmdleomfpampaa.fnExactTypesOf
open Go.RowKit
set_option linter.unusedVariables false
set_option maxHeartbeats 4000000 in
set_option maxRecDepth 100000 in
theorem walk (v : Value) (rs : List R3) (hwr : RsWf rs) (v' : Value) (hs : List S2) (hwh : HsWf hs) (w : World) (hq : RelsIs w v rs) (hh : SchsIs w v' hs) :
    Calls Try.prog 4 #[v, v'] w fun x w' => x = .returned (.bool true) ∧ Below w.heap.size w w' := by
  obtain ⟨a, l, c, rfl⟩ := hq.shape
  obtain ⟨a', l', c', rfl⟩ := hh.shape
  obtain ⟨tb, hT⟩ : ∃ tb, Hid (tyB rs hs = tb) := ⟨_, rfl⟩
  go_enter Try.func4, Try.ntmps4
  go_wp2_with fail
  refine Calls.mono (szRelS_any (.slice a l c) rs 1048576 w hq hwr (by decide) (by decide)) ?_
  rintro x w1 ⟨⟨z1, rfl, l1, g1, s1⟩, hbw⟩
  replace hq := hq.below hbw
  replace hh := hh.below hbw
  by_cases hn1 : z1 < 0
  · go_wp2_with fail
    go_returns
    exact ⟨rfl, hbw⟩
  have hnq : wtR rs ≤ 1048576 := by have := s1 (by omega); omega
  clear s1
  go_wp2_with fail
  refine Calls.mono (szSchemaS_any (.slice a' l' c') hs z1 w1 hh hwh (by omega) (by omega)) ?_
  rintro x w2 ⟨⟨z2, rfl, l2, g2, s2⟩, hb2⟩
  replace hq := hq.below hb2
  replace hh := hh.below hb2
  replace hbw : Below w.heap.size w w2 := hbw.trans (hb2.mono hbw.size)
  by_cases hn2 : z2 < 0
  · go_wp2_with fail
    go_returns
    exact ⟨rfl, hbw⟩
  have hnh : wtH hs ≤ 1048576 := by have := s2 (by omega); omega
  clear s2 hb2
  go_wp2_with fail
  refine Calls.mono (toRelS_rels (.slice a l c) rs w2 hq hnq) ?_
  rintro x w3 ⟨⟨u3, rfl, hU3⟩, hb3⟩
  replace hq := hq.below hb3
  replace hh := hh.below hb3
  replace hbw : Below w.heap.size w w3 := hbw.trans (hb3.mono hbw.size)
  clear hb3
  obtain ⟨a3, l3, c3, rfl⟩ := hU3.shape
  go_wp2_with fail
  refine Calls.mono (toSchemaS_schs (.slice a' l' c') hs w3 hh hnh) ?_
  rintro x w4 ⟨⟨u4, rfl, hU4⟩, hb4⟩
  replace hq := hq.below hb4
  replace hh := hh.below hb4
  replace hbw : Below w.heap.size w w4 := hbw.trans (hb4.mono hbw.size)
  replace hU3 := hU3.below hb4
  clear hb4
  obtain ⟨a4, l4, c4, rfl⟩ := hU4.shape
  go_wp2_with fail
  refine Calls.mono (specTypesOf_any (.slice a3 l3 c3) (.slice a4 l4 c4) rs hs w4 hU3 hU4) ?_
  rw [hT.out]
  rintro x w5 ⟨rfl, hb5⟩
  replace hq := hq.below hb5
  replace hh := hh.below hb5
  replace hbw : Below w.heap.size w w5 := hbw.trans (hb5.mono hbw.size)
  clear hb5 hU3 hU4
  go_wp2_with fail
  refine Calls.mono (toRelS_rels (.slice a l c) rs w5 hq hnq) ?_
  rintro x w6 ⟨⟨u6, rfl, hU6⟩, hb6⟩
  replace hq := hq.below hb6
  replace hh := hh.below hb6
  replace hbw : Below w.heap.size w w6 := hbw.trans (hb6.mono hbw.size)
  clear hb6
  obtain ⟨a6, l6, c6, rfl⟩ := hU6.shape
  go_wp2_with fail
  refine Calls.mono (toSchemaS_schs (.slice a' l' c') hs w6 hh hnh) ?_
  rintro x w7 ⟨⟨u7, rfl, hU7⟩, hb7⟩
  replace hq := hq.below hb7
  replace hh := hh.below hb7
  replace hbw : Below w.heap.size w w7 := hbw.trans (hb7.mono hbw.size)
  replace hU6 := hU6.below hb7
  clear hb7
  obtain ⟨a7, l7, c7, rfl⟩ := hU7.shape
  go_wp2_with fail
  refine Calls.mono (implTypesOf_any (.slice a6 l6 c6) (.slice a7 l7 c7) rs hs w7 hU6 hU7) ?_
  rw [hT.out]
  rintro x w8 ⟨rfl, hb8⟩
  replace hq := hq.below hb8
  replace hh := hh.below hb8
  replace hbw : Below w.heap.size w w8 := hbw.trans (hb8.mono hbw.size)
  replace hU6 := hU6.below hb8
  replace hU7 := hU7.below hb8
  clear hb8
  have hnn : (tb != tb) = false := by simp
  cases tb <;> (
    go_wp2_with fail
    refine Calls.mono (toRelS_rels (.slice a l c) rs _ (hq.below (by repeat (first | (with_reducible exact Below.refl _ _) | (with_reducible refine Below.drew ?_) | (with_reducible refine Below.alloc ?_ ?hh _; case hh => first | (simp; done) | (simp; omega) | omega) | (with_reducible refine Below.setCell ?_ ?hh _; case hh => first | (simp; done) | (simp; omega) | omega) | refine bstep (by assumption) (by first | (simp; done) | (simp; omega) | omega) ?_))) hnq) ?_
    rintro x w9 ⟨⟨u9, rfl, hU9⟩, hb9⟩
    have hx9 : Below w8.heap.size w8 w9 := by repeat (first | (with_reducible exact Below.refl _ _) | (with_reducible refine Below.drew ?_) | (with_reducible refine Below.alloc ?_ ?hh _; case hh => first | (simp; done) | (simp; omega) | omega) | (with_reducible refine Below.setCell ?_ ?hh _; case hh => first | (simp; done) | (simp; omega) | omega) | refine bstep (by assumption) (by first | (simp; done) | (simp; omega) | omega) ?_)
    replace hq := hq.below hx9
    replace hh := hh.below hx9
    have hbw9 : Below w.heap.size w w9 := hbw.trans (hx9.mono hbw.size)
    replace hU6 := hU6.below hx9
    replace hU7 := hU7.below hx9
    obtain ⟨a9, l9, c9, rfl⟩ := hU9.shape
    clear hb9 hx9 hbw
    go_wp2_with fail
    refine Calls.mono (eqRelS_same (.slice a6 l6 c6) (.slice a9 l9 c9) rs w9 hU6 hU9) ?_
    rintro x w10 ⟨rfl, hb10⟩
    replace hh := hh.below hb10
    have hbw10 : Below w.heap.size w w10 := hbw9.trans (hb10.mono hbw9.size)
    replace hU7 := hU7.below hb10
    clear hb10 hbw9
    go_wp2_with fail
    refine Calls.mono (toSchemaS_schs (.slice a' l' c') hs _ (hh.below (by repeat (first | (with_reducible exact Below.refl _ _) | (with_reducible refine Below.drew ?_) | (with_reducible refine Below.alloc ?_ ?hh _; case hh => first | (simp; done) | (simp; omega) | omega) | (with_reducible refine Below.setCell ?_ ?hh _; case hh => first | (simp; done) | (simp; omega) | omega) | refine bstep (by assumption) (by first | (simp; done) | (simp; omega) | omega) ?_))) hnh) ?_
    rintro x w11 ⟨⟨u11, rfl, hU11⟩, hb11⟩
    have hx11 : Below w10.heap.size w10 w11 := by repeat (first | (with_reducible exact Below.refl _ _) | (with_reducible refine Below.drew ?_) | (with_reducible refine Below.alloc ?_ ?hh _; case hh => first | (simp; done) | (simp; omega) | omega) | (with_reducible refine Below.setCell ?_ ?hh _; case hh => first | (simp; done) | (simp; omega) | omega) | refine bstep (by assumption) (by first | (simp; done) | (simp; omega) | omega) ?_)
    have hbw11 : Below w.heap.size w w11 := hbw10.trans (hx11.mono hbw10.size)
    replace hU7 := hU7.below hx11
    obtain ⟨a11, l11, c11, rfl⟩ := hU11.shape
    clear hb11 hx11 hbw10
    go_wp2_with fail
    refine Calls.mono (eqSchemaS_same (.slice a7 l7 c7) (.slice a11 l11 c11) hs w11 hU7 hU11) ?_
    rintro x w12 ⟨rfl, hb12⟩
    have hbw12 : Below w.heap.size w w12 := hbw11.trans (hb12.mono hbw11.size)
    go_wp2_with fail
    go_returns
    exact ⟨rfl, hbw12⟩)
end Go.Proofs.Ytfmdleomfpampaa.fnExactTypesOf
