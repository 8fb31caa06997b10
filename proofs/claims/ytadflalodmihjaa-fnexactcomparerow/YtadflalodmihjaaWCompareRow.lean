/- Own text. The walk of the statement on CompareRow. -/
import Derived.Test.YtadflalodmihjaaRowC
import Derived.Test.YtadflalodmihjaaRowCmp
import Derived.Test.YtadflalodmihjaaToVS
import Derived.WalkKit
import Derived.WalkSpells
import Derived.WalkLawsBesides
import Derived.Handy
import Derived.Below
import Derived.Deep.RegionHeld3
import Derived.Deep.DeepCutAuto
namespace Go.Proofs.Ytadflalodmihjaa.fnExactCompareRow
open Go.RowKit
set_option linter.unusedVariables false
set_option maxHeartbeats 4000000 in
set_option maxRecDepth 100000 in
theorem walk (v : Value) (vs : List V3) (hvw : VsWf vs) (u : Value) (us : List V3) (huw : VsWf us) (w : World) (hA : RowIs w v vs) (hB : RowIs w u us) :
    Calls Try.prog 3 #[v, u] w fun e w' => e = .returned (.bool true) ∧ Below w.heap.size w w' := by
  go_enter Try.func3, Try.ntmps3
  go_wp2_with fail
  refine (szValueS_any v vs 1048576 w hA hvw (by decide) (by decide)).mono ?_
  rintro e w1 ⟨⟨z1, rfl, l1, g1, s1⟩, hb1⟩
  have hz1 := hb1.size
  have hB1 := hB.below hb1
  have hA1 := hA.below hb1
  clear hA hB
  by_cases hn1 : z1 < 0
  · go_wp2_with fail
    go_returns
    exact ⟨rfl, by repeat (first | exact Below.refl _ _ | refine Below.drew ?_ | refine Below.alloc ?_ (by first | (simp; done) | (simp; omega) | omega) _ | refine Below.setCell ?_ (by first | (simp; done) | (simp; omega) | omega) _ | refine bstep (by assumption) (by first | (simp; done) | (simp; omega) | omega) ?_)⟩
  have q1 := s1 (by omega)
  go_wp2_with fail
  refine (szValueS_any u us z1 w1 hB1 huw (by omega) (by omega)).mono ?_
  rintro e w2 ⟨⟨z2, rfl, l2, g2, s2⟩, hb2⟩
  have hz2 := hb2.size
  have hB2 := hB1.below hb2
  have hA2 := hA1.below hb2
  clear hA1 hB1
  by_cases hn2 : z2 < 0
  · go_wp2_with fail
    go_returns
    exact ⟨rfl, by repeat (first | exact Below.refl _ _ | refine Below.drew ?_ | refine Below.alloc ?_ (by first | (simp; done) | (simp; omega) | omega) _ | refine Below.setCell ?_ (by first | (simp; done) | (simp; omega) | omega) _ | refine bstep (by assumption) (by first | (simp; done) | (simp; omega) | omega) ?_)⟩
  have q2 := s2 (by omega)
  have nv : vs.length ≤ 1048576 := by unfold wt at q1; omega
  have nu : us.length ≤ 1048576 := by unfold wt at q2; omega
  clear s1 s2 q1 q2
  go_wp2_with fail
  refine (toValueS_row v vs w2 hA2 nv).mono ?_
  rintro e w3 ⟨⟨u3, rfl, hU3⟩, hb3⟩
  have hz3 := hb3.size
  have hA3 := hA2.below hb3
  have hB3 := hB2.below hb3
  clear hA2 hB2
  go_wp2_with fail
  refine (toValueS_row u us w3 hB3 nu).mono ?_
  rintro e w4 ⟨⟨u4, rfl, hT4⟩, hb4⟩
  have hz4 := hb4.size
  have hA4 := hA3.below hb4
  have hB4 := hB3.below hb4
  have hU4 := hU3.below hb4
  clear hA3 hB3 hU3
  go_wp2_with fail
  refine (specRow_any u3 u4 vs us w4 hU4 hT4).mono ?_
  rintro e w5 ⟨rfl, hb5⟩
  have hz5 := hb5.size
  have hA5 := hA4.below hb5
  have hB5 := hB4.below hb5
  clear hA4 hB4
  go_wp2_with fail
  refine (toValueS_row v vs w5 hA5 nv).mono ?_
  rintro e w6 ⟨⟨x0, rfl, hX6⟩, hb6⟩
  have hz6 := hb6.size
  have hA6 := hA5.below hb6
  have hB6 := hB5.below hb6
  clear hA5 hB5
  go_wp2_with fail
  refine (toValueS_row u us w6 hB6 nu).mono ?_
  rintro e w7 ⟨⟨x1, rfl, hY7⟩, hb7⟩
  have hz7 := hb7.size
  have hA7 := hA6.below hb7
  have hB7 := hB6.below hb7
  have hX7 := hX6.below hb7
  clear hA6 hB6 hX6
  go_wp2_with fail
  refine (implRow_any x0 x1 vs us w7 hX7 hY7).mono ?_
  rintro e w8 ⟨rfl, hb8⟩
  have hz8 := hb8.size
  have hA8 := hA7.below hb8
  have hB8 := hB7.below hb8
  have hX8 := hX7.below hb8
  have hY8 := hY7.below hb8
  clear hA7 hB7 hX7 hY7
  go_wp2_with fail
  refine (toValueS_row v vs w8 hA8 nv).mono ?_
  rintro e w9 ⟨⟨y0, rfl, hP9⟩, hb9⟩
  have hz9 := hb9.size
  have hB9 := hB8.below hb9
  have hX9 := hX8.below hb9
  have hY9 := hY8.below hb9
  clear hB8 hX8 hY8
  go_wp2_with fail
  refine (eqValueS_same x0 y0 vs w9 hX9 hP9).mono ?_
  rintro e w10 ⟨rfl, hb10⟩
  have hz10 := hb10.size
  have hB10 := hB9.below hb10
  have hY10 := hY9.below hb10
  clear hB9 hY9
  go_wp2_with fail
  refine (toValueS_row u us w10 hB10 nu).mono ?_
  rintro e w11 ⟨⟨y1, rfl, hQ11⟩, hb11⟩
  have hz11 := hb11.size
  have hY11 := hY10.below hb11
  clear hY10
  go_wp2_with fail
  refine (eqValueS_same x1 y1 us w11 hY11 hQ11).mono ?_
  rintro e w12 ⟨rfl, hb12⟩
  have hz12 := hb12.size
  go_wp2_with fail
  go_returns
  exact ⟨rfl, by repeat (first | exact Below.refl _ _ | refine Below.drew ?_ | refine Below.alloc ?_ (by first | (simp; done) | (simp; omega) | omega) _ | refine Below.setCell ?_ (by first | (simp; done) | (simp; omega) | omega) _ | refine bstep (by assumption) (by first | (simp; done) | (simp; omega) | omega) ?_)⟩
end Go.Proofs.Ytadflalodmihjaa.fnExactCompareRow
