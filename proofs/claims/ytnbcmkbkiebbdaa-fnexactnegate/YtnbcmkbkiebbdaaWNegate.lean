/- Own text. The walk of the statement on Negate. -/
import Derived.Test.YtnbcmkbkiebbdaaNegI
import Derived.Test.YtnbcmkbkiebbdaaStR
import Derived.WalkKit
import Derived.WalkSpells
import Derived.WalkLawsBesides
import Derived.Handy
import Derived.Below
import Derived.Deep.RegionHeld3
import Derived.Deep.DeepCutAuto
namespace Go.Proofs.Ytnbcmkbkiebbdaa.fnExactNegate
open Go.RowKit
set_option linter.unusedVariables false
theorem wtR_neg (rs : List R3) : wtR (negL rs) ≤ wtR rs := by
  unfold wtR wtrs negL
  rw [List.length_map, List.map_map]
  induction rs with
  | nil => simp
  | cons x xs ih =>
    simp only [List.map_cons, List.sum_cons, List.length_cons, Function.comp] at ih ⊢
    have h1 : wtr (negR x) ≤ wtr x := by unfold wtr negR; have := wtb_timesC x.W (-1) x.cs; dsimp only; omega
    omega
set_option maxHeartbeats 4000000 in
set_option maxRecDepth 100000 in
theorem walk (v : Value) (rs : List R3) (hw : RsWf rs) (w : World) (hr : RelsIs w v rs) :
    Calls Try.prog 11 #[v] w fun e w' => e = .returned (.bool true) ∧ Below w.heap.size w w' := by
  obtain ⟨a, l, c, rfl⟩ := hr.shape
  go_enter Try.func11, Try.ntmps11
  go_wp2_with fail
  refine Calls.mono (szRelS_any (.slice a l c) rs 1048576 _ (hr.below ?hb) hw (by decide) (by decide)) ?_
  case hb => repeat (first | exact Below.refl _ _ | refine Below.drew ?_ | refine Below.alloc ?_ (by first | (simp; done) | (simp; omega) | omega) _ | refine Below.setCell ?_ (by first | (simp; done) | (simp; omega) | omega) _ | refine bstep (by assumption) (by first | (simp; done) | (simp; omega) | omega) ?_)
  rintro e w1 ⟨⟨z1, rfl, l1, g1, s1⟩, hb1⟩
  have hz1 := hb1.size
  have bel1 : Below w.heap.size w w1 := by repeat (first | exact Below.refl _ _ | refine Below.drew ?_ | refine Below.alloc ?_ (by first | (simp; done) | (simp; omega) | omega) _ | refine Below.setCell ?_ (by first | (simp; done) | (simp; omega) | omega) _ | refine bstep (by assumption) (by first | (simp; done) | (simp; omega) | omega) ?_)
  have hr1 : RelsIs w1 (.slice a l c) rs := hr.below bel1
  by_cases hn1 : z1 < 0
  · go_wp2_with fail
    go_returns
    exact ⟨rfl, bel1⟩
  have hn : wtR rs ≤ 1048576 := by have := s1 (by omega); omega
  have hnR : wtR (negL rs) ≤ 1048576 := Nat.le_trans (wtR_neg rs) hn
  clear s1 hr hb1
  go_wp2_with fail
  refine (toRelS_F (.slice a l c) rs w1 hr1 hn).mono ?_
  rintro e w2 ⟨⟨u2, F2, rfl, hU2, _⟩, hb2⟩
  obtain ⟨a2, l2, c2, rfl⟩ := hU2.is.shape
  have hz2 := hb2.size
  have hr2 := hr1.below hb2
  have bel2 : Below w.heap.size w w2 := bel1.trans (hb2.mono bel1.size)
  clear hr1 bel1 hb2
  go_wp2_with fail
  refine (specNegate_any (.slice a2 l2 c2) rs F2 w2 hw hU2 hn).mono ?_
  rintro e w3 ⟨⟨u3, F3, rfl, hS, _⟩, hb3⟩
  obtain ⟨a3, l3, c3, rfl⟩ := hS.is.shape
  have hz3 := hb3.size
  have hr3 := hr2.below hb3
  have bel3 : Below w.heap.size w w3 := bel2.trans (hb3.mono bel2.size)
  have hS3 := hS.is
  clear hr2 bel2 hb3 hU2 hS
  go_wp2_with fail
  refine (toRelS_F (.slice a l c) rs w3 hr3 hn).mono ?_
  rintro e w4 ⟨⟨u4, F4, rfl, hX4, hO4⟩, hb4⟩
  obtain ⟨a4, l4, c4, rfl⟩ := hX4.is.shape
  have hz4 := hb4.size
  go_wp2_with fail
  refine (implNegate_any (.slice a4 l4 c4) rs F4 w4 hw hX4 hn).mono ?_
  rintro e w5 ⟨⟨u5, F5, rfl, hG5, hO5⟩, hb5⟩
  obtain ⟨a5, l5, c5, rfl⟩ := hG5.is.shape
  have hz5 := hb5.size
  have st : StR w3 w5 (.slice a4 l4 c4) (.slice a5 l5 c5) rs (negL rs) F4 F5 :=
    ⟨hb4.trans (hb5.mono hz4), hX4.below hb5, hG5, Own.below hO4 hX4.lt hb5, ⟨hO5.1, fun b hb => by have := hO5.2.1 b hb; omega, hO5.2.2⟩, fun b hb hb' => by have := hX4.lt b hb; have := hO5.2.1 b hb'; omega⟩
  clear hX4 hO4 hG5 hO5 hb4 hb5
  go_wp2_with fail
  refine (eqRelS_same (.slice a5 l5 c5) (.slice a3 l3 c3) (negL rs) w5 st.gg.is (hS3.below st.bel)).mono ?_
  rintro e w6 ⟨rfl, hb6⟩
  have st6 := st.below hb6
  clear st hb6
  go_wp2_with fail
  refine (toRelS_F (.slice a l c) rs w6 (hr3.below st6.bel) hn).mono ?_
  rintro e w7 ⟨⟨u7, F7, rfl, hX7, _⟩, hb7⟩
  obtain ⟨a7, l7, c7, rfl⟩ := hX7.is.shape
  have st7 := st6.below hb7
  clear st6 hb7
  go_wp2_with fail
  refine (eqRelS_same (.slice a4 l4 c4) (.slice a7 l7 c7) rs w7 st7.xx.is hX7.is).mono ?_
  rintro e w8 ⟨rfl, hb8⟩
  have st8 := st7.below hb8
  clear st7 hb8 hX7
  go_wp2_with fail
  refine (markRelS_any 1 (.slice a4 l4 c4) rs F4 w8 st8.xx st8.o4.1 st8.o4.2.2 (by decide) (by omega)).mono ?_
  rintro e w9 ⟨rfl, hx9, hc9⟩
  have st9 := st8.markX hc9 hx9
  have hoff := offR_le 1 rs rs.length
  have hop : 0 < offR 1 rs rs.length := by unfold offR; omega
  generalize offR 1 rs rs.length = kx at *
  clear st8 hx9 hc9
  go_wp2_with fail
  refine (eqRelS_same (.slice a5 l5 c5) (.slice a3 l3 c3) (negL rs) w9 st9.gg.is (hS3.below st9.bel)).mono ?_
  rintro e w10 ⟨rfl, hb10⟩
  have st10 := st9.below hb10
  clear st9 hb10
  go_wp2_with fail
  refine (markRelS_any 1 (.slice a5 l5 c5) (negL rs) F5 w10 st10.gg st10.o5.1 st10.o5.2.2 (by decide) (by omega)).mono ?_
  rintro e w11 ⟨rfl, hx11, hc11⟩
  have st11 := st10.markG hc11 hx11
  have hoff2 := offR_le 1 (negL rs) (negL rs).length
  have hheld := fun w' => heldRelS_any 1 (.slice a5 l5 c5) (negL rs) w'
  generalize offR 1 (negL rs) (negL rs).length = kg at *
  clear st10 hx11 hc11
  go_wp2_with fail
  refine (hheld w11 st11.gg.is (by decide) (by omega)).mono ?_
  rintro e w12 ⟨rfl, hb12⟩
  have st12 := st11.below hb12
  clear st11 hb12
  go_wp2_with fail
  refine (toRelS_F (.slice a l c) rs w12 (hr3.below st12.bel) hn).mono ?_
  rintro e w13 ⟨⟨u13, F13, rfl, hX13, _⟩, hb13⟩
  obtain ⟨a13, l13, c13, rfl⟩ := hX13.is.shape
  have st13 := st12.below hb13
  clear st12 hb13
  go_wp2_with fail
  refine (implNegate_any (.slice a13 l13 c13) rs F13 w13 hw hX13 hn).mono ?_
  rintro e w14 ⟨⟨u14, F14, rfl, hG14, _⟩, hb14⟩
  obtain ⟨a14, l14, c14, rfl⟩ := hG14.is.shape
  have st14 := st13.below hb14
  clear st13 hb14 hX13
  go_wp2_with fail
  refine (eqRelS_same (.slice a14 l14 c14) (.slice a3 l3 c3) (negL rs) w14 hG14.is (hS3.below st14.bel)).mono ?_
  rintro e w15 ⟨rfl, hb15⟩
  have st15 := st14.below hb15
  clear st14 hb15 hG14
  go_wp2_with fail
  refine (hheld w15 st15.gg.is (by decide) (by omega)).mono ?_
  rintro e w16 ⟨rfl, hb16⟩
  have belE : Below w.heap.size w w16 := bel3.trans ((st15.below hb16).bel.mono bel3.size)
  clear st15 hb16 hheld
  go_wp2
  go_returns
  exact ⟨rfl, belE⟩
end Go.Proofs.Ytnbcmkbkiebbdaa.fnExactNegate
