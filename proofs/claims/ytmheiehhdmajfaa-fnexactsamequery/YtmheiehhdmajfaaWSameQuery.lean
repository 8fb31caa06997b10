/- Own text. The walk of the statement on SameQuery. -/
import Derived.Test.YtmheiehhdmajfaaQsI
import Derived.Test.YtmheiehhdmajfaaSelC
import Derived.Test.YtmheiehhdmajfaaToQ
import Derived.Test.YtmheiehhdmajfaaTake
import Derived.WalkKit
import Derived.WalkSpells
import Derived.WalkLawsBesides
import Derived.Handy
import Derived.Below
import Derived.Deep.RegionHeld3
import Derived.Deep.DeepCutAuto
namespace Go.Proofs.Ytmheiehhdmajfaa.fnExactSameQuery
open Go.RowKit
set_option linter.unusedVariables false
set_option maxHeartbeats 8000000 in
set_option maxRecDepth 100000 in
theorem walk0 (p : S8) (ui uf uw ug um u : Value) (F : List Nat) (q : S8) (ui' uf' uw' ug' um' u' : Value) (G : List Nat) (D d : Nat) (hw : p.wf) (hw' : q.wf) (hSm : SmQ D d) (w : World) (hr : ListsQ w D (SelsIs w D d) p ui uf uw ug um u F) (hs : ListsQ w D (SelsIs w D d) q ui' uf' uw' ug' um' u' G) :
    Calls Try.prog 3 #[(.agg #[.bool p.d, .bool p.s, ui, uf, uw, ug, um, u]), (.agg #[.bool q.d, .bool q.s, ui', uf', uw', ug', um', u'])] w fun x w' => x = .returned (.bool true) ∧ Below w.heap.size w w' := by
  obtain ⟨a_0, a_c0, a_1, a_c1, a_2, a_c2, a_3, a_c3, a_4, a_c4, a_5, a_c5, rfl, rfl, rfl, rfl, rfl, rfl, _, _, _, _, _, _, _, _, _, _, _, _⟩ := hr.shape
  obtain ⟨b_0, b_c0, b_1, b_c1, b_2, b_c2, b_3, b_c3, b_4, b_c4, b_5, b_c5, rfl, rfl, rfl, rfl, rfl, rfl, _, _, _, _, _, _, _, _, _, _, _, _⟩ := hs.shape
  go_enter Try.func3, Try.ntmps3
  go_wp2_with fail
  refine Calls.mono (szSelect_of (szSelectS_any D d) p (.slice a_0 p.it.length a_c0) (.slice a_1 p.fr.length a_c1) (.slice a_2 p.wh.length a_c2) (.slice a_3 p.gr.length a_c3) (.slice a_4 p.su.length a_c4) (.slice a_5 p.ks.length a_c5) F 1048576 _ hw (hr.below ?hb) (by decide) (by decide)) ?_
  case hb => repeat (first | (with_reducible exact Below.refl _ _) | (with_reducible refine Below.drew ?_) | (with_reducible refine Below.alloc ?_ ?hh _; case hh => first | (simp; done) | (simp; omega) | omega) | (with_reducible refine Below.setCell ?_ ?hh _; case hh => first | (simp; done) | (simp; omega) | omega) | refine bstep (by assumption) (by first | (simp; done) | (simp; omega) | omega) ?_)
  rintro x w1 ⟨⟨z1, rfl, l1, g1, s1⟩, hb1⟩
  have hz1 := hb1.size
  simp only [World.size_alloc] at hz1
  have hA : Box8 w1 w.heap.size p (.slice a_0 p.it.length a_c0) (.slice a_1 p.fr.length a_c1) (.slice a_2 p.wh.length a_c2) (.slice a_3 p.gr.length a_c3) (.slice a_4 p.su.length a_c4) (.slice a_5 p.ks.length a_c5) := by refine ⟨by omega, ?_, ?_, ?_, ?_, ?_, ?_, ?_, ?_⟩ <;> exact cell_later hb1 (by go_simp)
  have hB : Box8 w1 (w.heap.size + 1) q (.slice b_0 q.it.length b_c0) (.slice b_1 q.fr.length b_c1) (.slice b_2 q.wh.length b_c2) (.slice b_3 q.gr.length b_c3) (.slice b_4 q.su.length b_c4) (.slice b_5 q.ks.length b_c5) := by refine ⟨by omega, ?_, ?_, ?_, ?_, ?_, ?_, ?_, ?_⟩ <;> exact cell_later hb1 (by go_simp)
  have hbw : Below w.heap.size w w1 := by repeat (first | (with_reducible exact Below.refl _ _) | (with_reducible refine Below.drew ?_) | (with_reducible refine Below.alloc ?_ ?hh _; case hh => first | (simp; done) | (simp; omega) | omega) | (with_reducible refine Below.setCell ?_ ?hh _; case hh => first | (simp; done) | (simp; omega) | omega) | refine bstep (by assumption) (by first | (simp; done) | (simp; omega) | omega) ?_)
  have hzw := hbw.size
  replace hr := hr.below hbw
  replace hs := hs.below hbw
  have qy := hB; obtain ⟨ly, y0, y1, y2, y3, y4, y5, y6, y7⟩ := qy
  by_cases hn1 : z1 < 0
  · go_wp2_with fail
    go_returns
    exact ⟨rfl, hbw⟩
  have hn := s1 (by omega)
  clear s1 hb1
  go_wp2_with fail
  refine Calls.mono (szSelect_of (szSelectS_any D d) q (.slice b_0 q.it.length b_c0) (.slice b_1 q.fr.length b_c1) (.slice b_2 q.wh.length b_c2) (.slice b_3 q.gr.length b_c3) (.slice b_4 q.su.length b_c4) (.slice b_5 q.ks.length b_c5) G z1 _ hw' hs (by omega) (by omega)) ?_
  rintro x w2 ⟨⟨z2, rfl, l2, g2, s2⟩, hb2⟩
  have hz2 := hb2.size
  clear ly y0 y1 y2 y3 y4 y5 y6 y7
  have hbx := hb2
  replace hA := hA.below hbx
  replace hB := hB.below hbx
  replace hr := hr.below hbx
  replace hs := hs.below hbx
  replace hbw : Below w.heap.size w w2 := hbw.trans (hbx.mono hzw)
  replace hzw := hbw.size
  clear hbx
  by_cases hn2 : z2 < 0
  · go_wp2_with fail
    go_returns
    exact ⟨rfl, hbw⟩
  have hn' := s2 (by omega)
  have hne : wtQ p ≤ 1048576 := by omega
  have hnf : wtQ q ≤ 1048576 := by omega
  clear s2 hb2
  go_wp2_with fail
  refine wp_region_held_drew (S := (fun w' => Box8 w' w.heap.size p (.slice a_0 p.it.length a_c0) (.slice a_1 p.fr.length a_c1) (.slice a_2 p.wh.length a_c2) (.slice a_3 p.gr.length a_c3) (.slice a_4 p.su.length a_c4) (.slice a_5 p.ks.length a_c5) ∧ Box8 w' (w.heap.size + 1) q (.slice b_0 q.it.length b_c0) (.slice b_1 q.fr.length b_c1) (.slice b_2 q.wh.length b_c2) (.slice b_3 q.gr.length b_c3) (.slice b_4 q.su.length b_c4) (.slice b_5 q.ks.length b_c5))) (by kernel_rfl) ?_ (fun hHeld => ?_)
  · exact ⟨hA.below (by repeat (first | (with_reducible exact Below.refl _ _) | (with_reducible refine Below.drew ?_) | (with_reducible refine Below.alloc ?_ ?hh _; case hh => first | (simp; done) | (simp; omega) | omega) | (with_reducible refine Below.setCell ?_ ?hh _; case hh => first | (simp; done) | (simp; omega) | omega) | refine bstep (by assumption) (by first | (simp; done) | (simp; omega) | omega) ?_)), hB.below (by repeat (first | (with_reducible exact Below.refl _ _) | (with_reducible refine Below.drew ?_) | (with_reducible refine Below.alloc ?_ ?hh _; case hh => first | (simp; done) | (simp; omega) | omega) | (with_reducible refine Below.setCell ?_ ?hh _; case hh => first | (simp; done) | (simp; omega) | omega) | refine bstep (by assumption) (by first | (simp; done) | (simp; omega) | omega) ?_))⟩
  refine takeYes (i := 0) (d := 20) (v := ?_) rfl rfl (by kernel_rfl) (by kernel_rfl) (by kernel_rfl) (fun _ _ _ h => h) (by rfl) (by assumption) ?_ ?_
  rotate_left
  · intro w' hSw; obtain ⟨⟨_, x0, x1, x2, x3, x4, x5, x6, x7⟩, ⟨_, y0, y1, y2, y3, y4, y5, y6, y7⟩⟩ := hSw; go_simp; try exact rfl
  try simp only [List.setIfInBounds_toArray, List.set_cons_zero, List.set_cons_succ]
  refine takeYes (i := 2) (d := 22) (v := ?_) rfl rfl (by kernel_rfl) (by kernel_rfl) (by kernel_rfl) (fun _ _ _ h => h) (by rfl) (by assumption) ?_ ?_
  rotate_left
  · intro w' hSw; obtain ⟨⟨_, x0, x1, x2, x3, x4, x5, x6, x7⟩, ⟨_, y0, y1, y2, y3, y4, y5, y6, y7⟩⟩ := hSw; go_simp; try exact rfl
  try simp only [List.setIfInBounds_toArray, List.set_cons_zero, List.set_cons_succ]
  refine wpAnyH_ready (rs := [1]) (by kernel_rfl) (by simp) ?_
  refine AllReadyH.cons rfl (fun K hK => ?_) AllReadyH.nil
  go_simp
  go_at_call 6
  refine Calls.mono (toSelect_of (toSelectS_any D d) p (.slice a_0 p.it.length a_c0) (.slice a_1 p.fr.length a_c1) (.slice a_2 p.wh.length a_c2) (.slice a_3 p.gr.length a_c3) (.slice a_4 p.su.length a_c4) (.slice a_5 p.ks.length a_c5) F _ (hr.below (by repeat (first | (with_reducible exact Below.refl _ _) | (with_reducible refine Below.drew ?_) | (with_reducible refine Below.alloc ?_ ?hh _; case hh => first | (simp; done) | (simp; omega) | omega) | (with_reducible refine Below.setCell ?_ ?hh _; case hh => first | (simp; done) | (simp; omega) | omega) | refine bstep (by assumption) (by first | (simp; done) | (simp; omega) | omega) ?_))) hne) ?_
  rintro x w3 ⟨⟨ui3, uf3, uw3, ug3, um3, u3, F3, rfl, hU3, _⟩, hb3⟩
  obtain ⟨c_0, c_c0, c_1, c_c1, c_2, c_c2, c_3, c_c3, c_4, c_c4, c_5, c_c5, rfl, rfl, rfl, rfl, rfl, rfl, _, _, _, _, _, _, _, _, _, _, _, _⟩ := hU3.shape
  have hz3 := hb3.size
  (try simp at hz3)
  try go_wp2_with fail
  refine hK.out _ _ ?_ (fun hHeld1 => ?_)
  · exact ⟨hA.below (by repeat (first | (with_reducible exact Below.refl _ _) | (with_reducible refine Below.drew ?_) | (with_reducible refine Below.alloc ?_ ?hh _; case hh => first | (simp; done) | (simp; omega) | omega) | (with_reducible refine Below.setCell ?_ ?hh _; case hh => first | (simp; done) | (simp; omega) | omega) | refine bstep (by assumption) (by first | (simp; done) | (simp; omega) | omega) ?_)), hB.below (by repeat (first | (with_reducible exact Below.refl _ _) | (with_reducible refine Below.drew ?_) | (with_reducible refine Below.alloc ?_ ?hh _; case hh => first | (simp; done) | (simp; omega) | omega) | (with_reducible refine Below.setCell ?_ ?hh _; case hh => first | (simp; done) | (simp; omega) | omega) | refine bstep (by assumption) (by first | (simp; done) | (simp; omega) | omega) ?_))⟩
  clear hK
  refine wpAnyH_ready (rs := [3]) (by kernel_rfl) (by simp) ?_
  refine AllReadyH.cons rfl (fun K hK => ?_) AllReadyH.nil
  go_simp
  go_at_call 6
  refine Calls.mono (toSelect_of (toSelectS_any D d) q (.slice b_0 q.it.length b_c0) (.slice b_1 q.fr.length b_c1) (.slice b_2 q.wh.length b_c2) (.slice b_3 q.gr.length b_c3) (.slice b_4 q.su.length b_c4) (.slice b_5 q.ks.length b_c5) G _ (hs.below (by repeat (first | (with_reducible exact Below.refl _ _) | (with_reducible refine Below.drew ?_) | (with_reducible refine Below.alloc ?_ ?hh _; case hh => first | (simp; done) | (simp; omega) | omega) | (with_reducible refine Below.setCell ?_ ?hh _; case hh => first | (simp; done) | (simp; omega) | omega) | refine bstep (by assumption) (by first | (simp; done) | (simp; omega) | omega) ?_))) hnf) ?_
  rintro x w4 ⟨⟨ui4, uf4, uw4, ug4, um4, u4, F4, rfl, hU4, _⟩, hb4⟩
  obtain ⟨d_0, d_c0, d_1, d_c1, d_2, d_c2, d_3, d_c3, d_4, d_c4, d_5, d_c5, rfl, rfl, rfl, rfl, rfl, rfl, _, _, _, _, _, _, _, _, _, _, _, _⟩ := hU4.shape
  have hz4 := hb4.size
  (try simp at hz4)
  try go_wp2_with fail
  refine hK.out _ _ ?_ (fun hHeld3 => ?_)
  · exact ⟨hA.below (by repeat (first | (with_reducible exact Below.refl _ _) | (with_reducible refine Below.drew ?_) | (with_reducible refine Below.alloc ?_ ?hh _; case hh => first | (simp; done) | (simp; omega) | omega) | (with_reducible refine Below.setCell ?_ ?hh _; case hh => first | (simp; done) | (simp; omega) | omega) | refine bstep (by assumption) (by first | (simp; done) | (simp; omega) | omega) ?_)), hB.below (by repeat (first | (with_reducible exact Below.refl _ _) | (with_reducible refine Below.drew ?_) | (with_reducible refine Below.alloc ?_ ?hh _; case hh => first | (simp; done) | (simp; omega) | omega) | (with_reducible refine Below.setCell ?_ ?hh _; case hh => first | (simp; done) | (simp; omega) | omega) | refine bstep (by assumption) (by first | (simp; done) | (simp; omega) | omega) ?_))⟩
  clear hK
  refine wpAnyH_ready (rs := [4]) (by kernel_rfl) (by simp) ?_
  refine AllReadyH.cons rfl (fun K hK => ?_) AllReadyH.nil
  go_simp
  go_at_call 5
  refine Calls.mono (hSm p q (.slice c_0 p.it.length c_c0) (.slice c_1 p.fr.length c_c1) (.slice c_2 p.wh.length c_c2) (.slice c_3 p.gr.length c_c3) (.slice c_4 p.su.length c_c4) (.slice c_5 p.ks.length c_c5) (.slice d_0 q.it.length d_c0) (.slice d_1 q.fr.length d_c1) (.slice d_2 q.wh.length d_c2) (.slice d_3 q.gr.length d_c3) (.slice d_4 q.su.length d_c4) (.slice d_5 q.ks.length d_c5) F3 F4 _ (hU3.below (by repeat (first | (with_reducible exact Below.refl _ _) | (with_reducible refine Below.drew ?_) | (with_reducible refine Below.alloc ?_ ?hh _; case hh => first | (simp; done) | (simp; omega) | omega) | (with_reducible refine Below.setCell ?_ ?hh _; case hh => first | (simp; done) | (simp; omega) | omega) | refine bstep (by assumption) (by first | (simp; done) | (simp; omega) | omega) ?_))) (hU4.below (by repeat (first | (with_reducible exact Below.refl _ _) | (with_reducible refine Below.drew ?_) | (with_reducible refine Below.alloc ?_ ?hh _; case hh => first | (simp; done) | (simp; omega) | omega) | (with_reducible refine Below.setCell ?_ ?hh _; case hh => first | (simp; done) | (simp; omega) | omega) | refine bstep (by assumption) (by first | (simp; done) | (simp; omega) | omega) ?_)))) ?_
  rintro x w5 ⟨rfl, hb5⟩
  have hz5 := hb5.size
  (try simp at hz5)
  try go_wp2_with fail
  refine hK.out _ _ ?_ (fun hHeld4 => ?_)
  · exact ⟨hA.below (by repeat (first | (with_reducible exact Below.refl _ _) | (with_reducible refine Below.drew ?_) | (with_reducible refine Below.alloc ?_ ?hh _; case hh => first | (simp; done) | (simp; omega) | omega) | (with_reducible refine Below.setCell ?_ ?hh _; case hh => first | (simp; done) | (simp; omega) | omega) | refine bstep (by assumption) (by first | (simp; done) | (simp; omega) | omega) ?_)), hB.below (by repeat (first | (with_reducible exact Below.refl _ _) | (with_reducible refine Below.drew ?_) | (with_reducible refine Below.alloc ?_ ?hh _; case hh => first | (simp; done) | (simp; omega) | omega) | (with_reducible refine Below.setCell ?_ ?hh _; case hh => first | (simp; done) | (simp; omega) | omega) | refine bstep (by assumption) (by first | (simp; done) | (simp; omega) | omega) ?_))⟩
  clear hK
  refine takeYes (i := 5) (d := 6) (v := ?_) rfl rfl (by kernel_rfl) (by kernel_rfl) (by kernel_rfl) (fun _ _ _ h => h) (by rfl) (by assumption) ?_ ?_
  rotate_left
  · intro w' hSw; obtain ⟨⟨_, x0, x1, x2, x3, x4, x5, x6, x7⟩, ⟨_, y0, y1, y2, y3, y4, y5, y6, y7⟩⟩ := hSw; go_simp; try exact rfl
  try simp only [List.setIfInBounds_toArray, List.set_cons_zero, List.set_cons_succ]
  refine wpAnyH_done (by kernel_rfl) ?_ _
  have hbx : Below w2.heap.size w2 w5 := by repeat (first | (with_reducible exact Below.refl _ _) | (with_reducible refine Below.drew ?_) | (with_reducible refine Below.alloc ?_ ?hh _; case hh => first | (simp; done) | (simp; omega) | omega) | (with_reducible refine Below.setCell ?_ ?hh _; case hh => first | (simp; done) | (simp; omega) | omega) | refine bstep (by assumption) (by first | (simp; done) | (simp; omega) | omega) ?_)
  replace hA := hA.below hbx
  replace hB := hB.below hbx
  replace hr := hr.below hbx
  replace hs := hs.below hbx
  replace hbw : Below w.heap.size w w5 := hbw.trans (hbx.mono hzw)
  replace hzw := hbw.size
  clear hHeld hHeld1 hHeld3 hHeld4 hb3 hb4 hb5 hU3 hU4 hbx hz2 hz3 hz4 hz5
  have qx := hA; obtain ⟨lx, x0, x1, x2, x3, x4, x5, x6, x7⟩ := qx
  go_wp2_with fail
  refine Calls.mono (toSelect_of (toSelectS_any D d) p (.slice a_0 p.it.length a_c0) (.slice a_1 p.fr.length a_c1) (.slice a_2 p.wh.length a_c2) (.slice a_3 p.gr.length a_c3) (.slice a_4 p.su.length a_c4) (.slice a_5 p.ks.length a_c5) F _ hr hne) ?_
  rintro x w6 ⟨⟨ui6, uf6, uw6, ug6, um6, u6, F6, rfl, hU6, hO6⟩, hb6⟩
  obtain ⟨f_0, f_c0, f_1, f_c1, f_2, f_c2, f_3, f_c3, f_4, f_c4, f_5, f_c5, rfl, rfl, rfl, rfl, rfl, rfl, _, _, _, _, _, _, _, _, _, _, _, _⟩ := hU6.shape
  clear lx x0 x1 x2 x3 x4 x5 x6 x7
  have hbx := hb6
  replace hA := hA.below hbx
  replace hB := hB.below hbx
  replace hr := hr.below hbx
  replace hs := hs.below hbx
  replace hbw : Below w.heap.size w w6 := hbw.trans (hbx.mono hzw)
  replace hzw := hbw.size
  clear hb6 hbx
  have qy := hB; obtain ⟨ly, y0, y1, y2, y3, y4, y5, y6, y7⟩ := qy
  go_wp2_with fail
  refine Calls.mono (toSelect_of (toSelectS_any D d) q (.slice b_0 q.it.length b_c0) (.slice b_1 q.fr.length b_c1) (.slice b_2 q.wh.length b_c2) (.slice b_3 q.gr.length b_c3) (.slice b_4 q.su.length b_c4) (.slice b_5 q.ks.length b_c5) G _ (hs.below ?hb) hnf) ?_
  case hb => repeat (first | (with_reducible exact Below.refl _ _) | (with_reducible refine Below.drew ?_) | (with_reducible refine Below.alloc ?_ ?hh _; case hh => first | (simp; done) | (simp; omega) | omega) | (with_reducible refine Below.setCell ?_ ?hh _; case hh => first | (simp; done) | (simp; omega) | omega) | refine bstep (by assumption) (by first | (simp; done) | (simp; omega) | omega) ?_)
  rintro x w7 ⟨⟨ui7, uf7, uw7, ug7, um7, u7, F7, rfl, hU7, _⟩, hb7⟩
  obtain ⟨g_0, g_c0, g_1, g_c1, g_2, g_c2, g_3, g_c3, g_4, g_c4, g_5, g_c5, rfl, rfl, rfl, rfl, rfl, rfl, _, _, _, _, _, _, _, _, _, _, _, _⟩ := hU7.shape
  have hz7 := hb7.size
  simp only [World.size_alloc] at hz7
  clear ly y0 y1 y2 y3 y4 y5 y6 y7
  have hX : Box8 w7 w6.heap.size p (.slice f_0 p.it.length f_c0) (.slice f_1 p.fr.length f_c1) (.slice f_2 p.wh.length f_c2) (.slice f_3 p.gr.length f_c3) (.slice f_4 p.su.length f_c4) (.slice f_5 p.ks.length f_c5) := by refine ⟨by omega, ?_, ?_, ?_, ?_, ?_, ?_, ?_, ?_⟩ <;> exact cell_later hb7 (by go_simp)
  have hbx : Below w6.heap.size w6 w7 := by repeat (first | (with_reducible exact Below.refl _ _) | (with_reducible refine Below.drew ?_) | (with_reducible refine Below.alloc ?_ ?hh _; case hh => first | (simp; done) | (simp; omega) | omega) | (with_reducible refine Below.setCell ?_ ?hh _; case hh => first | (simp; done) | (simp; omega) | omega) | refine bstep (by assumption) (by first | (simp; done) | (simp; omega) | omega) ?_)
  have hO7 := hO6.below hU6.lt hbx
  replace hU6 := hU6.below hbx
  replace hA := hA.below hbx
  replace hB := hB.below hbx
  replace hr := hr.below hbx
  replace hs := hs.below hbx
  replace hbw : Below w.heap.size w w7 := hbw.trans (hbx.mono hzw)
  replace hzw := hbw.size
  clear hb7 hbx hO6
  have qx := hX; obtain ⟨lx, x0, x1, x2, x3, x4, x5, x6, x7⟩ := qx
  go_wp2_with fail
  have hY : Box8 (w7.alloc (.cells #[.bool q.d, .bool q.s, (.slice g_0 q.it.length g_c0), (.slice g_1 q.fr.length g_c1), (.slice g_2 q.wh.length g_c2), (.slice g_3 q.gr.length g_c3), (.slice g_4 q.su.length g_c4), (.slice g_5 q.ks.length g_c5)] 32)) w7.heap.size q (.slice g_0 q.it.length g_c0) (.slice g_1 q.fr.length g_c1) (.slice g_2 q.wh.length g_c2) (.slice g_3 q.gr.length g_c3) (.slice g_4 q.su.length g_c4) (.slice g_5 q.ks.length g_c5) := box8_new _ _ _ _ _ _ _ _ _
  have hb8a : Below w7.heap.size w7 (w7.alloc (.cells #[.bool q.d, .bool q.s, (.slice g_0 q.it.length g_c0), (.slice g_1 q.fr.length g_c1), (.slice g_2 q.wh.length g_c2), (.slice g_3 q.gr.length g_c3), (.slice g_4 q.su.length g_c4), (.slice g_5 q.ks.length g_c5)] 32)) := (Below.refl _ _).alloc (Nat.le_refl _) _
  refine Calls.mono (implSameQuery_any p q (.slice f_0 p.it.length f_c0) (.slice f_1 p.fr.length f_c1) (.slice f_2 p.wh.length f_c2) (.slice f_3 p.gr.length f_c3) (.slice f_4 p.su.length f_c4) (.slice f_5 p.ks.length f_c5) (.slice g_0 q.it.length g_c0) (.slice g_1 q.fr.length g_c1) (.slice g_2 q.wh.length g_c2) (.slice g_3 q.gr.length g_c3) (.slice g_4 q.su.length g_c4) (.slice g_5 q.ks.length g_c5) F6 F7 _ (hU6.below hb8a) (hU7.below hb8a) (hO7.below hU6.lt hb8a) hne) ?_
  rintro x w8 ⟨rfl, hb8⟩
  have hz8 := hb8.size
  simp only [World.size_alloc] at hz8
  replace hY := hY.below hb8
  have hbx : Below w7.heap.size w7 w8 := hb8a.trans (hb8.mono (by simp))
  replace hX := hX.below hbx
  replace hU6 := hU6.below hbx
  replace hU7 := hU7.below hbx
  replace hA := hA.below hbx
  replace hB := hB.below hbx
  replace hr := hr.below hbx
  replace hs := hs.below hbx
  replace hbw : Below w.heap.size w w8 := hbw.trans (hbx.mono hzw)
  replace hzw := hbw.size
  clear hb8 hb8a hbx hO7 lx x0 x1 x2 x3 x4 x5 x6 x7
  go_wp2_with fail
  refine wp_region_held_drew (S := (fun w' => Box8 w' w6.heap.size p (.slice f_0 p.it.length f_c0) (.slice f_1 p.fr.length f_c1) (.slice f_2 p.wh.length f_c2) (.slice f_3 p.gr.length f_c3) (.slice f_4 p.su.length f_c4) (.slice f_5 p.ks.length f_c5) ∧ Box8 w' w.heap.size p (.slice a_0 p.it.length a_c0) (.slice a_1 p.fr.length a_c1) (.slice a_2 p.wh.length a_c2) (.slice a_3 p.gr.length a_c3) (.slice a_4 p.su.length a_c4) (.slice a_5 p.ks.length a_c5))) (by kernel_rfl) ?_ (fun hHeld => ?_)
  · exact ⟨hX.below (by repeat (first | (with_reducible exact Below.refl _ _) | (with_reducible refine Below.drew ?_) | (with_reducible refine Below.alloc ?_ ?hh _; case hh => first | (simp; done) | (simp; omega) | omega) | (with_reducible refine Below.setCell ?_ ?hh _; case hh => first | (simp; done) | (simp; omega) | omega) | refine bstep (by assumption) (by first | (simp; done) | (simp; omega) | omega) ?_)), hA.below (by repeat (first | (with_reducible exact Below.refl _ _) | (with_reducible refine Below.drew ?_) | (with_reducible refine Below.alloc ?_ ?hh _; case hh => first | (simp; done) | (simp; omega) | omega) | (with_reducible refine Below.setCell ?_ ?hh _; case hh => first | (simp; done) | (simp; omega) | omega) | refine bstep (by assumption) (by first | (simp; done) | (simp; omega) | omega) ?_))⟩
  refine takeYes (i := 0) (d := 35) (v := ?_) rfl rfl (by kernel_rfl) (by kernel_rfl) (by kernel_rfl) (fun _ _ _ h => h) (by rfl) (by assumption) ?_ ?_
  rotate_left
  · intro w' hSw; obtain ⟨⟨_, x0, x1, x2, x3, x4, x5, x6, x7⟩, ⟨_, y0, y1, y2, y3, y4, y5, y6, y7⟩⟩ := hSw; go_simp; try exact rfl
  try simp only [List.setIfInBounds_toArray, List.set_cons_zero, List.set_cons_succ]
  refine takeYes (i := 1) (d := 36) (v := ?_) rfl rfl (by kernel_rfl) (by kernel_rfl) (by kernel_rfl) (fun _ _ _ h => h) (by rfl) (by assumption) ?_ ?_
  rotate_left
  · intro w' hSw; obtain ⟨⟨_, x0, x1, x2, x3, x4, x5, x6, x7⟩, ⟨_, y0, y1, y2, y3, y4, y5, y6, y7⟩⟩ := hSw; go_simp; try exact rfl
  try simp only [List.setIfInBounds_toArray, List.set_cons_zero, List.set_cons_succ]
  refine wpAnyH_ready (rs := [2]) (by kernel_rfl) (by simp) ?_
  refine AllReadyH.cons rfl (fun K hK => ?_) AllReadyH.nil
  go_simp
  go_at_call 6
  refine Calls.mono (toSelect_of (toSelectS_any D d) p (.slice a_0 p.it.length a_c0) (.slice a_1 p.fr.length a_c1) (.slice a_2 p.wh.length a_c2) (.slice a_3 p.gr.length a_c3) (.slice a_4 p.su.length a_c4) (.slice a_5 p.ks.length a_c5) F _ (hr.below (by repeat (first | (with_reducible exact Below.refl _ _) | (with_reducible refine Below.drew ?_) | (with_reducible refine Below.alloc ?_ ?hh _; case hh => first | (simp; done) | (simp; omega) | omega) | (with_reducible refine Below.setCell ?_ ?hh _; case hh => first | (simp; done) | (simp; omega) | omega) | refine bstep (by assumption) (by first | (simp; done) | (simp; omega) | omega) ?_))) hne) ?_
  rintro x w9 ⟨⟨ui9, uf9, uw9, ug9, um9, u9, F9, rfl, hU9, _⟩, hb9⟩
  obtain ⟨h_0, h_c0, h_1, h_c1, h_2, h_c2, h_3, h_c3, h_4, h_c4, h_5, h_c5, rfl, rfl, rfl, rfl, rfl, rfl, _, _, _, _, _, _, _, _, _, _, _, _⟩ := hU9.shape
  have hz9 := hb9.size
  (try simp at hz9)
  try go_wp2_with fail
  refine hK.out _ _ ?_ (fun hHeld2 => ?_)
  · exact ⟨hX.below (by repeat (first | (with_reducible exact Below.refl _ _) | (with_reducible refine Below.drew ?_) | (with_reducible refine Below.alloc ?_ ?hh _; case hh => first | (simp; done) | (simp; omega) | omega) | (with_reducible refine Below.setCell ?_ ?hh _; case hh => first | (simp; done) | (simp; omega) | omega) | refine bstep (by assumption) (by first | (simp; done) | (simp; omega) | omega) ?_)), hA.below (by repeat (first | (with_reducible exact Below.refl _ _) | (with_reducible refine Below.drew ?_) | (with_reducible refine Below.alloc ?_ ?hh _; case hh => first | (simp; done) | (simp; omega) | omega) | (with_reducible refine Below.setCell ?_ ?hh _; case hh => first | (simp; done) | (simp; omega) | omega) | refine bstep (by assumption) (by first | (simp; done) | (simp; omega) | omega) ?_))⟩
  clear hK
  refine wpAnyH_ready (rs := [3]) (by kernel_rfl) (by simp) ?_
  refine AllReadyH.cons rfl (fun K hK => ?_) AllReadyH.nil
  go_simp
  go_at_call 8
  refine Calls.mono (eqSelect_of (eqSelectS_any D d) p (.slice f_0 p.it.length f_c0) (.slice f_1 p.fr.length f_c1) (.slice f_2 p.wh.length f_c2) (.slice f_3 p.gr.length f_c3) (.slice f_4 p.su.length f_c4) (.slice f_5 p.ks.length f_c5) (.slice h_0 p.it.length h_c0) (.slice h_1 p.fr.length h_c1) (.slice h_2 p.wh.length h_c2) (.slice h_3 p.gr.length h_c3) (.slice h_4 p.su.length h_c4) (.slice h_5 p.ks.length h_c5) _ _ _ (hU6.below (by repeat (first | (with_reducible exact Below.refl _ _) | (with_reducible refine Below.drew ?_) | (with_reducible refine Below.alloc ?_ ?hh _; case hh => first | (simp; done) | (simp; omega) | omega) | (with_reducible refine Below.setCell ?_ ?hh _; case hh => first | (simp; done) | (simp; omega) | omega) | refine bstep (by assumption) (by first | (simp; done) | (simp; omega) | omega) ?_))) (hU9.below (by repeat (first | (with_reducible exact Below.refl _ _) | (with_reducible refine Below.drew ?_) | (with_reducible refine Below.alloc ?_ ?hh _; case hh => first | (simp; done) | (simp; omega) | omega) | (with_reducible refine Below.setCell ?_ ?hh _; case hh => first | (simp; done) | (simp; omega) | omega) | refine bstep (by assumption) (by first | (simp; done) | (simp; omega) | omega) ?_)))) ?_
  rintro x w10 ⟨rfl, hb10⟩
  have hz10 := hb10.size
  (try simp at hz10)
  try go_wp2_with fail
  refine hK.out _ _ ?_ (fun hHeld3 => ?_)
  · exact ⟨hX.below (by repeat (first | (with_reducible exact Below.refl _ _) | (with_reducible refine Below.drew ?_) | (with_reducible refine Below.alloc ?_ ?hh _; case hh => first | (simp; done) | (simp; omega) | omega) | (with_reducible refine Below.setCell ?_ ?hh _; case hh => first | (simp; done) | (simp; omega) | omega) | refine bstep (by assumption) (by first | (simp; done) | (simp; omega) | omega) ?_)), hA.below (by repeat (first | (with_reducible exact Below.refl _ _) | (with_reducible refine Below.drew ?_) | (with_reducible refine Below.alloc ?_ ?hh _; case hh => first | (simp; done) | (simp; omega) | omega) | (with_reducible refine Below.setCell ?_ ?hh _; case hh => first | (simp; done) | (simp; omega) | omega) | refine bstep (by assumption) (by first | (simp; done) | (simp; omega) | omega) ?_))⟩
  clear hK
  refine takeYes (i := 4) (d := 39) (v := ?_) rfl rfl (by kernel_rfl) (by kernel_rfl) (by kernel_rfl) (fun _ _ _ h => h) (by rfl) (by assumption) ?_ ?_
  rotate_left
  · intro w' hSw; obtain ⟨⟨_, x0, x1, x2, x3, x4, x5, x6, x7⟩, ⟨_, y0, y1, y2, y3, y4, y5, y6, y7⟩⟩ := hSw; go_simp; try exact rfl
  try simp only [List.setIfInBounds_toArray, List.set_cons_zero, List.set_cons_succ]
  refine wpAnyH_done (by kernel_rfl) ?_ _
  have hbx : Below w8.heap.size w8 w10 := by repeat (first | (with_reducible exact Below.refl _ _) | (with_reducible refine Below.drew ?_) | (with_reducible refine Below.alloc ?_ ?hh _; case hh => first | (simp; done) | (simp; omega) | omega) | (with_reducible refine Below.setCell ?_ ?hh _; case hh => first | (simp; done) | (simp; omega) | omega) | refine bstep (by assumption) (by first | (simp; done) | (simp; omega) | omega) ?_)
  replace hY := hY.below hbx
  replace hU7 := hU7.below hbx
  replace hA := hA.below hbx
  replace hB := hB.below hbx
  replace hr := hr.below hbx
  replace hs := hs.below hbx
  replace hbw : Below w.heap.size w w10 := hbw.trans (hbx.mono hzw)
  replace hzw := hbw.size
  clear hHeld hHeld2 hHeld3 hb9 hb10 hbx hU9 hU6 hX
  go_wp2_with fail
  refine wp_region_held_drew (S := (fun w' => Box8 w' w7.heap.size q (.slice g_0 q.it.length g_c0) (.slice g_1 q.fr.length g_c1) (.slice g_2 q.wh.length g_c2) (.slice g_3 q.gr.length g_c3) (.slice g_4 q.su.length g_c4) (.slice g_5 q.ks.length g_c5) ∧ Box8 w' (w.heap.size + 1) q (.slice b_0 q.it.length b_c0) (.slice b_1 q.fr.length b_c1) (.slice b_2 q.wh.length b_c2) (.slice b_3 q.gr.length b_c3) (.slice b_4 q.su.length b_c4) (.slice b_5 q.ks.length b_c5))) (by kernel_rfl) ?_ (fun hHeld => ?_)
  · exact ⟨hY.below (by repeat (first | (with_reducible exact Below.refl _ _) | (with_reducible refine Below.drew ?_) | (with_reducible refine Below.alloc ?_ ?hh _; case hh => first | (simp; done) | (simp; omega) | omega) | (with_reducible refine Below.setCell ?_ ?hh _; case hh => first | (simp; done) | (simp; omega) | omega) | refine bstep (by assumption) (by first | (simp; done) | (simp; omega) | omega) ?_)), hB.below (by repeat (first | (with_reducible exact Below.refl _ _) | (with_reducible refine Below.drew ?_) | (with_reducible refine Below.alloc ?_ ?hh _; case hh => first | (simp; done) | (simp; omega) | omega) | (with_reducible refine Below.setCell ?_ ?hh _; case hh => first | (simp; done) | (simp; omega) | omega) | refine bstep (by assumption) (by first | (simp; done) | (simp; omega) | omega) ?_))⟩
  refine takeYes (i := 0) (d := 40) (v := ?_) rfl rfl (by kernel_rfl) (by kernel_rfl) (by kernel_rfl) (fun _ _ _ h => h) (by rfl) (by assumption) ?_ ?_
  rotate_left
  · intro w' hSw; obtain ⟨⟨_, x0, x1, x2, x3, x4, x5, x6, x7⟩, ⟨_, y0, y1, y2, y3, y4, y5, y6, y7⟩⟩ := hSw; go_simp; try exact rfl
  try simp only [List.setIfInBounds_toArray, List.set_cons_zero, List.set_cons_succ]
  refine takeYes (i := 1) (d := 41) (v := ?_) rfl rfl (by kernel_rfl) (by kernel_rfl) (by kernel_rfl) (fun _ _ _ h => h) (by rfl) (by assumption) ?_ ?_
  rotate_left
  · intro w' hSw; obtain ⟨⟨_, x0, x1, x2, x3, x4, x5, x6, x7⟩, ⟨_, y0, y1, y2, y3, y4, y5, y6, y7⟩⟩ := hSw; go_simp; try exact rfl
  try simp only [List.setIfInBounds_toArray, List.set_cons_zero, List.set_cons_succ]
  refine wpAnyH_ready (rs := [2]) (by kernel_rfl) (by simp) ?_
  refine AllReadyH.cons rfl (fun K hK => ?_) AllReadyH.nil
  go_simp
  go_at_call 6
  refine Calls.mono (toSelect_of (toSelectS_any D d) q (.slice b_0 q.it.length b_c0) (.slice b_1 q.fr.length b_c1) (.slice b_2 q.wh.length b_c2) (.slice b_3 q.gr.length b_c3) (.slice b_4 q.su.length b_c4) (.slice b_5 q.ks.length b_c5) G _ (hs.below (by repeat (first | (with_reducible exact Below.refl _ _) | (with_reducible refine Below.drew ?_) | (with_reducible refine Below.alloc ?_ ?hh _; case hh => first | (simp; done) | (simp; omega) | omega) | (with_reducible refine Below.setCell ?_ ?hh _; case hh => first | (simp; done) | (simp; omega) | omega) | refine bstep (by assumption) (by first | (simp; done) | (simp; omega) | omega) ?_))) hnf) ?_
  rintro x w11 ⟨⟨ui11, uf11, uw11, ug11, um11, u11, F11, rfl, hU11, _⟩, hb11⟩
  obtain ⟨i_0, i_c0, i_1, i_c1, i_2, i_c2, i_3, i_c3, i_4, i_c4, i_5, i_c5, rfl, rfl, rfl, rfl, rfl, rfl, _, _, _, _, _, _, _, _, _, _, _, _⟩ := hU11.shape
  have hz11 := hb11.size
  (try simp at hz11)
  try go_wp2_with fail
  refine hK.out _ _ ?_ (fun hHeld2 => ?_)
  · exact ⟨hY.below (by repeat (first | (with_reducible exact Below.refl _ _) | (with_reducible refine Below.drew ?_) | (with_reducible refine Below.alloc ?_ ?hh _; case hh => first | (simp; done) | (simp; omega) | omega) | (with_reducible refine Below.setCell ?_ ?hh _; case hh => first | (simp; done) | (simp; omega) | omega) | refine bstep (by assumption) (by first | (simp; done) | (simp; omega) | omega) ?_)), hB.below (by repeat (first | (with_reducible exact Below.refl _ _) | (with_reducible refine Below.drew ?_) | (with_reducible refine Below.alloc ?_ ?hh _; case hh => first | (simp; done) | (simp; omega) | omega) | (with_reducible refine Below.setCell ?_ ?hh _; case hh => first | (simp; done) | (simp; omega) | omega) | refine bstep (by assumption) (by first | (simp; done) | (simp; omega) | omega) ?_))⟩
  clear hK
  refine wpAnyH_ready (rs := [3]) (by kernel_rfl) (by simp) ?_
  refine AllReadyH.cons rfl (fun K hK => ?_) AllReadyH.nil
  go_simp
  go_at_call 8
  refine Calls.mono (eqSelect_of (eqSelectS_any D d) q (.slice g_0 q.it.length g_c0) (.slice g_1 q.fr.length g_c1) (.slice g_2 q.wh.length g_c2) (.slice g_3 q.gr.length g_c3) (.slice g_4 q.su.length g_c4) (.slice g_5 q.ks.length g_c5) (.slice i_0 q.it.length i_c0) (.slice i_1 q.fr.length i_c1) (.slice i_2 q.wh.length i_c2) (.slice i_3 q.gr.length i_c3) (.slice i_4 q.su.length i_c4) (.slice i_5 q.ks.length i_c5) _ _ _ (hU7.below (by repeat (first | (with_reducible exact Below.refl _ _) | (with_reducible refine Below.drew ?_) | (with_reducible refine Below.alloc ?_ ?hh _; case hh => first | (simp; done) | (simp; omega) | omega) | (with_reducible refine Below.setCell ?_ ?hh _; case hh => first | (simp; done) | (simp; omega) | omega) | refine bstep (by assumption) (by first | (simp; done) | (simp; omega) | omega) ?_))) (hU11.below (by repeat (first | (with_reducible exact Below.refl _ _) | (with_reducible refine Below.drew ?_) | (with_reducible refine Below.alloc ?_ ?hh _; case hh => first | (simp; done) | (simp; omega) | omega) | (with_reducible refine Below.setCell ?_ ?hh _; case hh => first | (simp; done) | (simp; omega) | omega) | refine bstep (by assumption) (by first | (simp; done) | (simp; omega) | omega) ?_)))) ?_
  rintro x w12 ⟨rfl, hb12⟩
  have hz12 := hb12.size
  (try simp at hz12)
  try go_wp2_with fail
  refine hK.out _ _ ?_ (fun hHeld3 => ?_)
  · exact ⟨hY.below (by repeat (first | (with_reducible exact Below.refl _ _) | (with_reducible refine Below.drew ?_) | (with_reducible refine Below.alloc ?_ ?hh _; case hh => first | (simp; done) | (simp; omega) | omega) | (with_reducible refine Below.setCell ?_ ?hh _; case hh => first | (simp; done) | (simp; omega) | omega) | refine bstep (by assumption) (by first | (simp; done) | (simp; omega) | omega) ?_)), hB.below (by repeat (first | (with_reducible exact Below.refl _ _) | (with_reducible refine Below.drew ?_) | (with_reducible refine Below.alloc ?_ ?hh _; case hh => first | (simp; done) | (simp; omega) | omega) | (with_reducible refine Below.setCell ?_ ?hh _; case hh => first | (simp; done) | (simp; omega) | omega) | refine bstep (by assumption) (by first | (simp; done) | (simp; omega) | omega) ?_))⟩
  clear hK
  refine takeYes (i := 4) (d := 44) (v := ?_) rfl rfl (by kernel_rfl) (by kernel_rfl) (by kernel_rfl) (fun _ _ _ h => h) (by rfl) (by assumption) ?_ ?_
  rotate_left
  · intro w' hSw; obtain ⟨⟨_, x0, x1, x2, x3, x4, x5, x6, x7⟩, ⟨_, y0, y1, y2, y3, y4, y5, y6, y7⟩⟩ := hSw; go_simp; try exact rfl
  try simp only [List.setIfInBounds_toArray, List.set_cons_zero, List.set_cons_succ]
  refine wpAnyH_done (by kernel_rfl) ?_ _
  go_wp2
  go_returns
  exact ⟨rfl, by repeat (first | (with_reducible exact Below.refl _ _) | (with_reducible refine Below.drew ?_) | (with_reducible refine Below.alloc ?_ ?hh _; case hh => first | (simp; done) | (simp; omega) | omega) | (with_reducible refine Below.setCell ?_ ?hh _; case hh => first | (simp; done) | (simp; omega) | omega) | refine bstep (by assumption) (by first | (simp; done) | (simp; omega) | omega) ?_)⟩
theorem walk (p : S8) (ui uf uw ug um u : Value) (F : List Nat) (D d : Nat) (hw : p.wf) (q : S8) (ui' uf' uw' ug' um' u' : Value) (G : List Nat) (E e : Nat) (hw' : q.wf) (w : World) (hr : ListsQ w D (SelsIs w D d) p ui uf uw ug um u F) (hs : ListsQ w E (SelsIs w E e) q ui' uf' uw' ug' um' u' G) :
    Calls Try.prog 3 #[(.agg #[.bool p.d, .bool p.s, ui, uf, uw, ug, um, u]), (.agg #[.bool q.d, .bool q.s, ui', uf', uw', ug', um', u'])] w fun x w' => x = .returned (.bool true) ∧ Below w.heap.size w w' :=
  walk0 p ui uf uw ug um u F q ui' uf' uw' ug' um' u' G (max D E + 1) (max d e) hw hw' (smQ_any _ _) w (hr.up (by omega) (by omega)) (hs.up (by omega) (by omega))
end Go.Proofs.Ytmheiehhdmajfaa.fnExactSameQuery
