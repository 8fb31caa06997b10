/- Own text. The walk of the statement on SamePlan. -/
import Derived.Test.YtflnkfjjjacjbaaSmpI
import Derived.Test.YtflnkfjjjacjbaaTake
import Derived.WalkKit
import Derived.WalkSpells
import Derived.WalkLawsBesides
import Derived.Handy
import Derived.Below
import Derived.Deep.RegionHeld3
import Derived.Deep.DeepCutAuto
namespace Go.Proofs.Ytflnkfjjjacjbaa.fnExactSamePlan
open Go.RowKit
set_option linter.unusedVariables false
set_option maxHeartbeats 8000000 in
set_option maxRecDepth 100000 in
theorem walk0 (p : P12) (ue us u : Value) (F : List Nat) (q : P12) (ue' us' u' : Value) (G : List Nat) (D d : Nat) (hw : p.wf) (hw' : q.wf) (hSm : SmP D d) (w : World) (hr : ListsP w D (PlansIs w D d) p ue us u F) (hs : ListsP w D (PlansIs w D d) q ue' us' u' G) :
    Calls Try.prog 3 #[(.agg #[.int .i64 p.k, .string p.s, .int .i64 p.e.k, .int .i64 p.e.n, .int .i64 p.e.v.k, .int .i64 p.e.v.n, .string p.e.v.s, .string p.e.p, ue, us, .int .i64 p.n, u]), (.agg #[.int .i64 q.k, .string q.s, .int .i64 q.e.k, .int .i64 q.e.n, .int .i64 q.e.v.k, .int .i64 q.e.v.n, .string q.e.v.s, .string q.e.p, ue', us', .int .i64 q.n, u'])] w fun x w' => x = .returned (.bool true) ∧ Below w.heap.size w w' := by
  obtain ⟨a_e, a_E, a_s, a_S, a_k, a_K, rfl, rfl, rfl, _, _, _, _, _, _⟩ := hr.shape
  obtain ⟨b_e, b_E, b_s, b_S, b_k, b_K, rfl, rfl, rfl, _, _, _, _, _, _⟩ := hs.shape
  go_enter Try.func3, Try.ntmps3
  go_wp2_with fail
  refine Calls.mono (szPlan_of (szPlanS_any D d) p (.slice a_e p.e.ks.length a_E) (.slice a_s p.es.length a_S) (.slice a_k p.ks.length a_K) F 1048576 _ hw (hr.below ?hb) (by decide) (by decide)) ?_
  case hb => repeat (first | (with_reducible exact Below.refl _ _) | (with_reducible refine Below.drew ?_) | (with_reducible refine Below.alloc ?_ ?hh _; case hh => first | (simp; done) | (simp; omega) | omega) | (with_reducible refine Below.setCell ?_ ?hh _; case hh => first | (simp; done) | (simp; omega) | omega) | refine bstep (by assumption) (by first | (simp; done) | (simp; omega) | omega) ?_)
  rintro x w1 ⟨⟨z1, rfl, l1, g1, s1⟩, hb1⟩
  have hz1 := hb1.size
  simp only [World.size_alloc] at hz1
  have hA : Box12 w1 w.heap.size p (.slice a_e p.e.ks.length a_E) (.slice a_s p.es.length a_S) (.slice a_k p.ks.length a_K) := by refine ⟨by omega, ?_, ?_, ?_, ?_, ?_, ?_, ?_, ?_, ?_, ?_, ?_, ?_⟩ <;> exact cell_later hb1 (by go_simp)
  have hB : Box12 w1 (w.heap.size + 1) q (.slice b_e q.e.ks.length b_E) (.slice b_s q.es.length b_S) (.slice b_k q.ks.length b_K) := by refine ⟨by omega, ?_, ?_, ?_, ?_, ?_, ?_, ?_, ?_, ?_, ?_, ?_, ?_⟩ <;> exact cell_later hb1 (by go_simp)
  have hbw : Below w.heap.size w w1 := by repeat (first | (with_reducible exact Below.refl _ _) | (with_reducible refine Below.drew ?_) | (with_reducible refine Below.alloc ?_ ?hh _; case hh => first | (simp; done) | (simp; omega) | omega) | (with_reducible refine Below.setCell ?_ ?hh _; case hh => first | (simp; done) | (simp; omega) | omega) | refine bstep (by assumption) (by first | (simp; done) | (simp; omega) | omega) ?_)
  have hzw := hbw.size
  replace hr := hr.below hbw
  replace hs := hs.below hbw
  have qy := hB; obtain ⟨ly, y0, y1, y2, y3, y4, y5, y6, y7, y8, y9, y10, y11⟩ := qy
  by_cases hn1 : z1 < 0
  · go_wp2_with fail
    go_returns
    exact ⟨rfl, hbw⟩
  have hn := s1 (by omega)
  clear s1 hb1
  go_wp2_with fail
  refine Calls.mono (szPlan_of (szPlanS_any D d) q (.slice b_e q.e.ks.length b_E) (.slice b_s q.es.length b_S) (.slice b_k q.ks.length b_K) G z1 _ hw' hs (by omega) (by omega)) ?_
  rintro x w2 ⟨⟨z2, rfl, l2, g2, s2⟩, hb2⟩
  have hz2 := hb2.size
  clear ly y0 y1 y2 y3 y4 y5 y6 y7 y8 y9 y10 y11
  have hbx := hb2
  replace hA := hA.below hbx
  replace hB := hB.below hbx
  replace hr := hr.below hbx
  replace hs := hs.below hbx
  replace hbw : Below w.heap.size w w2 := hbw.trans (hbx.mono hzw)
  replace hzw := hbw.size
  clear hbx
  by_cases hn2 : z2 < 0
  · go_wp2_with fail
    go_returns
    exact ⟨rfl, hbw⟩
  have hn' := s2 (by omega)
  have hne : wtP p ≤ 1048576 := by omega
  have hnf : wtP q ≤ 1048576 := by omega
  clear s2 hb2
  go_wp2_with fail
  refine wp_region_held_drew (S := (fun w' => Box12 w' w.heap.size p (.slice a_e p.e.ks.length a_E) (.slice a_s p.es.length a_S) (.slice a_k p.ks.length a_K) ∧ Box12 w' (w.heap.size + 1) q (.slice b_e q.e.ks.length b_E) (.slice b_s q.es.length b_S) (.slice b_k q.ks.length b_K))) (by kernel_rfl) ?_ (fun hHeld => ?_)
  · exact ⟨hA.below (by repeat (first | (with_reducible exact Below.refl _ _) | (with_reducible refine Below.drew ?_) | (with_reducible refine Below.alloc ?_ ?hh _; case hh => first | (simp; done) | (simp; omega) | omega) | (with_reducible refine Below.setCell ?_ ?hh _; case hh => first | (simp; done) | (simp; omega) | omega) | refine bstep (by assumption) (by first | (simp; done) | (simp; omega) | omega) ?_)), hB.below (by repeat (first | (with_reducible exact Below.refl _ _) | (with_reducible refine Below.drew ?_) | (with_reducible refine Below.alloc ?_ ?hh _; case hh => first | (simp; done) | (simp; omega) | omega) | (with_reducible refine Below.setCell ?_ ?hh _; case hh => first | (simp; done) | (simp; omega) | omega) | refine bstep (by assumption) (by first | (simp; done) | (simp; omega) | omega) ?_))⟩
  refine takeYes (i := 0) (d := 20) (v := ?_) rfl rfl (by kernel_rfl) (by kernel_rfl) (by kernel_rfl) (fun _ _ _ h => h) (by rfl) (by assumption) ?_ ?_
  rotate_left
  · intro w' hSw; obtain ⟨⟨_, x0, x1, x2, x3, x4, x5, x6, x7, x8, x9, x10, x11⟩, ⟨_, y0, y1, y2, y3, y4, y5, y6, y7, y8, y9, y10, y11⟩⟩ := hSw; go_simp; try exact rfl
  try simp only [List.setIfInBounds_toArray, List.set_cons_zero, List.set_cons_succ]
  refine takeYes (i := 2) (d := 22) (v := ?_) rfl rfl (by kernel_rfl) (by kernel_rfl) (by kernel_rfl) (fun _ _ _ h => h) (by rfl) (by assumption) ?_ ?_
  rotate_left
  · intro w' hSw; obtain ⟨⟨_, x0, x1, x2, x3, x4, x5, x6, x7, x8, x9, x10, x11⟩, ⟨_, y0, y1, y2, y3, y4, y5, y6, y7, y8, y9, y10, y11⟩⟩ := hSw; go_simp; try exact rfl
  try simp only [List.setIfInBounds_toArray, List.set_cons_zero, List.set_cons_succ]
  refine wpAnyH_ready (rs := [1]) (by kernel_rfl) (by simp) ?_
  refine AllReadyH.cons rfl (fun K hK => ?_) AllReadyH.nil
  go_simp
  go_at_call 6
  refine Calls.mono (toPlan_of (toPlanS_any D d) p (.slice a_e p.e.ks.length a_E) (.slice a_s p.es.length a_S) (.slice a_k p.ks.length a_K) F _ (hr.below (by repeat (first | (with_reducible exact Below.refl _ _) | (with_reducible refine Below.drew ?_) | (with_reducible refine Below.alloc ?_ ?hh _; case hh => first | (simp; done) | (simp; omega) | omega) | (with_reducible refine Below.setCell ?_ ?hh _; case hh => first | (simp; done) | (simp; omega) | omega) | refine bstep (by assumption) (by first | (simp; done) | (simp; omega) | omega) ?_))) hne) ?_
  rintro x w3 ⟨⟨ue3, us3, u3, F3, rfl, hU3, _⟩, hb3⟩
  obtain ⟨c_e, c_E, c_s, c_S, c_k, c_K, rfl, rfl, rfl, _, _, _, _, _, _⟩ := hU3.shape
  have hz3 := hb3.size
  (try simp at hz3)
  try go_wp2_with fail
  refine hK.out _ _ ?_ (fun hHeld1 => ?_)
  · exact ⟨hA.below (by repeat (first | (with_reducible exact Below.refl _ _) | (with_reducible refine Below.drew ?_) | (with_reducible refine Below.alloc ?_ ?hh _; case hh => first | (simp; done) | (simp; omega) | omega) | (with_reducible refine Below.setCell ?_ ?hh _; case hh => first | (simp; done) | (simp; omega) | omega) | refine bstep (by assumption) (by first | (simp; done) | (simp; omega) | omega) ?_)), hB.below (by repeat (first | (with_reducible exact Below.refl _ _) | (with_reducible refine Below.drew ?_) | (with_reducible refine Below.alloc ?_ ?hh _; case hh => first | (simp; done) | (simp; omega) | omega) | (with_reducible refine Below.setCell ?_ ?hh _; case hh => first | (simp; done) | (simp; omega) | omega) | refine bstep (by assumption) (by first | (simp; done) | (simp; omega) | omega) ?_))⟩
  clear hK
  refine wpAnyH_ready (rs := [3]) (by kernel_rfl) (by simp) ?_
  refine AllReadyH.cons rfl (fun K hK => ?_) AllReadyH.nil
  go_simp
  go_at_call 6
  refine Calls.mono (toPlan_of (toPlanS_any D d) q (.slice b_e q.e.ks.length b_E) (.slice b_s q.es.length b_S) (.slice b_k q.ks.length b_K) G _ (hs.below (by repeat (first | (with_reducible exact Below.refl _ _) | (with_reducible refine Below.drew ?_) | (with_reducible refine Below.alloc ?_ ?hh _; case hh => first | (simp; done) | (simp; omega) | omega) | (with_reducible refine Below.setCell ?_ ?hh _; case hh => first | (simp; done) | (simp; omega) | omega) | refine bstep (by assumption) (by first | (simp; done) | (simp; omega) | omega) ?_))) hnf) ?_
  rintro x w4 ⟨⟨ue4, us4, u4, F4, rfl, hU4, _⟩, hb4⟩
  obtain ⟨d_e, d_E, d_s, d_S, d_k, d_K, rfl, rfl, rfl, _, _, _, _, _, _⟩ := hU4.shape
  have hz4 := hb4.size
  (try simp at hz4)
  try go_wp2_with fail
  refine hK.out _ _ ?_ (fun hHeld3 => ?_)
  · exact ⟨hA.below (by repeat (first | (with_reducible exact Below.refl _ _) | (with_reducible refine Below.drew ?_) | (with_reducible refine Below.alloc ?_ ?hh _; case hh => first | (simp; done) | (simp; omega) | omega) | (with_reducible refine Below.setCell ?_ ?hh _; case hh => first | (simp; done) | (simp; omega) | omega) | refine bstep (by assumption) (by first | (simp; done) | (simp; omega) | omega) ?_)), hB.below (by repeat (first | (with_reducible exact Below.refl _ _) | (with_reducible refine Below.drew ?_) | (with_reducible refine Below.alloc ?_ ?hh _; case hh => first | (simp; done) | (simp; omega) | omega) | (with_reducible refine Below.setCell ?_ ?hh _; case hh => first | (simp; done) | (simp; omega) | omega) | refine bstep (by assumption) (by first | (simp; done) | (simp; omega) | omega) ?_))⟩
  clear hK
  refine wpAnyH_ready (rs := [4]) (by kernel_rfl) (by simp) ?_
  refine AllReadyH.cons rfl (fun K hK => ?_) AllReadyH.nil
  go_simp
  go_at_call 5
  refine Calls.mono (hSm p q (.slice c_e p.e.ks.length c_E) (.slice c_s p.es.length c_S) (.slice c_k p.ks.length c_K) (.slice d_e q.e.ks.length d_E) (.slice d_s q.es.length d_S) (.slice d_k q.ks.length d_K) F3 F4 _ (hU3.below (by repeat (first | (with_reducible exact Below.refl _ _) | (with_reducible refine Below.drew ?_) | (with_reducible refine Below.alloc ?_ ?hh _; case hh => first | (simp; done) | (simp; omega) | omega) | (with_reducible refine Below.setCell ?_ ?hh _; case hh => first | (simp; done) | (simp; omega) | omega) | refine bstep (by assumption) (by first | (simp; done) | (simp; omega) | omega) ?_))) (hU4.below (by repeat (first | (with_reducible exact Below.refl _ _) | (with_reducible refine Below.drew ?_) | (with_reducible refine Below.alloc ?_ ?hh _; case hh => first | (simp; done) | (simp; omega) | omega) | (with_reducible refine Below.setCell ?_ ?hh _; case hh => first | (simp; done) | (simp; omega) | omega) | refine bstep (by assumption) (by first | (simp; done) | (simp; omega) | omega) ?_)))) ?_
  rintro x w5 ⟨rfl, hb5⟩
  have hz5 := hb5.size
  (try simp at hz5)
  try go_wp2_with fail
  refine hK.out _ _ ?_ (fun hHeld4 => ?_)
  · exact ⟨hA.below (by repeat (first | (with_reducible exact Below.refl _ _) | (with_reducible refine Below.drew ?_) | (with_reducible refine Below.alloc ?_ ?hh _; case hh => first | (simp; done) | (simp; omega) | omega) | (with_reducible refine Below.setCell ?_ ?hh _; case hh => first | (simp; done) | (simp; omega) | omega) | refine bstep (by assumption) (by first | (simp; done) | (simp; omega) | omega) ?_)), hB.below (by repeat (first | (with_reducible exact Below.refl _ _) | (with_reducible refine Below.drew ?_) | (with_reducible refine Below.alloc ?_ ?hh _; case hh => first | (simp; done) | (simp; omega) | omega) | (with_reducible refine Below.setCell ?_ ?hh _; case hh => first | (simp; done) | (simp; omega) | omega) | refine bstep (by assumption) (by first | (simp; done) | (simp; omega) | omega) ?_))⟩
  clear hK
  refine takeYes (i := 5) (d := 6) (v := ?_) rfl rfl (by kernel_rfl) (by kernel_rfl) (by kernel_rfl) (fun _ _ _ h => h) (by rfl) (by assumption) ?_ ?_
  rotate_left
  · intro w' hSw; obtain ⟨⟨_, x0, x1, x2, x3, x4, x5, x6, x7, x8, x9, x10, x11⟩, ⟨_, y0, y1, y2, y3, y4, y5, y6, y7, y8, y9, y10, y11⟩⟩ := hSw; go_simp; try exact rfl
  try simp only [List.setIfInBounds_toArray, List.set_cons_zero, List.set_cons_succ]
  refine wpAnyH_done (by kernel_rfl) ?_ _
  have hbx : Below w2.heap.size w2 w5 := by repeat (first | (with_reducible exact Below.refl _ _) | (with_reducible refine Below.drew ?_) | (with_reducible refine Below.alloc ?_ ?hh _; case hh => first | (simp; done) | (simp; omega) | omega) | (with_reducible refine Below.setCell ?_ ?hh _; case hh => first | (simp; done) | (simp; omega) | omega) | refine bstep (by assumption) (by first | (simp; done) | (simp; omega) | omega) ?_)
  replace hA := hA.below hbx
  replace hB := hB.below hbx
  replace hr := hr.below hbx
  replace hs := hs.below hbx
  replace hbw : Below w.heap.size w w5 := hbw.trans (hbx.mono hzw)
  replace hzw := hbw.size
  clear hHeld hHeld1 hHeld3 hHeld4 hb3 hb4 hb5 hU3 hU4 hbx hz2 hz3 hz4 hz5
  have qx := hA; obtain ⟨lx, x0, x1, x2, x3, x4, x5, x6, x7, x8, x9, x10, x11⟩ := qx
  go_wp2_with fail
  refine Calls.mono (toPlan_of (toPlanS_any D d) p (.slice a_e p.e.ks.length a_E) (.slice a_s p.es.length a_S) (.slice a_k p.ks.length a_K) F _ hr hne) ?_
  rintro x w6 ⟨⟨ue6, us6, u6, F6, rfl, hU6, hO6⟩, hb6⟩
  obtain ⟨f_e, f_E, f_s, f_S, f_k, f_K, rfl, rfl, rfl, _, _, _, _, _, _⟩ := hU6.shape
  clear lx x0 x1 x2 x3 x4 x5 x6 x7 x8 x9 x10 x11
  have hbx := hb6
  replace hA := hA.below hbx
  replace hB := hB.below hbx
  replace hr := hr.below hbx
  replace hs := hs.below hbx
  replace hbw : Below w.heap.size w w6 := hbw.trans (hbx.mono hzw)
  replace hzw := hbw.size
  clear hb6 hbx
  have qy := hB; obtain ⟨ly, y0, y1, y2, y3, y4, y5, y6, y7, y8, y9, y10, y11⟩ := qy
  go_wp2_with fail
  refine Calls.mono (toPlan_of (toPlanS_any D d) q (.slice b_e q.e.ks.length b_E) (.slice b_s q.es.length b_S) (.slice b_k q.ks.length b_K) G _ (hs.below ?hb) hnf) ?_
  case hb => repeat (first | (with_reducible exact Below.refl _ _) | (with_reducible refine Below.drew ?_) | (with_reducible refine Below.alloc ?_ ?hh _; case hh => first | (simp; done) | (simp; omega) | omega) | (with_reducible refine Below.setCell ?_ ?hh _; case hh => first | (simp; done) | (simp; omega) | omega) | refine bstep (by assumption) (by first | (simp; done) | (simp; omega) | omega) ?_)
  rintro x w7 ⟨⟨ue7, us7, u7, F7, rfl, hU7, _⟩, hb7⟩
  obtain ⟨g_e, g_E, g_s, g_S, g_k, g_K, rfl, rfl, rfl, _, _, _, _, _, _⟩ := hU7.shape
  have hz7 := hb7.size
  simp only [World.size_alloc] at hz7
  clear ly y0 y1 y2 y3 y4 y5 y6 y7 y8 y9 y10 y11
  have hX : Box12 w7 w6.heap.size p (.slice f_e p.e.ks.length f_E) (.slice f_s p.es.length f_S) (.slice f_k p.ks.length f_K) := by refine ⟨by omega, ?_, ?_, ?_, ?_, ?_, ?_, ?_, ?_, ?_, ?_, ?_, ?_⟩ <;> exact cell_later hb7 (by go_simp)
  have hbx : Below w6.heap.size w6 w7 := by repeat (first | (with_reducible exact Below.refl _ _) | (with_reducible refine Below.drew ?_) | (with_reducible refine Below.alloc ?_ ?hh _; case hh => first | (simp; done) | (simp; omega) | omega) | (with_reducible refine Below.setCell ?_ ?hh _; case hh => first | (simp; done) | (simp; omega) | omega) | refine bstep (by assumption) (by first | (simp; done) | (simp; omega) | omega) ?_)
  have hO7 := hO6.below hU6.lt hbx
  replace hU6 := hU6.below hbx
  replace hA := hA.below hbx
  replace hB := hB.below hbx
  replace hr := hr.below hbx
  replace hs := hs.below hbx
  replace hbw : Below w.heap.size w w7 := hbw.trans (hbx.mono hzw)
  replace hzw := hbw.size
  clear hb7 hbx hO6
  have qx := hX; obtain ⟨lx, x0, x1, x2, x3, x4, x5, x6, x7, x8, x9, x10, x11⟩ := qx
  go_wp2_with fail
  have hY : Box12 (w7.alloc (.cells #[.int .i64 q.k, .string q.s, .int .i64 q.e.k, .int .i64 q.e.n, .int .i64 q.e.v.k, .int .i64 q.e.v.n, .string q.e.v.s, .string q.e.p, (.slice g_e q.e.ks.length g_E), (.slice g_s q.es.length g_S), .int .i64 q.n, (.slice g_k q.ks.length g_K)] 38)) w7.heap.size q (.slice g_e q.e.ks.length g_E) (.slice g_s q.es.length g_S) (.slice g_k q.ks.length g_K) := box12_new _ _ _ _ _ _
  have hb8a : Below w7.heap.size w7 (w7.alloc (.cells #[.int .i64 q.k, .string q.s, .int .i64 q.e.k, .int .i64 q.e.n, .int .i64 q.e.v.k, .int .i64 q.e.v.n, .string q.e.v.s, .string q.e.p, (.slice g_e q.e.ks.length g_E), (.slice g_s q.es.length g_S), .int .i64 q.n, (.slice g_k q.ks.length g_K)] 38)) := (Below.refl _ _).alloc (Nat.le_refl _) _
  refine Calls.mono (implSamePlan_any p q (.slice f_e p.e.ks.length f_E) (.slice f_s p.es.length f_S) (.slice f_k p.ks.length f_K) (.slice g_e q.e.ks.length g_E) (.slice g_s q.es.length g_S) (.slice g_k q.ks.length g_K) F6 F7 _ (hU6.below hb8a) (hU7.below hb8a) (hO7.below hU6.lt hb8a) hne) ?_
  rintro x w8 ⟨rfl, hb8⟩
  have hz8 := hb8.size
  simp only [World.size_alloc] at hz8
  replace hY := hY.below hb8
  have hbx : Below w7.heap.size w7 w8 := hb8a.trans (hb8.mono (by simp))
  replace hX := hX.below hbx
  replace hU6 := hU6.below hbx
  replace hU7 := hU7.below hbx
  replace hA := hA.below hbx
  replace hB := hB.below hbx
  replace hr := hr.below hbx
  replace hs := hs.below hbx
  replace hbw : Below w.heap.size w w8 := hbw.trans (hbx.mono hzw)
  replace hzw := hbw.size
  clear hb8 hb8a hbx hO7 lx x0 x1 x2 x3 x4 x5 x6 x7 x8 x9 x10 x11
  go_wp2_with fail
  refine wp_region_held_drew (S := (fun w' => Box12 w' w6.heap.size p (.slice f_e p.e.ks.length f_E) (.slice f_s p.es.length f_S) (.slice f_k p.ks.length f_K) ∧ Box12 w' w.heap.size p (.slice a_e p.e.ks.length a_E) (.slice a_s p.es.length a_S) (.slice a_k p.ks.length a_K))) (by kernel_rfl) ?_ (fun hHeld => ?_)
  · exact ⟨hX.below (by repeat (first | (with_reducible exact Below.refl _ _) | (with_reducible refine Below.drew ?_) | (with_reducible refine Below.alloc ?_ ?hh _; case hh => first | (simp; done) | (simp; omega) | omega) | (with_reducible refine Below.setCell ?_ ?hh _; case hh => first | (simp; done) | (simp; omega) | omega) | refine bstep (by assumption) (by first | (simp; done) | (simp; omega) | omega) ?_)), hA.below (by repeat (first | (with_reducible exact Below.refl _ _) | (with_reducible refine Below.drew ?_) | (with_reducible refine Below.alloc ?_ ?hh _; case hh => first | (simp; done) | (simp; omega) | omega) | (with_reducible refine Below.setCell ?_ ?hh _; case hh => first | (simp; done) | (simp; omega) | omega) | refine bstep (by assumption) (by first | (simp; done) | (simp; omega) | omega) ?_))⟩
  refine takeYes (i := 0) (d := 35) (v := ?_) rfl rfl (by kernel_rfl) (by kernel_rfl) (by kernel_rfl) (fun _ _ _ h => h) (by rfl) (by assumption) ?_ ?_
  rotate_left
  · intro w' hSw; obtain ⟨⟨_, x0, x1, x2, x3, x4, x5, x6, x7, x8, x9, x10, x11⟩, ⟨_, y0, y1, y2, y3, y4, y5, y6, y7, y8, y9, y10, y11⟩⟩ := hSw; go_simp; try exact rfl
  try simp only [List.setIfInBounds_toArray, List.set_cons_zero, List.set_cons_succ]
  refine takeYes (i := 1) (d := 36) (v := ?_) rfl rfl (by kernel_rfl) (by kernel_rfl) (by kernel_rfl) (fun _ _ _ h => h) (by rfl) (by assumption) ?_ ?_
  rotate_left
  · intro w' hSw; obtain ⟨⟨_, x0, x1, x2, x3, x4, x5, x6, x7, x8, x9, x10, x11⟩, ⟨_, y0, y1, y2, y3, y4, y5, y6, y7, y8, y9, y10, y11⟩⟩ := hSw; go_simp; try exact rfl
  try simp only [List.setIfInBounds_toArray, List.set_cons_zero, List.set_cons_succ]
  refine wpAnyH_ready (rs := [2]) (by kernel_rfl) (by simp) ?_
  refine AllReadyH.cons rfl (fun K hK => ?_) AllReadyH.nil
  go_simp
  go_at_call 6
  refine Calls.mono (toPlan_of (toPlanS_any D d) p (.slice a_e p.e.ks.length a_E) (.slice a_s p.es.length a_S) (.slice a_k p.ks.length a_K) F _ (hr.below (by repeat (first | (with_reducible exact Below.refl _ _) | (with_reducible refine Below.drew ?_) | (with_reducible refine Below.alloc ?_ ?hh _; case hh => first | (simp; done) | (simp; omega) | omega) | (with_reducible refine Below.setCell ?_ ?hh _; case hh => first | (simp; done) | (simp; omega) | omega) | refine bstep (by assumption) (by first | (simp; done) | (simp; omega) | omega) ?_))) hne) ?_
  rintro x w9 ⟨⟨ue9, us9, u9, F9, rfl, hU9, _⟩, hb9⟩
  obtain ⟨h_e, h_E, h_s, h_S, h_k, h_K, rfl, rfl, rfl, _, _, _, _, _, _⟩ := hU9.shape
  have hz9 := hb9.size
  (try simp at hz9)
  try go_wp2_with fail
  refine hK.out _ _ ?_ (fun hHeld2 => ?_)
  · exact ⟨hX.below (by repeat (first | (with_reducible exact Below.refl _ _) | (with_reducible refine Below.drew ?_) | (with_reducible refine Below.alloc ?_ ?hh _; case hh => first | (simp; done) | (simp; omega) | omega) | (with_reducible refine Below.setCell ?_ ?hh _; case hh => first | (simp; done) | (simp; omega) | omega) | refine bstep (by assumption) (by first | (simp; done) | (simp; omega) | omega) ?_)), hA.below (by repeat (first | (with_reducible exact Below.refl _ _) | (with_reducible refine Below.drew ?_) | (with_reducible refine Below.alloc ?_ ?hh _; case hh => first | (simp; done) | (simp; omega) | omega) | (with_reducible refine Below.setCell ?_ ?hh _; case hh => first | (simp; done) | (simp; omega) | omega) | refine bstep (by assumption) (by first | (simp; done) | (simp; omega) | omega) ?_))⟩
  clear hK
  refine wpAnyH_ready (rs := [3]) (by kernel_rfl) (by simp) ?_
  refine AllReadyH.cons rfl (fun K hK => ?_) AllReadyH.nil
  go_simp
  go_at_call 8
  refine Calls.mono (eqPlan_of (eqPlanS_any D d) p (.slice f_e p.e.ks.length f_E) (.slice f_s p.es.length f_S) (.slice f_k p.ks.length f_K) (.slice h_e p.e.ks.length h_E) (.slice h_s p.es.length h_S) (.slice h_k p.ks.length h_K) _ _ _ (hU6.below (by repeat (first | (with_reducible exact Below.refl _ _) | (with_reducible refine Below.drew ?_) | (with_reducible refine Below.alloc ?_ ?hh _; case hh => first | (simp; done) | (simp; omega) | omega) | (with_reducible refine Below.setCell ?_ ?hh _; case hh => first | (simp; done) | (simp; omega) | omega) | refine bstep (by assumption) (by first | (simp; done) | (simp; omega) | omega) ?_))) (hU9.below (by repeat (first | (with_reducible exact Below.refl _ _) | (with_reducible refine Below.drew ?_) | (with_reducible refine Below.alloc ?_ ?hh _; case hh => first | (simp; done) | (simp; omega) | omega) | (with_reducible refine Below.setCell ?_ ?hh _; case hh => first | (simp; done) | (simp; omega) | omega) | refine bstep (by assumption) (by first | (simp; done) | (simp; omega) | omega) ?_)))) ?_
  rintro x w10 ⟨rfl, hb10⟩
  have hz10 := hb10.size
  (try simp at hz10)
  try go_wp2_with fail
  refine hK.out _ _ ?_ (fun hHeld3 => ?_)
  · exact ⟨hX.below (by repeat (first | (with_reducible exact Below.refl _ _) | (with_reducible refine Below.drew ?_) | (with_reducible refine Below.alloc ?_ ?hh _; case hh => first | (simp; done) | (simp; omega) | omega) | (with_reducible refine Below.setCell ?_ ?hh _; case hh => first | (simp; done) | (simp; omega) | omega) | refine bstep (by assumption) (by first | (simp; done) | (simp; omega) | omega) ?_)), hA.below (by repeat (first | (with_reducible exact Below.refl _ _) | (with_reducible refine Below.drew ?_) | (with_reducible refine Below.alloc ?_ ?hh _; case hh => first | (simp; done) | (simp; omega) | omega) | (with_reducible refine Below.setCell ?_ ?hh _; case hh => first | (simp; done) | (simp; omega) | omega) | refine bstep (by assumption) (by first | (simp; done) | (simp; omega) | omega) ?_))⟩
  clear hK
  refine takeYes (i := 4) (d := 39) (v := ?_) rfl rfl (by kernel_rfl) (by kernel_rfl) (by kernel_rfl) (fun _ _ _ h => h) (by rfl) (by assumption) ?_ ?_
  rotate_left
  · intro w' hSw; obtain ⟨⟨_, x0, x1, x2, x3, x4, x5, x6, x7, x8, x9, x10, x11⟩, ⟨_, y0, y1, y2, y3, y4, y5, y6, y7, y8, y9, y10, y11⟩⟩ := hSw; go_simp; try exact rfl
  try simp only [List.setIfInBounds_toArray, List.set_cons_zero, List.set_cons_succ]
  refine wpAnyH_done (by kernel_rfl) ?_ _
  have hbx : Below w8.heap.size w8 w10 := by repeat (first | (with_reducible exact Below.refl _ _) | (with_reducible refine Below.drew ?_) | (with_reducible refine Below.alloc ?_ ?hh _; case hh => first | (simp; done) | (simp; omega) | omega) | (with_reducible refine Below.setCell ?_ ?hh _; case hh => first | (simp; done) | (simp; omega) | omega) | refine bstep (by assumption) (by first | (simp; done) | (simp; omega) | omega) ?_)
  replace hY := hY.below hbx
  replace hU7 := hU7.below hbx
  replace hA := hA.below hbx
  replace hB := hB.below hbx
  replace hr := hr.below hbx
  replace hs := hs.below hbx
  replace hbw : Below w.heap.size w w10 := hbw.trans (hbx.mono hzw)
  replace hzw := hbw.size
  clear hHeld hHeld2 hHeld3 hb9 hb10 hbx hU9 hU6 hX
  go_wp2_with fail
  refine wp_region_held_drew (S := (fun w' => Box12 w' w7.heap.size q (.slice g_e q.e.ks.length g_E) (.slice g_s q.es.length g_S) (.slice g_k q.ks.length g_K) ∧ Box12 w' (w.heap.size + 1) q (.slice b_e q.e.ks.length b_E) (.slice b_s q.es.length b_S) (.slice b_k q.ks.length b_K))) (by kernel_rfl) ?_ (fun hHeld => ?_)
  · exact ⟨hY.below (by repeat (first | (with_reducible exact Below.refl _ _) | (with_reducible refine Below.drew ?_) | (with_reducible refine Below.alloc ?_ ?hh _; case hh => first | (simp; done) | (simp; omega) | omega) | (with_reducible refine Below.setCell ?_ ?hh _; case hh => first | (simp; done) | (simp; omega) | omega) | refine bstep (by assumption) (by first | (simp; done) | (simp; omega) | omega) ?_)), hB.below (by repeat (first | (with_reducible exact Below.refl _ _) | (with_reducible refine Below.drew ?_) | (with_reducible refine Below.alloc ?_ ?hh _; case hh => first | (simp; done) | (simp; omega) | omega) | (with_reducible refine Below.setCell ?_ ?hh _; case hh => first | (simp; done) | (simp; omega) | omega) | refine bstep (by assumption) (by first | (simp; done) | (simp; omega) | omega) ?_))⟩
  refine takeYes (i := 0) (d := 40) (v := ?_) rfl rfl (by kernel_rfl) (by kernel_rfl) (by kernel_rfl) (fun _ _ _ h => h) (by rfl) (by assumption) ?_ ?_
  rotate_left
  · intro w' hSw; obtain ⟨⟨_, x0, x1, x2, x3, x4, x5, x6, x7, x8, x9, x10, x11⟩, ⟨_, y0, y1, y2, y3, y4, y5, y6, y7, y8, y9, y10, y11⟩⟩ := hSw; go_simp; try exact rfl
  try simp only [List.setIfInBounds_toArray, List.set_cons_zero, List.set_cons_succ]
  refine takeYes (i := 1) (d := 41) (v := ?_) rfl rfl (by kernel_rfl) (by kernel_rfl) (by kernel_rfl) (fun _ _ _ h => h) (by rfl) (by assumption) ?_ ?_
  rotate_left
  · intro w' hSw; obtain ⟨⟨_, x0, x1, x2, x3, x4, x5, x6, x7, x8, x9, x10, x11⟩, ⟨_, y0, y1, y2, y3, y4, y5, y6, y7, y8, y9, y10, y11⟩⟩ := hSw; go_simp; try exact rfl
  try simp only [List.setIfInBounds_toArray, List.set_cons_zero, List.set_cons_succ]
  refine wpAnyH_ready (rs := [2]) (by kernel_rfl) (by simp) ?_
  refine AllReadyH.cons rfl (fun K hK => ?_) AllReadyH.nil
  go_simp
  go_at_call 6
  refine Calls.mono (toPlan_of (toPlanS_any D d) q (.slice b_e q.e.ks.length b_E) (.slice b_s q.es.length b_S) (.slice b_k q.ks.length b_K) G _ (hs.below (by repeat (first | (with_reducible exact Below.refl _ _) | (with_reducible refine Below.drew ?_) | (with_reducible refine Below.alloc ?_ ?hh _; case hh => first | (simp; done) | (simp; omega) | omega) | (with_reducible refine Below.setCell ?_ ?hh _; case hh => first | (simp; done) | (simp; omega) | omega) | refine bstep (by assumption) (by first | (simp; done) | (simp; omega) | omega) ?_))) hnf) ?_
  rintro x w11 ⟨⟨ue11, us11, u11, F11, rfl, hU11, _⟩, hb11⟩
  obtain ⟨i_e, i_E, i_s, i_S, i_k, i_K, rfl, rfl, rfl, _, _, _, _, _, _⟩ := hU11.shape
  have hz11 := hb11.size
  (try simp at hz11)
  try go_wp2_with fail
  refine hK.out _ _ ?_ (fun hHeld2 => ?_)
  · exact ⟨hY.below (by repeat (first | (with_reducible exact Below.refl _ _) | (with_reducible refine Below.drew ?_) | (with_reducible refine Below.alloc ?_ ?hh _; case hh => first | (simp; done) | (simp; omega) | omega) | (with_reducible refine Below.setCell ?_ ?hh _; case hh => first | (simp; done) | (simp; omega) | omega) | refine bstep (by assumption) (by first | (simp; done) | (simp; omega) | omega) ?_)), hB.below (by repeat (first | (with_reducible exact Below.refl _ _) | (with_reducible refine Below.drew ?_) | (with_reducible refine Below.alloc ?_ ?hh _; case hh => first | (simp; done) | (simp; omega) | omega) | (with_reducible refine Below.setCell ?_ ?hh _; case hh => first | (simp; done) | (simp; omega) | omega) | refine bstep (by assumption) (by first | (simp; done) | (simp; omega) | omega) ?_))⟩
  clear hK
  refine wpAnyH_ready (rs := [3]) (by kernel_rfl) (by simp) ?_
  refine AllReadyH.cons rfl (fun K hK => ?_) AllReadyH.nil
  go_simp
  go_at_call 8
  refine Calls.mono (eqPlan_of (eqPlanS_any D d) q (.slice g_e q.e.ks.length g_E) (.slice g_s q.es.length g_S) (.slice g_k q.ks.length g_K) (.slice i_e q.e.ks.length i_E) (.slice i_s q.es.length i_S) (.slice i_k q.ks.length i_K) _ _ _ (hU7.below (by repeat (first | (with_reducible exact Below.refl _ _) | (with_reducible refine Below.drew ?_) | (with_reducible refine Below.alloc ?_ ?hh _; case hh => first | (simp; done) | (simp; omega) | omega) | (with_reducible refine Below.setCell ?_ ?hh _; case hh => first | (simp; done) | (simp; omega) | omega) | refine bstep (by assumption) (by first | (simp; done) | (simp; omega) | omega) ?_))) (hU11.below (by repeat (first | (with_reducible exact Below.refl _ _) | (with_reducible refine Below.drew ?_) | (with_reducible refine Below.alloc ?_ ?hh _; case hh => first | (simp; done) | (simp; omega) | omega) | (with_reducible refine Below.setCell ?_ ?hh _; case hh => first | (simp; done) | (simp; omega) | omega) | refine bstep (by assumption) (by first | (simp; done) | (simp; omega) | omega) ?_)))) ?_
  rintro x w12 ⟨rfl, hb12⟩
  have hz12 := hb12.size
  (try simp at hz12)
  try go_wp2_with fail
  refine hK.out _ _ ?_ (fun hHeld3 => ?_)
  · exact ⟨hY.below (by repeat (first | (with_reducible exact Below.refl _ _) | (with_reducible refine Below.drew ?_) | (with_reducible refine Below.alloc ?_ ?hh _; case hh => first | (simp; done) | (simp; omega) | omega) | (with_reducible refine Below.setCell ?_ ?hh _; case hh => first | (simp; done) | (simp; omega) | omega) | refine bstep (by assumption) (by first | (simp; done) | (simp; omega) | omega) ?_)), hB.below (by repeat (first | (with_reducible exact Below.refl _ _) | (with_reducible refine Below.drew ?_) | (with_reducible refine Below.alloc ?_ ?hh _; case hh => first | (simp; done) | (simp; omega) | omega) | (with_reducible refine Below.setCell ?_ ?hh _; case hh => first | (simp; done) | (simp; omega) | omega) | refine bstep (by assumption) (by first | (simp; done) | (simp; omega) | omega) ?_))⟩
  clear hK
  refine takeYes (i := 4) (d := 44) (v := ?_) rfl rfl (by kernel_rfl) (by kernel_rfl) (by kernel_rfl) (fun _ _ _ h => h) (by rfl) (by assumption) ?_ ?_
  rotate_left
  · intro w' hSw; obtain ⟨⟨_, x0, x1, x2, x3, x4, x5, x6, x7, x8, x9, x10, x11⟩, ⟨_, y0, y1, y2, y3, y4, y5, y6, y7, y8, y9, y10, y11⟩⟩ := hSw; go_simp; try exact rfl
  try simp only [List.setIfInBounds_toArray, List.set_cons_zero, List.set_cons_succ]
  refine wpAnyH_done (by kernel_rfl) ?_ _
  go_wp2
  go_returns
  exact ⟨rfl, by repeat (first | (with_reducible exact Below.refl _ _) | (with_reducible refine Below.drew ?_) | (with_reducible refine Below.alloc ?_ ?hh _; case hh => first | (simp; done) | (simp; omega) | omega) | (with_reducible refine Below.setCell ?_ ?hh _; case hh => first | (simp; done) | (simp; omega) | omega) | refine bstep (by assumption) (by first | (simp; done) | (simp; omega) | omega) ?_)⟩
theorem up_lists {w : World} {D d D' d' : Nat} {p : P12} {ue us u : Value} {g : List Nat} (hD : D ≤ D') (hd : d ≤ d') (h : ListsP w D (PlansIs w D d) p ue us u g) : ListsP w D' (PlansIs w D' d') p ue us u g := by
  obtain ⟨Fe, Fs, k, hg, ke, kes, kp⟩ := h
  exact ⟨Fe, Fs, k, hg, ke.up hD, kes.up hD, kp.up hD hd⟩
theorem walk (p : P12) (ue us u : Value) (F : List Nat) (D d : Nat) (hw : p.wf) (q : P12) (ue' us' u' : Value) (G : List Nat) (E e : Nat) (hw' : q.wf) (w : World) (hr : ListsP w D (PlansIs w D d) p ue us u F) (hs : ListsP w E (PlansIs w E e) q ue' us' u' G) :
    Calls Try.prog 3 #[(.agg #[.int .i64 p.k, .string p.s, .int .i64 p.e.k, .int .i64 p.e.n, .int .i64 p.e.v.k, .int .i64 p.e.v.n, .string p.e.v.s, .string p.e.p, ue, us, .int .i64 p.n, u]), (.agg #[.int .i64 q.k, .string q.s, .int .i64 q.e.k, .int .i64 q.e.n, .int .i64 q.e.v.k, .int .i64 q.e.v.n, .string q.e.v.s, .string q.e.p, ue', us', .int .i64 q.n, u'])] w fun x w' => x = .returned (.bool true) ∧ Below w.heap.size w w' :=
  walk0 p ue us u F q ue' us' u' G (max D E + 1) (max d e) hw hw' (smpS_any _ _) w (up_lists (by omega) (by omega) hr) (up_lists (by omega) (by omega) hs)
end Go.Proofs.Ytflnkfjjjacjbaa.fnExactSamePlan
