/- Own text. The walk of the statement on PlanText. -/
import Derived.Test.YtajlmgacmhimgaaDoorPtI
import Derived.Test.YtajlmgacmhimgaaDoorPtS
import Derived.Test.YtajlmgacmhimgaaDoorToP
import Derived.Test.YtajlmgacmhimgaaDoorPlC
import Derived.Test.YtajlmgacmhimgaaDoorBoxP
import Derived.Test.YtajlmgacmhimgaaDoorTake
import Derived.WalkKit
import Derived.WalkSpells
import Derived.WalkLawsBesides
import Derived.Handy
import Derived.Below
import Derived.Deep.RegionHeld3
import Derived.Deep.DeepCutAuto
namespace Go.Proofs.YtajlmgacmhimgaaDoor.fnExactPlanText
open Go.RowKit Go.Deep
set_option linter.unusedVariables false
set_option maxHeartbeats 8000000 in
set_option maxRecDepth 100000 in
theorem walk (p : P12) (ue us u : Value) (F : List Nat) (D d : Nat) (hw : p.wf) (w : World) (hr : ListsP w D (PlansIs w D d) p ue us u F) (hE : Env w) :
    Calls Tryd.prog 7 #[(.agg #[.int .i64 p.k, .string p.s, .int .i64 p.e.k, .int .i64 p.e.n, .int .i64 p.e.v.k, .int .i64 p.e.v.n, .string p.e.v.s, .string p.e.p, ue, us, .int .i64 p.n, u])] w fun x w' => x = .returned (.bool true) ∧ Below w.heap.size w w' := by
  obtain ⟨a_e, a_E, a_s, a_S, a_k, a_K, rfl, rfl, rfl, _, _, _, _, _, _⟩ := hr.shape
  have HE : Hid (∀ w', Below w.heap.size w w' → Env w') := fun w' hb => hE.below hb
  obtain ⟨r, HR⟩ := hidE (bs (planT 21 p))
  clear hE
  go_enter Tryd.func7, Tryd.ntmps7
  go_wp2_with fail
  refine Calls.mono (szPlan_of (szPlanS_any D d) p (.slice a_e p.e.ks.length a_E) (.slice a_s p.es.length a_S) (.slice a_k p.ks.length a_K) F 1048576 _ hw (hr.below ?hb) (by decide) (by decide)) ?_
  case hb => repeat (first | (with_reducible exact Below.refl _ _) | (with_reducible refine Below.drew ?_) | (with_reducible refine Below.alloc ?_ ?hh _; case hh => first | (simp; done) | (simp; omega) | omega) | (with_reducible refine Below.setCell ?_ ?hh _; case hh => first | (simp; done) | (simp; omega) | omega) | refine bstep (by assumption) (by first | (simp; done) | (simp; omega) | omega) ?_)
  rintro x w1 ⟨⟨z1, rfl, l1, g1, s1⟩, hb1⟩
  have hz1 := hb1.size
  simp only [World.size_alloc] at hz1
  have hA : BxP w1 w.heap.size p (.slice a_e p.e.ks.length a_E) (.slice a_s p.es.length a_S) (.slice a_k p.ks.length a_K) := by refine ⟨by omega, ?_, ?_, ?_, ?_, ?_, ?_, ?_, ?_, ?_, ?_, ?_, ?_⟩ <;> exact cell_later hb1 (by go_simp)
  have hbw : Below w.heap.size w w1 := by repeat (first | (with_reducible exact Below.refl _ _) | (with_reducible refine Below.drew ?_) | (with_reducible refine Below.alloc ?_ ?hh _; case hh => first | (simp; done) | (simp; omega) | omega) | (with_reducible refine Below.setCell ?_ ?hh _; case hh => first | (simp; done) | (simp; omega) | omega) | refine bstep (by assumption) (by first | (simp; done) | (simp; omega) | omega) ?_)
  replace hr := hr.below hbw
  by_cases hn1 : z1 < 0
  · go_wp2_with fail
    go_returns
    exact ⟨rfl, hbw⟩
  have hne : wtP p ≤ 1048576 := by have := s1 (by omega); omega
  clear s1 hb1
  have hzw := hbw.size
  have qy := hA; obtain ⟨ly, y0, y1, y2, y3, y4, y5, y6, y7, y8, y9, y10, y11⟩ := qy
  go_wp2_with fail
  refine Calls.mono (toPlan_of (toPlanS_any D d) p (.slice a_e p.e.ks.length a_E) (.slice a_s p.es.length a_S) (.slice a_k p.ks.length a_K) F w1 hr hne) ?_
  rintro x w2 ⟨⟨ue2, us2, u2, F2, rfl, hU2, _⟩, hb2⟩
  obtain ⟨e_e, e_E, e_s, e_S, e_k, e_K, rfl, rfl, rfl, _, _, _, _, _, _⟩ := hU2.shape
  clear ly y0 y1 y2 y3 y4 y5 y6 y7 y8 y9 y10 y11
  replace hA := hA.below hb2
  replace hr := hr.below hb2
  replace hbw : Below w.heap.size w w2 := hbw.trans (hb2.mono hzw)
  replace hzw := hbw.size
  have hcall := specPlanText_any p _ _ _ F2 D d w2 hw hU2 hne (HE.out w2 hbw)
  rw [HR.out] at hcall
  clear hb2
  go_wp2_with fail
  refine Calls.mono hcall ?_
  rintro x w3 ⟨rfl, hb3⟩
  replace hA := hA.below hb3
  replace hr := hr.below hb3
  replace hbw : Below w.heap.size w w3 := hbw.trans (hb3.mono hzw)
  replace hzw := hbw.size
  clear hb3 hU2 hcall
  have qy := hA; obtain ⟨ly, y0, y1, y2, y3, y4, y5, y6, y7, y8, y9, y10, y11⟩ := qy
  go_wp2_with fail
  refine Calls.mono (toPlan_of (toPlanS_any D d) p (.slice a_e p.e.ks.length a_E) (.slice a_s p.es.length a_S) (.slice a_k p.ks.length a_K) F w3 hr hne) ?_
  rintro x w4 ⟨⟨ue4, us4, u4, F4, rfl, hX4, hO4⟩, hb4⟩
  obtain ⟨x_e, x_E, x_s, x_S, x_k, x_K, rfl, rfl, rfl, _, _, _, _, _, _⟩ := hX4.shape
  clear ly y0 y1 y2 y3 y4 y5 y6 y7 y8 y9 y10 y11 hO4
  replace hA := hA.below hb4
  replace hr := hr.below hb4
  replace hbw : Below w.heap.size w w4 := hbw.trans (hb4.mono hzw)
  replace hzw := hbw.size
  have hb4b : Below w4.heap.size w4 (w4.alloc (.cells #[.int .i64 p.k, .string p.s, .int .i64 p.e.k, .int .i64 p.e.n, .int .i64 p.e.v.k, .int .i64 p.e.v.n, .string p.e.v.s, .string p.e.p, .slice x_e p.e.ks.length x_E, .slice x_s p.es.length x_S, .int .i64 p.n, .slice x_k p.ks.length x_K] 60)) := (Below.refl _ _).alloc (Nat.le_refl _) _
  have hXb := bxP_new w4 p (.slice x_e p.e.ks.length x_E) (.slice x_s p.es.length x_S) (.slice x_k p.ks.length x_K) 60
  have hcall := implPlanText_any p _ _ _ F4 D d _ hw (hX4.below hb4b) hne (HE.out _ (hbw.trans (hb4b.mono hzw)))
  rw [HR.out] at hcall
  replace hA := hA.below hb4b
  replace hr := hr.below hb4b
  have hX5 := hX4.below hb4b
  replace hbw : Below w.heap.size w (w4.alloc (.cells #[.int .i64 p.k, .string p.s, .int .i64 p.e.k, .int .i64 p.e.n, .int .i64 p.e.v.k, .int .i64 p.e.v.n, .string p.e.v.s, .string p.e.p, .slice x_e p.e.ks.length x_E, .slice x_s p.es.length x_S, .int .i64 p.n, .slice x_k p.ks.length x_K] 60)) := hbw.trans (hb4b.mono hzw)
  replace hzw := hbw.size
  clear hb4 hb4b hX4
  go_wp2_with fail
  generalize w4.alloc (.cells #[.int .i64 p.k, .string p.s, .int .i64 p.e.k, .int .i64 p.e.n, .int .i64 p.e.v.k, .int .i64 p.e.v.n, .string p.e.v.s, .string p.e.p, .slice x_e p.e.ks.length x_E, .slice x_s p.es.length x_S, .int .i64 p.n, .slice x_k p.ks.length x_K] 60) = w4b at *
  refine Calls.mono hcall ?_
  rintro x w6 ⟨rfl, hb6⟩
  have hA6 := hA.below hb6
  have hr6 := hr.below hb6
  have hX6 := hX5.below hb6
  have hXb6 := hXb.below hb6
  replace hbw : Below w.heap.size w w6 := hbw.trans (hb6.mono hzw)
  replace hzw := hbw.size
  clear hb6 hcall hA hr hX5 hXb
  go_wp2_with fail
  refine wp_region_held_drew (S := (fun w' => BxP w' w4.heap.size p (.slice x_e p.e.ks.length x_E) (.slice x_s p.es.length x_S) (.slice x_k p.ks.length x_K) ∧ BxP w' w.heap.size p (.slice a_e p.e.ks.length a_E) (.slice a_s p.es.length a_S) (.slice a_k p.ks.length a_K))) (by kernel_rfl) ?_ (fun hHeld => ?_)
  · exact ⟨hXb6.below (by repeat (first | (with_reducible exact Below.refl _ _) | (with_reducible refine Below.drew ?_) | (with_reducible refine Below.alloc ?_ ?hh _; case hh => first | (simp; done) | (simp; omega) | omega) | (with_reducible refine Below.setCell ?_ ?hh _; case hh => first | (simp; done) | (simp; omega) | omega) | refine bstep (by assumption) (by first | (simp; done) | (simp; omega) | omega) ?_)), hA6.below (by repeat (first | (with_reducible exact Below.refl _ _) | (with_reducible refine Below.drew ?_) | (with_reducible refine Below.alloc ?_ ?hh _; case hh => first | (simp; done) | (simp; omega) | omega) | (with_reducible refine Below.setCell ?_ ?hh _; case hh => first | (simp; done) | (simp; omega) | omega) | refine bstep (by assumption) (by first | (simp; done) | (simp; omega) | omega) ?_))⟩
  refine takeYes (i := 0) (d := 22) (v := ?_) rfl rfl (by kernel_rfl) (by kernel_rfl) (by kernel_rfl) (fun _ _ _ h => h) (by rfl) (by assumption) ?_ ?_
  rotate_left
  · intro w' hSw; obtain ⟨⟨_, x0, x1, x2, x3, x4, x5, x6, x7, x8, x9, x10, x11⟩, ⟨_, y0, y1, y2, y3, y4, y5, y6, y7, y8, y9, y10, y11⟩⟩ := hSw; go_simp; try exact rfl
  try simp only [List.setIfInBounds_toArray, List.set_cons_zero, List.set_cons_succ]
  refine takeYes (i := 1) (d := 23) (v := ?_) rfl rfl (by kernel_rfl) (by kernel_rfl) (by kernel_rfl) (fun _ _ _ h => h) (by rfl) (by assumption) ?_ ?_
  rotate_left
  · intro w' hSw; obtain ⟨⟨_, x0, x1, x2, x3, x4, x5, x6, x7, x8, x9, x10, x11⟩, ⟨_, y0, y1, y2, y3, y4, y5, y6, y7, y8, y9, y10, y11⟩⟩ := hSw; go_simp; try exact rfl
  try simp only [List.setIfInBounds_toArray, List.set_cons_zero, List.set_cons_succ]
  refine wpAnyH_ready (rs := [2]) (by kernel_rfl) (by simp) ?_
  refine AllReadyH.cons rfl (fun K hK => ?_) AllReadyH.nil
  go_simp
  go_at_call 26
  refine Calls.mono (toPlan_of (toPlanS_any D d) p (.slice a_e p.e.ks.length a_E) (.slice a_s p.es.length a_S) (.slice a_k p.ks.length a_K) F _ (hr6.below (by repeat (first | (with_reducible exact Below.refl _ _) | (with_reducible refine Below.drew ?_) | (with_reducible refine Below.alloc ?_ ?hh _; case hh => first | (simp; done) | (simp; omega) | omega) | (with_reducible refine Below.setCell ?_ ?hh _; case hh => first | (simp; done) | (simp; omega) | omega) | refine bstep (by assumption) (by first | (simp; done) | (simp; omega) | omega) ?_))) hne) ?_
  rintro x w7 ⟨⟨ue7, us7, u7, F7, rfl, hU7, _⟩, hb7⟩
  obtain ⟨f_e, f_E, f_s, f_S, f_k, f_K, rfl, rfl, rfl, _, _, _, _, _, _⟩ := hU7.shape
  have hz7 := hb7.size
  (try simp at hz7)
  try go_wp2_with fail
  refine hK.out _ _ ?_ (fun hHeld2 => ?_)
  · exact ⟨hXb6.below (by repeat (first | (with_reducible exact Below.refl _ _) | (with_reducible refine Below.drew ?_) | (with_reducible refine Below.alloc ?_ ?hh _; case hh => first | (simp; done) | (simp; omega) | omega) | (with_reducible refine Below.setCell ?_ ?hh _; case hh => first | (simp; done) | (simp; omega) | omega) | refine bstep (by assumption) (by first | (simp; done) | (simp; omega) | omega) ?_)), hA6.below (by repeat (first | (with_reducible exact Below.refl _ _) | (with_reducible refine Below.drew ?_) | (with_reducible refine Below.alloc ?_ ?hh _; case hh => first | (simp; done) | (simp; omega) | omega) | (with_reducible refine Below.setCell ?_ ?hh _; case hh => first | (simp; done) | (simp; omega) | omega) | refine bstep (by assumption) (by first | (simp; done) | (simp; omega) | omega) ?_))⟩
  clear hK
  refine wpAnyH_ready (rs := [3]) (by kernel_rfl) (by simp) ?_
  refine AllReadyH.cons rfl (fun K hK => ?_) AllReadyH.nil
  go_simp
  go_at_call 28
  refine Calls.mono (eqPlan_of (eqPlanS_any D d) p _ _ _ _ _ _ _ _ _ (hX6.below (by repeat (first | (with_reducible exact Below.refl _ _) | (with_reducible refine Below.drew ?_) | (with_reducible refine Below.alloc ?_ ?hh _; case hh => first | (simp; done) | (simp; omega) | omega) | (with_reducible refine Below.setCell ?_ ?hh _; case hh => first | (simp; done) | (simp; omega) | omega) | refine bstep (by assumption) (by first | (simp; done) | (simp; omega) | omega) ?_))) (hU7.below (by repeat (first | (with_reducible exact Below.refl _ _) | (with_reducible refine Below.drew ?_) | (with_reducible refine Below.alloc ?_ ?hh _; case hh => first | (simp; done) | (simp; omega) | omega) | (with_reducible refine Below.setCell ?_ ?hh _; case hh => first | (simp; done) | (simp; omega) | omega) | refine bstep (by assumption) (by first | (simp; done) | (simp; omega) | omega) ?_)))) ?_
  rintro x w8 ⟨rfl, hb8⟩
  have hz8 := hb8.size
  (try simp at hz8)
  try go_wp2_with fail
  refine hK.out _ _ ?_ (fun hHeld3 => ?_)
  · exact ⟨hXb6.below (by repeat (first | (with_reducible exact Below.refl _ _) | (with_reducible refine Below.drew ?_) | (with_reducible refine Below.alloc ?_ ?hh _; case hh => first | (simp; done) | (simp; omega) | omega) | (with_reducible refine Below.setCell ?_ ?hh _; case hh => first | (simp; done) | (simp; omega) | omega) | refine bstep (by assumption) (by first | (simp; done) | (simp; omega) | omega) ?_)), hA6.below (by repeat (first | (with_reducible exact Below.refl _ _) | (with_reducible refine Below.drew ?_) | (with_reducible refine Below.alloc ?_ ?hh _; case hh => first | (simp; done) | (simp; omega) | omega) | (with_reducible refine Below.setCell ?_ ?hh _; case hh => first | (simp; done) | (simp; omega) | omega) | refine bstep (by assumption) (by first | (simp; done) | (simp; omega) | omega) ?_))⟩
  clear hK
  refine takeYes (i := 4) (d := 26) (v := ?_) rfl rfl (by kernel_rfl) (by kernel_rfl) (by kernel_rfl) (fun _ _ _ h => h) (by rfl) (by assumption) ?_ ?_
  rotate_left
  · intro w' hSw; obtain ⟨⟨_, x0, x1, x2, x3, x4, x5, x6, x7, x8, x9, x10, x11⟩, ⟨_, y0, y1, y2, y3, y4, y5, y6, y7, y8, y9, y10, y11⟩⟩ := hSw; go_simp; try exact rfl
  try simp only [List.setIfInBounds_toArray, List.set_cons_zero, List.set_cons_succ]
  refine wpAnyH_done (by kernel_rfl) ?_ _
  have hb68 : Below w6.heap.size w6 w8 := by repeat (first | (with_reducible exact Below.refl _ _) | (with_reducible refine Below.drew ?_) | (with_reducible refine Below.alloc ?_ ?hh _; case hh => first | (simp; done) | (simp; omega) | omega) | (with_reducible refine Below.setCell ?_ ?hh _; case hh => first | (simp; done) | (simp; omega) | omega) | refine bstep (by assumption) (by first | (simp; done) | (simp; omega) | omega) ?_)
  have belE : Below w.heap.size w w8 := hbw.trans (hb68.mono hzw)
  clear hHeld hHeld2 hHeld3 hb7 hb8 hU7 hb68 hX6 hXb6 hA6 hr6
  go_wp2
  go_returns
  exact ⟨rfl, belE⟩
end Go.Proofs.YtajlmgacmhimgaaDoor.fnExactPlanText
