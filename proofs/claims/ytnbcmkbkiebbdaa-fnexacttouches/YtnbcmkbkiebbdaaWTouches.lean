/- Own text. The walk of the statement on Touches. -/
import Derived.Test.YtnbcmkbkiebbdaaTcI
import Derived.Test.YtnbcmkbkiebbdaaBoxP
import Derived.Test.YtnbcmkbkiebbdaaToP
import Derived.Test.YtnbcmkbkiebbdaaPlC
import Derived.Test.YtnbcmkbkiebbdaaToR
import Derived.Test.YtnbcmkbkiebbdaaRelC
import Derived.Test.YtnbcmkbkiebbdaaTake
import Derived.WalkKit
import Derived.WalkSpells
import Derived.WalkLawsBesides
import Derived.Handy
import Derived.Below
import Derived.Deep.RegionHeld3
import Derived.Deep.DeepCutAuto
namespace Go.Proofs.Ytnbcmkbkiebbdaa.fnExactTouches
open Go.RowKit Go.Deep
set_option linter.unusedVariables false
set_option maxHeartbeats 8000000 in
set_option maxRecDepth 100000 in
theorem walk0 (v : Value) (rs : List R3) (hwr : RsWf rs) (p : P12) (ue us u : Value) (F : List Nat) (D d : Nat) (hw : p.wf) (w : World) (hq : RelsIs w v rs) (hr : ListsP w D (PlansIs w D d) p ue us u F) :
    Calls Try.prog 12 #[v, (.agg #[.int .i64 p.k, .string p.s, .int .i64 p.e.k, .int .i64 p.e.n, .int .i64 p.e.v.k, .int .i64 p.e.v.n, .string p.e.v.s, .string p.e.p, ue, us, .int .i64 p.n, u])] w fun x w' => x = .returned (.bool true) ∧ Below w.heap.size w w' := by
  obtain ⟨a_e, a_E, a_s, a_S, a_k, a_K, rfl, rfl, rfl, _, _, _, _, _, _⟩ := hr.shape
  obtain ⟨a, l, c, rfl⟩ := hq.shape
  obtain ⟨tb, hT⟩ : ∃ tb, Hid (touchB (namL d p) rs = tb) := ⟨_, rfl⟩
  go_enter Try.func12, Try.ntmps12
  go_wp2_with fail
  refine Calls.mono (szRelS_any (.slice a l c) rs 1048576 _ (hq.below ?hb) hwr (by decide) (by decide)) ?_
  case hb => repeat (first | (with_reducible exact Below.refl _ _) | (with_reducible refine Below.drew ?_) | (with_reducible refine Below.alloc ?_ ?hh _; case hh => first | (simp; done) | (simp; omega) | omega) | (with_reducible refine Below.setCell ?_ ?hh _; case hh => first | (simp; done) | (simp; omega) | omega) | refine bstep (by assumption) (by first | (simp; done) | (simp; omega) | omega) ?_)
  rintro x w1 ⟨⟨z1, rfl, l1, g1, s1⟩, hb1⟩
  have hz1 := hb1.size
  simp only [World.size_alloc] at hz1
  have hA : BxP w1 w.heap.size p (.slice a_e p.e.ks.length a_E) (.slice a_s p.es.length a_S) (.slice a_k p.ks.length a_K) := by refine ⟨by omega, ?_, ?_, ?_, ?_, ?_, ?_, ?_, ?_, ?_, ?_, ?_, ?_⟩ <;> exact cell_later hb1 (by go_simp)
  have hbw : Below w.heap.size w w1 := by repeat (first | (with_reducible exact Below.refl _ _) | (with_reducible refine Below.drew ?_) | (with_reducible refine Below.alloc ?_ ?hh _; case hh => first | (simp; done) | (simp; omega) | omega) | (with_reducible refine Below.setCell ?_ ?hh _; case hh => first | (simp; done) | (simp; omega) | omega) | refine bstep (by assumption) (by first | (simp; done) | (simp; omega) | omega) ?_)
  replace hr := hr.below hbw
  replace hq := hq.below hbw
  by_cases hn1 : z1 < 0
  · go_wp2_with fail
    go_returns
    exact ⟨rfl, hbw⟩
  have hnq : wtR rs ≤ 1048576 := by have := s1 (by omega); omega
  clear s1 hb1
  have qy := hA; obtain ⟨ly, y0, y1, y2, y3, y4, y5, y6, y7, y8, y9, y10, y11⟩ := qy
  go_wp2_with fail
  refine Calls.mono (szPlan_of (szPlanS_any D d) p (.slice a_e p.e.ks.length a_E) (.slice a_s p.es.length a_S) (.slice a_k p.ks.length a_K) F z1 _ hw hr (by omega) (by omega)) ?_
  rintro x w2 ⟨⟨z2, rfl, l2, g2, s2⟩, hb2⟩
  clear ly y0 y1 y2 y3 y4 y5 y6 y7 y8 y9 y10 y11
  have hzw := hbw.size
  replace hA := hA.below hb2
  replace hr := hr.below hb2
  replace hq := hq.below hb2
  replace hbw : Below w.heap.size w w2 := hbw.trans (hb2.mono hzw)
  replace hzw := hbw.size
  by_cases hn2 : z2 < 0
  · go_wp2_with fail
    go_returns
    exact ⟨rfl, hbw⟩
  have hne : wtP p ≤ 1048576 := by have := s2 (by omega); omega
  clear s2 hb2
  go_wp2_with fail
  refine wp_region_held_drew (S := (fun w' => BxP w' w.heap.size p (.slice a_e p.e.ks.length a_E) (.slice a_s p.es.length a_S) (.slice a_k p.ks.length a_K))) (by kernel_rfl) ?_ (fun hHeld => ?_)
  · exact hA.below (by repeat (first | (with_reducible exact Below.refl _ _) | (with_reducible refine Below.drew ?_) | (with_reducible refine Below.alloc ?_ ?hh _; case hh => first | (simp; done) | (simp; omega) | omega) | (with_reducible refine Below.setCell ?_ ?hh _; case hh => first | (simp; done) | (simp; omega) | omega) | refine bstep (by assumption) (by first | (simp; done) | (simp; omega) | omega) ?_))
  refine takeYes (i := 0) (d := 20) (v := ?_) rfl rfl (by kernel_rfl) (by kernel_rfl) (by kernel_rfl) (fun _ _ _ h => h) (by rfl) (by assumption) ?_ ?_
  rotate_left
  · intro w' hSw; obtain ⟨_, y0, y1, y2, y3, y4, y5, y6, y7, y8, y9, y10, y11⟩ := hSw; go_simp; try exact rfl
  try simp only [List.setIfInBounds_toArray, List.set_cons_zero, List.set_cons_succ]
  refine takeYes (i := 2) (d := 22) (v := ?_) rfl rfl (by kernel_rfl) (by kernel_rfl) (by kernel_rfl) (fun _ _ _ h => h) (by rfl) (by assumption) ?_ ?_
  rotate_left
  · intro w' hSw; obtain ⟨_, y0, y1, y2, y3, y4, y5, y6, y7, y8, y9, y10, y11⟩ := hSw; go_simp; try exact rfl
  try simp only [List.setIfInBounds_toArray, List.set_cons_zero, List.set_cons_succ]
  refine wpAnyH_ready (rs := [1]) (by kernel_rfl) (by simp) ?_
  refine AllReadyH.cons rfl (fun K hK => ?_) AllReadyH.nil
  go_simp
  go_at_call 58
  refine Calls.mono (toRelS_rels (.slice a l c) rs _ (hq.below (by repeat (first | (with_reducible exact Below.refl _ _) | (with_reducible refine Below.drew ?_) | (with_reducible refine Below.alloc ?_ ?hh _; case hh => first | (simp; done) | (simp; omega) | omega) | (with_reducible refine Below.setCell ?_ ?hh _; case hh => first | (simp; done) | (simp; omega) | omega) | refine bstep (by assumption) (by first | (simp; done) | (simp; omega) | omega) ?_))) hnq) ?_
  rintro x w3 ⟨⟨u3, rfl, hU3⟩, hb3⟩
  obtain ⟨a3, l3, c3, rfl⟩ := hU3.shape
  have hz3 := hb3.size
  (try simp at hz3)
  try go_wp2_with fail
  refine hK.out _ _ ?_ (fun hHeld1 => ?_)
  · exact hA.below (by repeat (first | (with_reducible exact Below.refl _ _) | (with_reducible refine Below.drew ?_) | (with_reducible refine Below.alloc ?_ ?hh _; case hh => first | (simp; done) | (simp; omega) | omega) | (with_reducible refine Below.setCell ?_ ?hh _; case hh => first | (simp; done) | (simp; omega) | omega) | refine bstep (by assumption) (by first | (simp; done) | (simp; omega) | omega) ?_))
  clear hK
  refine wpAnyH_ready (rs := [3]) (by kernel_rfl) (by simp) ?_
  refine AllReadyH.cons rfl (fun K hK => ?_) AllReadyH.nil
  go_simp
  go_at_call 49
  refine Calls.mono (toPlan_of (toPlanS_any D d) p (.slice a_e p.e.ks.length a_E) (.slice a_s p.es.length a_S) (.slice a_k p.ks.length a_K) F _ (hr.below (by repeat (first | (with_reducible exact Below.refl _ _) | (with_reducible refine Below.drew ?_) | (with_reducible refine Below.alloc ?_ ?hh _; case hh => first | (simp; done) | (simp; omega) | omega) | (with_reducible refine Below.setCell ?_ ?hh _; case hh => first | (simp; done) | (simp; omega) | omega) | refine bstep (by assumption) (by first | (simp; done) | (simp; omega) | omega) ?_))) hne) ?_
  rintro x w4 ⟨⟨ue4, us4, u4, F4, rfl, hU4, _⟩, hb4⟩
  obtain ⟨e_e, e_E, e_s, e_S, e_k, e_K, rfl, rfl, rfl, _, _, _, _, _, _⟩ := hU4.shape
  have hz4 := hb4.size
  (try simp at hz4)
  try go_wp2_with fail
  refine hK.out _ _ ?_ (fun hHeld3 => ?_)
  · exact hA.below (by repeat (first | (with_reducible exact Below.refl _ _) | (with_reducible refine Below.drew ?_) | (with_reducible refine Below.alloc ?_ ?hh _; case hh => first | (simp; done) | (simp; omega) | omega) | (with_reducible refine Below.setCell ?_ ?hh _; case hh => first | (simp; done) | (simp; omega) | omega) | refine bstep (by assumption) (by first | (simp; done) | (simp; omega) | omega) ?_))
  clear hK
  refine wpAnyH_ready (rs := [4]) (by kernel_rfl) (by simp) ?_
  refine AllReadyH.cons rfl (fun K hK => ?_) AllReadyH.nil
  go_simp
  go_at_call 65
  refine Calls.mono (specTouches_any D d (.slice a3 l3 c3) rs p _ _ _ F4 _ (hU3.below (by repeat (first | (with_reducible exact Below.refl _ _) | (with_reducible refine Below.drew ?_) | (with_reducible refine Below.alloc ?_ ?hh _; case hh => first | (simp; done) | (simp; omega) | omega) | (with_reducible refine Below.setCell ?_ ?hh _; case hh => first | (simp; done) | (simp; omega) | omega) | refine bstep (by assumption) (by first | (simp; done) | (simp; omega) | omega) ?_))) (hU4.below (by repeat (first | (with_reducible exact Below.refl _ _) | (with_reducible refine Below.drew ?_) | (with_reducible refine Below.alloc ?_ ?hh _; case hh => first | (simp; done) | (simp; omega) | omega) | (with_reducible refine Below.setCell ?_ ?hh _; case hh => first | (simp; done) | (simp; omega) | omega) | refine bstep (by assumption) (by first | (simp; done) | (simp; omega) | omega) ?_))) hne) ?_
  rw [hT.out]
  rintro x w5 ⟨rfl, hb5⟩
  have hz5 := hb5.size
  (try simp at hz5)
  try go_wp2_with fail
  refine hK.out _ _ ?_ (fun hHeld4 => ?_)
  · exact hA.below (by repeat (first | (with_reducible exact Below.refl _ _) | (with_reducible refine Below.drew ?_) | (with_reducible refine Below.alloc ?_ ?hh _; case hh => first | (simp; done) | (simp; omega) | omega) | (with_reducible refine Below.setCell ?_ ?hh _; case hh => first | (simp; done) | (simp; omega) | omega) | refine bstep (by assumption) (by first | (simp; done) | (simp; omega) | omega) ?_))
  clear hK
  refine takeYes (i := 5) (d := 6) (v := ?_) rfl rfl (by kernel_rfl) (by kernel_rfl) (by kernel_rfl) (fun _ _ _ h => h) (by rfl) (by assumption) ?_ ?_
  rotate_left
  · intro w' hSw; obtain ⟨_, y0, y1, y2, y3, y4, y5, y6, y7, y8, y9, y10, y11⟩ := hSw; go_simp; try exact rfl
  try simp only [List.setIfInBounds_toArray, List.set_cons_zero, List.set_cons_succ]
  refine wpAnyH_done (by kernel_rfl) ?_ _
  have hbx : Below w2.heap.size w2 w5 := by repeat (first | (with_reducible exact Below.refl _ _) | (with_reducible refine Below.drew ?_) | (with_reducible refine Below.alloc ?_ ?hh _; case hh => first | (simp; done) | (simp; omega) | omega) | (with_reducible refine Below.setCell ?_ ?hh _; case hh => first | (simp; done) | (simp; omega) | omega) | refine bstep (by assumption) (by first | (simp; done) | (simp; omega) | omega) ?_)
  replace hA := hA.below hbx
  replace hr := hr.below hbx
  replace hq := hq.below hbx
  replace hbw : Below w.heap.size w w5 := hbw.trans (hbx.mono hzw)
  replace hzw := hbw.size
  clear hHeld hHeld1 hHeld3 hHeld4 hb3 hb4 hb5 hU3 hU4 hbx hz3 hz4 hz5
  go_wp2_with fail
  refine Calls.mono (toRelS_rels (.slice a l c) rs w5 hq hnq) ?_
  rintro x w6 ⟨⟨u6, rfl, hU6⟩, hb6⟩
  obtain ⟨a6, l6, c6, rfl⟩ := hU6.shape
  replace hA := hA.below hb6
  replace hr := hr.below hb6
  replace hq := hq.below hb6
  replace hbw : Below w.heap.size w w6 := hbw.trans (hb6.mono hzw)
  replace hzw := hbw.size
  clear hb6
  have qy := hA; obtain ⟨ly, y0, y1, y2, y3, y4, y5, y6, y7, y8, y9, y10, y11⟩ := qy
  go_wp2_with fail
  refine Calls.mono (toPlan_of (toPlanS_any D d) p (.slice a_e p.e.ks.length a_E) (.slice a_s p.es.length a_S) (.slice a_k p.ks.length a_K) F w6 hr hne) ?_
  rintro x w7 ⟨⟨ue7, us7, u7, F7, rfl, hU7, hO7⟩, hb7⟩
  obtain ⟨x_e, x_E, x_s, x_S, x_k, x_K, rfl, rfl, rfl, _, _, _, _, _, _⟩ := hU7.shape
  clear ly y0 y1 y2 y3 y4 y5 y6 y7 y8 y9 y10 y11
  have hbB : Below w7.heap.size w7 (w7.alloc (.cells #[.int .i64 p.k, .string p.s, .int .i64 p.e.k, .int .i64 p.e.n, .int .i64 p.e.v.k, .int .i64 p.e.v.n, .string p.e.v.s, .string p.e.p, .slice x_e p.e.ks.length x_E, .slice x_s p.es.length x_S, .int .i64 p.n, .slice x_k p.ks.length x_K] 77)) := (Below.refl _ _).alloc (Nat.le_refl _) _
  have hX := bxP_new w7 p (.slice x_e p.e.ks.length x_E) (.slice x_s p.es.length x_S) (.slice x_k p.ks.length x_K) 77
  replace hA := (hA.below hb7).below hbB
  replace hr := (hr.below hb7).below hbB
  replace hq := (hq.below hb7).below hbB
  replace hU6 := (hU6.below hb7).below hbB
  have hU8 := hU7.below hbB
  have hO8 := hO7.below hU7.lt hbB
  replace hbw : Below w.heap.size w (w7.alloc (.cells #[.int .i64 p.k, .string p.s, .int .i64 p.e.k, .int .i64 p.e.n, .int .i64 p.e.v.k, .int .i64 p.e.v.n, .string p.e.v.s, .string p.e.p, .slice x_e p.e.ks.length x_E, .slice x_s p.es.length x_S, .int .i64 p.n, .slice x_k p.ks.length x_K] 77)) := (hbw.trans (hb7.mono hzw)).trans (hbB.mono (by have := hb7.size; omega))
  replace hzw := hbw.size
  clear hb7 hbB hU7 hO7
  go_wp2_with fail
  have hcall := implTouches_any D d w6.heap.size (.slice a6 l6 c6) rs p _ _ _ F7 _ hU6 hU8 hO8 hne
  rw [hT.out] at hcall
  have hsX : w7.heap.size < (w7.alloc (.cells #[.int .i64 p.k, .string p.s, .int .i64 p.e.k, .int .i64 p.e.n, .int .i64 p.e.v.k, .int .i64 p.e.v.n, .string p.e.v.s, .string p.e.p, .slice x_e p.e.ks.length x_E, .slice x_s p.es.length x_S, .int .i64 p.n, .slice x_k p.ks.length x_K] 77)).heap.size := by simp
  generalize w7.alloc (.cells #[.int .i64 p.k, .string p.s, .int .i64 p.e.k, .int .i64 p.e.n, .int .i64 p.e.v.k, .int .i64 p.e.v.n, .string p.e.v.s, .string p.e.p, .slice x_e p.e.ks.length x_E, .slice x_s p.es.length x_S, .int .i64 p.n, .slice x_k p.ks.length x_K] 77) = w8 at *
  refine Calls.mono hcall ?_
  rintro x w9 ⟨rfl, hb9⟩
  replace hA := hA.below hb9
  replace hX := hX.below hb9
  replace hr := hr.below hb9
  replace hq := hq.below hb9
  replace hU6 := hU6.below hb9
  have hU9 := hU8.below hb9
  replace hbw : Below w.heap.size w w9 := hbw.trans (hb9.mono hzw)
  replace hzw := hbw.size
  clear hb9 hcall hU8 hO8
  cases tb <;> (
    go_wp2_with fail
    refine Calls.mono (toRelS_rels (.slice a l c) rs w9 hq hnq) ?_
    rintro x w10 ⟨⟨u10, rfl, hU10⟩, hb10⟩
    obtain ⟨a10, l10, c10, rfl⟩ := hU10.shape
    go_wp2_with fail
    refine Calls.mono (eqRelS_same (.slice a6 l6 c6) (.slice a10 l10 c10) rs w10 (hU6.below hb10) hU10) ?_
    rintro x w11 ⟨rfl, hb11⟩
    have hb9 : Below w9.heap.size w9 w11 := hb10.trans (hb11.mono hb10.size)
    replace hA := hA.below hb9
    replace hX := hX.below hb9
    replace hr := hr.below hb9
    have hU11 := hU9.below hb9
    replace hbw : Below w.heap.size w w11 := hbw.trans (hb9.mono hzw)
    replace hzw := hbw.size
    clear hb9 hb10 hb11 hU6 hU10 hU9 hq
    go_wp2_with fail
    refine wp_region_held_drew (S := (fun w' => BxP w' w7.heap.size p (.slice x_e p.e.ks.length x_E) (.slice x_s p.es.length x_S) (.slice x_k p.ks.length x_K) ∧ BxP w' w.heap.size p (.slice a_e p.e.ks.length a_E) (.slice a_s p.es.length a_S) (.slice a_k p.ks.length a_K))) (by kernel_rfl) ?_ (fun hHeld => ?_)
    · exact ⟨hX.below (by repeat (first | (with_reducible exact Below.refl _ _) | (with_reducible refine Below.drew ?_) | (with_reducible refine Below.alloc ?_ ?hh _; case hh => first | (simp; done) | (simp; omega) | omega) | (with_reducible refine Below.setCell ?_ ?hh _; case hh => first | (simp; done) | (simp; omega) | omega) | refine bstep (by assumption) (by first | (simp; done) | (simp; omega) | omega) ?_)), hA.below (by repeat (first | (with_reducible exact Below.refl _ _) | (with_reducible refine Below.drew ?_) | (with_reducible refine Below.alloc ?_ ?hh _; case hh => first | (simp; done) | (simp; omega) | omega) | (with_reducible refine Below.setCell ?_ ?hh _; case hh => first | (simp; done) | (simp; omega) | omega) | refine bstep (by assumption) (by first | (simp; done) | (simp; omega) | omega) ?_))⟩
    refine takeYes (i := 0) (d := 40) (v := ?_) rfl rfl (by kernel_rfl) (by kernel_rfl) (by kernel_rfl) (fun _ _ _ h => h) (by rfl) (by assumption) ?_ ?_
    rotate_left
    · intro w' hSw; obtain ⟨⟨_, x0, x1, x2, x3, x4, x5, x6, x7, x8, x9, x10, x11⟩, ⟨_, y0, y1, y2, y3, y4, y5, y6, y7, y8, y9, y10, y11⟩⟩ := hSw; go_simp; try exact rfl
    try simp only [List.setIfInBounds_toArray, List.set_cons_zero, List.set_cons_succ]
    refine takeYes (i := 1) (d := 41) (v := ?_) rfl rfl (by kernel_rfl) (by kernel_rfl) (by kernel_rfl) (fun _ _ _ h => h) (by rfl) (by assumption) ?_ ?_
    rotate_left
    · intro w' hSw; obtain ⟨⟨_, x0, x1, x2, x3, x4, x5, x6, x7, x8, x9, x10, x11⟩, ⟨_, y0, y1, y2, y3, y4, y5, y6, y7, y8, y9, y10, y11⟩⟩ := hSw; go_simp; try exact rfl
    try simp only [List.setIfInBounds_toArray, List.set_cons_zero, List.set_cons_succ]
    refine wpAnyH_ready (rs := [2]) (by kernel_rfl) (by simp) ?_
    refine AllReadyH.cons rfl (fun K hK => ?_) AllReadyH.nil
    go_simp
    go_at_call 49
    refine Calls.mono (toPlan_of (toPlanS_any D d) p (.slice a_e p.e.ks.length a_E) (.slice a_s p.es.length a_S) (.slice a_k p.ks.length a_K) F _ (hr.below (by repeat (first | (with_reducible exact Below.refl _ _) | (with_reducible refine Below.drew ?_) | (with_reducible refine Below.alloc ?_ ?hh _; case hh => first | (simp; done) | (simp; omega) | omega) | (with_reducible refine Below.setCell ?_ ?hh _; case hh => first | (simp; done) | (simp; omega) | omega) | refine bstep (by assumption) (by first | (simp; done) | (simp; omega) | omega) ?_))) hne) ?_
    rintro x w12 ⟨⟨ue4, us4, u4, F4, rfl, hU12, _⟩, hb12⟩
    obtain ⟨e_e, e_E, e_s, e_S, e_k, e_K, rfl, rfl, rfl, _, _, _, _, _, _⟩ := hU12.shape
    have hz12 := hb12.size
    (try simp at hz12)
    try go_wp2_with fail
    refine hK.out _ _ ?_ (fun hHeld2 => ?_)
    · exact ⟨hX.below (by repeat (first | (with_reducible exact Below.refl _ _) | (with_reducible refine Below.drew ?_) | (with_reducible refine Below.alloc ?_ ?hh _; case hh => first | (simp; done) | (simp; omega) | omega) | (with_reducible refine Below.setCell ?_ ?hh _; case hh => first | (simp; done) | (simp; omega) | omega) | refine bstep (by assumption) (by first | (simp; done) | (simp; omega) | omega) ?_)), hA.below (by repeat (first | (with_reducible exact Below.refl _ _) | (with_reducible refine Below.drew ?_) | (with_reducible refine Below.alloc ?_ ?hh _; case hh => first | (simp; done) | (simp; omega) | omega) | (with_reducible refine Below.setCell ?_ ?hh _; case hh => first | (simp; done) | (simp; omega) | omega) | refine bstep (by assumption) (by first | (simp; done) | (simp; omega) | omega) ?_))⟩
    clear hK
    refine wpAnyH_ready (rs := [3]) (by kernel_rfl) (by simp) ?_
    refine AllReadyH.cons rfl (fun K hK => ?_) AllReadyH.nil
    go_simp
    go_at_call 52
    refine Calls.mono (eqPlan_of (eqPlanS_any D d) p _ _ _ _ _ _ _ _ _ (hU11.below (by repeat (first | (with_reducible exact Below.refl _ _) | (with_reducible refine Below.drew ?_) | (with_reducible refine Below.alloc ?_ ?hh _; case hh => first | (simp; done) | (simp; omega) | omega) | (with_reducible refine Below.setCell ?_ ?hh _; case hh => first | (simp; done) | (simp; omega) | omega) | refine bstep (by assumption) (by first | (simp; done) | (simp; omega) | omega) ?_))) (hU12.below (by repeat (first | (with_reducible exact Below.refl _ _) | (with_reducible refine Below.drew ?_) | (with_reducible refine Below.alloc ?_ ?hh _; case hh => first | (simp; done) | (simp; omega) | omega) | (with_reducible refine Below.setCell ?_ ?hh _; case hh => first | (simp; done) | (simp; omega) | omega) | refine bstep (by assumption) (by first | (simp; done) | (simp; omega) | omega) ?_)))) ?_
    rintro x w13 ⟨rfl, hb13⟩
    have hz13 := hb13.size
    (try simp at hz13)
    try go_wp2_with fail
    refine hK.out _ _ ?_ (fun hHeld3 => ?_)
    · exact ⟨hX.below (by repeat (first | (with_reducible exact Below.refl _ _) | (with_reducible refine Below.drew ?_) | (with_reducible refine Below.alloc ?_ ?hh _; case hh => first | (simp; done) | (simp; omega) | omega) | (with_reducible refine Below.setCell ?_ ?hh _; case hh => first | (simp; done) | (simp; omega) | omega) | refine bstep (by assumption) (by first | (simp; done) | (simp; omega) | omega) ?_)), hA.below (by repeat (first | (with_reducible exact Below.refl _ _) | (with_reducible refine Below.drew ?_) | (with_reducible refine Below.alloc ?_ ?hh _; case hh => first | (simp; done) | (simp; omega) | omega) | (with_reducible refine Below.setCell ?_ ?hh _; case hh => first | (simp; done) | (simp; omega) | omega) | refine bstep (by assumption) (by first | (simp; done) | (simp; omega) | omega) ?_))⟩
    clear hK
    refine takeYes (i := 4) (d := 44) (v := ?_) rfl rfl (by kernel_rfl) (by kernel_rfl) (by kernel_rfl) (fun _ _ _ h => h) (by rfl) (by assumption) ?_ ?_
    rotate_left
    · intro w' hSw; obtain ⟨⟨_, x0, x1, x2, x3, x4, x5, x6, x7, x8, x9, x10, x11⟩, ⟨_, y0, y1, y2, y3, y4, y5, y6, y7, y8, y9, y10, y11⟩⟩ := hSw; go_simp; try exact rfl
    try simp only [List.setIfInBounds_toArray, List.set_cons_zero, List.set_cons_succ]
    refine wpAnyH_done (by kernel_rfl) ?_ _
    have hbx : Below w11.heap.size w11 w13 := by repeat (first | (with_reducible exact Below.refl _ _) | (with_reducible refine Below.drew ?_) | (with_reducible refine Below.alloc ?_ ?hh _; case hh => first | (simp; done) | (simp; omega) | omega) | (with_reducible refine Below.setCell ?_ ?hh _; case hh => first | (simp; done) | (simp; omega) | omega) | refine bstep (by assumption) (by first | (simp; done) | (simp; omega) | omega) ?_)
    have belE : Below w.heap.size w w13 := hbw.trans (hbx.mono hzw)
    clear hHeld hHeld2 hHeld3 hb12 hb13 hU12 hU11 hbx hA hX hr hbw
    go_wp2
    go_returns
    exact ⟨rfl, belE⟩)
theorem walk (v : Value) (rs : List R3) (hwr : RsWf rs) (p : P12) (ue us u : Value) (F : List Nat) (D d : Nat) (hw : p.wf) (w : World) (hq : RelsIs w v rs) (hr : ListsP w D (PlansIs w D d) p ue us u F) :
    Calls Try.prog 12 #[v, (.agg #[.int .i64 p.k, .string p.s, .int .i64 p.e.k, .int .i64 p.e.n, .int .i64 p.e.v.k, .int .i64 p.e.v.n, .string p.e.v.s, .string p.e.p, ue, us, .int .i64 p.n, u])] w fun x w' => x = .returned (.bool true) ∧ Below w.heap.size w w' := walk0 v rs hwr p ue us u F D d hw w hq hr
end Go.Proofs.Ytnbcmkbkiebbdaa.fnExactTouches
