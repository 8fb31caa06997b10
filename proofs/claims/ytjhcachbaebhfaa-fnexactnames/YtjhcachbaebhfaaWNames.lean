/- Own text. The walk of the statement on Names. -/
import Derived.Test.YtjhcachbaebhfaaNmI
import Derived.Test.YtjhcachbaebhfaaStN
import Derived.Test.YtjhcachbaebhfaaToP
import Derived.Test.YtjhcachbaebhfaaPlC
import Derived.Test.YtjhcachbaebhfaaTake
import Derived.WalkKit
import Derived.WalkSpells
import Derived.WalkLawsBesides
import Derived.Handy
import Derived.Below
import Derived.Deep.RegionHeld3
import Derived.Deep.DeepCutAuto
namespace Go.Proofs.Ytjhcachbaebhfaa.fnExactNames
open Go.RowKit Go.Deep
set_option linter.unusedVariables false
set_option maxHeartbeats 8000000 in
set_option maxRecDepth 100000 in
theorem walk0 (p : P12) (ue us u : Value) (F : List Nat) (D d : Nat) (hw : p.wf) (w : World) (hr : ListsP w D (PlansIs w D d) p ue us u F) :
    Calls Try.prog 11 #[(.agg #[.int .i64 p.k, .string p.s, .int .i64 p.e.k, .int .i64 p.e.n, .int .i64 p.e.v.k, .int .i64 p.e.v.n, .string p.e.v.s, .string p.e.p, ue, us, .int .i64 p.n, u])] w fun x w' => x = .returned (.bool true) ∧ Below w.heap.size w w' := by
  obtain ⟨a_e, a_E, a_s, a_S, a_k, a_K, rfl, rfl, rfl, _, _, _, _, _, _⟩ := hr.shape
  obtain ⟨L, hL⟩ : ∃ L, Hid (namL d p = L) := ⟨_, rfl⟩
  go_enter Try.func11, Try.ntmps11
  go_wp2_with fail
  refine Calls.mono (szPlan_of (szPlanS_any D d) p (.slice a_e p.e.ks.length a_E) (.slice a_s p.es.length a_S) (.slice a_k p.ks.length a_K) F 1048576 _ hw (hr.below ?hb) (by decide) (by decide)) ?_
  case hb => repeat (first | (with_reducible exact Below.refl _ _) | (with_reducible refine Below.drew ?_) | (with_reducible refine Below.alloc ?_ ?hh _; case hh => first | (simp; done) | (simp; omega) | omega) | (with_reducible refine Below.setCell ?_ ?hh _; case hh => first | (simp; done) | (simp; omega) | omega) | refine bstep (by assumption) (by first | (simp; done) | (simp; omega) | omega) ?_)
  rintro x w1 ⟨⟨z1, rfl, l1, g1, s1⟩, hb1⟩
  have hz1 := hb1.size
  simp only [World.size_alloc] at hz1
  have hA : BxP w1 w.heap.size p (.slice a_e p.e.ks.length a_E) (.slice a_s p.es.length a_S) (.slice a_k p.ks.length a_K) := by refine ⟨by omega, ?_, ?_, ?_, ?_, ?_, ?_, ?_, ?_, ?_, ?_, ?_, ?_⟩ <;> exact cell_later hb1 (by go_simp)
  have hbw : Below w.heap.size w w1 := by repeat (first | (with_reducible exact Below.refl _ _) | (with_reducible refine Below.drew ?_) | (with_reducible refine Below.alloc ?_ ?hh _; case hh => first | (simp; done) | (simp; omega) | omega) | (with_reducible refine Below.setCell ?_ ?hh _; case hh => first | (simp; done) | (simp; omega) | omega) | refine bstep (by assumption) (by first | (simp; done) | (simp; omega) | omega) ?_)
  replace hr := hr.below hbw
  by_cases hn1 : z1 < 0
  · go_wp2_with fail
    go_returns
    exact ⟨rfl, hbw⟩
  have hne : wtP p ≤ 1048576 := by have := s1 (by omega); omega
  have hnL : L.length ≤ 1048577 := by have := namL_len d p; rw [hL.out] at this; omega
  clear s1 hb1
  have hzw := hbw.size
  have qy := hA; obtain ⟨ly, y0, y1, y2, y3, y4, y5, y6, y7, y8, y9, y10, y11⟩ := qy
  go_wp2_with fail
  refine Calls.mono (toPlan_of (toPlanS_any D d) p (.slice a_e p.e.ks.length a_E) (.slice a_s p.es.length a_S) (.slice a_k p.ks.length a_K) F w1 hr hne) ?_
  rintro x w2 ⟨⟨ue2, us2, u2, F2, rfl, hU2, _⟩, hb2⟩
  obtain ⟨e_e, e_E, e_s, e_S, e_k, e_K, rfl, rfl, rfl, _, _, _, _, _, _⟩ := hU2.shape
  clear ly y0 y1 y2 y3 y4 y5 y6 y7 y8 y9 y10 y11
  replace hA := hA.below hb2
  replace hr := hr.below hb2
  replace hbw : Below w.heap.size w w2 := hbw.trans (hb2.mono hzw)
  replace hzw := hbw.size
  clear hb2
  go_wp2_with fail
  refine Calls.mono (specNames_any D d p _ _ _ F2 w2 hU2 hne) ?_
  rintro x w3 ⟨⟨v3, rfl, hO3⟩, hb3⟩
  rw [hL.out] at hO3
  obtain ⟨F3, hS⟩ := hO3.f
  obtain ⟨a3, c3, rfl⟩ := hS.shape
  replace hA := hA.below hb3
  replace hr := hr.below hb3
  replace hbw : Below w.heap.size w w3 := hbw.trans (hb3.mono hzw)
  replace hzw := hbw.size
  clear hb3 hU2 hO3
  have qy := hA; obtain ⟨ly, y0, y1, y2, y3, y4, y5, y6, y7, y8, y9, y10, y11⟩ := qy
  go_wp2_with fail
  refine Calls.mono (toPlan_of (toPlanS_any D d) p (.slice a_e p.e.ks.length a_E) (.slice a_s p.es.length a_S) (.slice a_k p.ks.length a_K) F w3 hr hne) ?_
  rintro x w4 ⟨⟨ue4, us4, u4, F4, rfl, hX4, hO4⟩, hb4⟩
  obtain ⟨x_e, x_E, x_s, x_S, x_k, x_K, rfl, rfl, rfl, _, _, _, _, _, _⟩ := hX4.shape
  clear ly y0 y1 y2 y3 y4 y5 y6 y7 y8 y9 y10 y11
  have hlA3 := hA.1
  have hz4 := hb4.size
  have hA4 := hA.below hb4
  have hb4b : Below w4.heap.size w4 (w4.alloc (.cells #[.int .i64 p.k, .string p.s, .int .i64 p.e.k, .int .i64 p.e.n, .int .i64 p.e.v.k, .int .i64 p.e.v.n, .string p.e.v.s, .string p.e.p, .slice x_e p.e.ks.length x_E, .slice x_s p.es.length x_S, .int .i64 p.n, .slice x_k p.ks.length x_K] 77)) := (Below.refl _ _).alloc (Nat.le_refl _) _
  have hXb := bxP_new w4 p (.slice x_e p.e.ks.length x_E) (.slice x_s p.es.length x_S) (.slice x_k p.ks.length x_K) 77
  have hsX : (w4.alloc (.cells #[.int .i64 p.k, .string p.s, .int .i64 p.e.k, .int .i64 p.e.n, .int .i64 p.e.v.k, .int .i64 p.e.v.n, .string p.e.v.s, .string p.e.p, .slice x_e p.e.ks.length x_E, .slice x_s p.es.length x_S, .int .i64 p.n, .slice x_k p.ks.length x_K] 77)).heap.size = w4.heap.size + 1 := by simp
  have hcall := implNames_any D d w3.heap.size p _ _ _ F4 _ (hX4.below hb4b) (hO4.below hX4.lt hb4b) hne
  rw [hL.out] at hcall
  go_wp2_with fail
  generalize w4.alloc (.cells #[.int .i64 p.k, .string p.s, .int .i64 p.e.k, .int .i64 p.e.n, .int .i64 p.e.v.k, .int .i64 p.e.v.n, .string p.e.v.s, .string p.e.p, .slice x_e p.e.ks.length x_E, .slice x_s p.es.length x_S, .int .i64 p.n, .slice x_k p.ks.length x_K] 77) = w4b at *
  refine Calls.mono hcall ?_
  rintro x w5 ⟨⟨v5, F5, rfl, hG5, hO5⟩, hb5⟩
  obtain ⟨a5, c5, rfl⟩ := hG5.shape
  have hz5 := hb5.size
  have hb45 : Below w4.heap.size w4 w5 := hb4b.trans (hb5.mono (by omega))
  have hX5 := hX4.below hb45
  have hO45 := hO4.below hX4.lt hb45
  have hXb5 := hXb.below hb5
  have d45 : ∀ b ∈ F5, b ∉ F4 := fun b hb hb' => by have := hX4.lt b hb'; have := (hO5.2 b hb).1; omega
  have hA4n : w.heap.size ∉ F4 := fun hb => by have := (hO4.2 _ hb).1; omega
  have st : StN w3 w5 p (.slice a5 L.length c5) L F5 w.heap.size (.slice a_e p.e.ks.length a_E) (.slice a_s p.es.length a_S) (.slice a_k p.ks.length a_K) :=
    ⟨hb4.trans (hb45.mono hz4), hG5, ⟨hO5.1, fun b hb => ⟨by have := (hO5.2 b hb).1; omega, (hO5.2 b hb).2⟩⟩, hA4.below hb45, fun hb => by have := (hO5.2 _ hb).1; omega⟩
  have hF4 : ∀ b ∈ F4, w3.heap.size ≤ b := fun b hb => (hO4.2 b hb).1
  clear hX4 hO4 hG5 hO5 hb4 hb5 hb45 hb4b hXb hA4 hA hcall hz5 hsX
  go_wp2_with fail
  refine (eqStringS_same (.slice a5 L.length c5) (.slice a3 L.length c3) L F5 F3 w5 st.gg (hS.below st.bel)).mono ?_
  rintro x w6 ⟨rfl, hb6⟩
  have st6 := st.below hb6
  have hX6 := hX5.below hb6
  have hO6 := hO45.below hX5.lt hb6
  have hXb6 := hXb5.below hb6
  clear st hb6 hX5 hO45 hXb5
  have hA6 := st6.bx
  have hr6 := hr.below st6.bel
  go_wp2_with fail
  refine wp_region_held_drew (S := (fun w' => BxP w' w4.heap.size p (.slice x_e p.e.ks.length x_E) (.slice x_s p.es.length x_S) (.slice x_k p.ks.length x_K) ∧ BxP w' w.heap.size p (.slice a_e p.e.ks.length a_E) (.slice a_s p.es.length a_S) (.slice a_k p.ks.length a_K))) (by kernel_rfl) ?_ (fun hHeld => ?_)
  · exact ⟨hXb6.below (by repeat (first | (with_reducible exact Below.refl _ _) | (with_reducible refine Below.drew ?_) | (with_reducible refine Below.alloc ?_ ?hh _; case hh => first | (simp; done) | (simp; omega) | omega) | (with_reducible refine Below.setCell ?_ ?hh _; case hh => first | (simp; done) | (simp; omega) | omega) | refine bstep (by assumption) (by first | (simp; done) | (simp; omega) | omega) ?_)), hA6.below (by repeat (first | (with_reducible exact Below.refl _ _) | (with_reducible refine Below.drew ?_) | (with_reducible refine Below.alloc ?_ ?hh _; case hh => first | (simp; done) | (simp; omega) | omega) | (with_reducible refine Below.setCell ?_ ?hh _; case hh => first | (simp; done) | (simp; omega) | omega) | refine bstep (by assumption) (by first | (simp; done) | (simp; omega) | omega) ?_))⟩
  refine takeYes (i := 0) (d := 27) (v := ?_) rfl rfl (by kernel_rfl) (by kernel_rfl) (by kernel_rfl) (fun _ _ _ h => h) (by rfl) (by assumption) ?_ ?_
  rotate_left
  · intro w' hSw; obtain ⟨⟨_, x0, x1, x2, x3, x4, x5, x6, x7, x8, x9, x10, x11⟩, ⟨_, y0, y1, y2, y3, y4, y5, y6, y7, y8, y9, y10, y11⟩⟩ := hSw; go_simp; try exact rfl
  try simp only [List.setIfInBounds_toArray, List.set_cons_zero, List.set_cons_succ]
  refine takeYes (i := 1) (d := 28) (v := ?_) rfl rfl (by kernel_rfl) (by kernel_rfl) (by kernel_rfl) (fun _ _ _ h => h) (by rfl) (by assumption) ?_ ?_
  rotate_left
  · intro w' hSw; obtain ⟨⟨_, x0, x1, x2, x3, x4, x5, x6, x7, x8, x9, x10, x11⟩, ⟨_, y0, y1, y2, y3, y4, y5, y6, y7, y8, y9, y10, y11⟩⟩ := hSw; go_simp; try exact rfl
  try simp only [List.setIfInBounds_toArray, List.set_cons_zero, List.set_cons_succ]
  refine wpAnyH_ready (rs := [2]) (by kernel_rfl) (by simp) ?_
  refine AllReadyH.cons rfl (fun K hK => ?_) AllReadyH.nil
  go_simp
  go_at_call 52
  refine Calls.mono (toPlan_of (toPlanS_any D d) p (.slice a_e p.e.ks.length a_E) (.slice a_s p.es.length a_S) (.slice a_k p.ks.length a_K) F _ (hr6.below (by repeat (first | (with_reducible exact Below.refl _ _) | (with_reducible refine Below.drew ?_) | (with_reducible refine Below.alloc ?_ ?hh _; case hh => first | (simp; done) | (simp; omega) | omega) | (with_reducible refine Below.setCell ?_ ?hh _; case hh => first | (simp; done) | (simp; omega) | omega) | refine bstep (by assumption) (by first | (simp; done) | (simp; omega) | omega) ?_))) hne) ?_
  rintro x w7 ⟨⟨ue7, us7, u7, F7, rfl, hU7, _⟩, hb7⟩
  obtain ⟨f_e, f_E, f_s, f_S, f_k, f_K, rfl, rfl, rfl, _, _, _, _, _, _⟩ := hU7.shape
  have hz7 := hb7.size
  (try simp at hz7)
  try go_wp2_with fail
  refine hK.out _ _ ?_ (fun hHeld2 => ?_)
  · exact ⟨hXb6.below (by repeat (first | (with_reducible exact Below.refl _ _) | (with_reducible refine Below.drew ?_) | (with_reducible refine Below.alloc ?_ ?hh _; case hh => first | (simp; done) | (simp; omega) | omega) | (with_reducible refine Below.setCell ?_ ?hh _; case hh => first | (simp; done) | (simp; omega) | omega) | refine bstep (by assumption) (by first | (simp; done) | (simp; omega) | omega) ?_)), hA6.below (by repeat (first | (with_reducible exact Below.refl _ _) | (with_reducible refine Below.drew ?_) | (with_reducible refine Below.alloc ?_ ?hh _; case hh => first | (simp; done) | (simp; omega) | omega) | (with_reducible refine Below.setCell ?_ ?hh _; case hh => first | (simp; done) | (simp; omega) | omega) | refine bstep (by assumption) (by first | (simp; done) | (simp; omega) | omega) ?_))⟩
  clear hK
  refine wpAnyH_ready (rs := [3]) (by kernel_rfl) (by simp) ?_
  refine AllReadyH.cons rfl (fun K hK => ?_) AllReadyH.nil
  go_simp
  go_at_call 54
  refine Calls.mono (eqPlan_of (eqPlanS_any D d) p _ _ _ _ _ _ _ _ _ (hX6.below (by repeat (first | (with_reducible exact Below.refl _ _) | (with_reducible refine Below.drew ?_) | (with_reducible refine Below.alloc ?_ ?hh _; case hh => first | (simp; done) | (simp; omega) | omega) | (with_reducible refine Below.setCell ?_ ?hh _; case hh => first | (simp; done) | (simp; omega) | omega) | refine bstep (by assumption) (by first | (simp; done) | (simp; omega) | omega) ?_))) (hU7.below (by repeat (first | (with_reducible exact Below.refl _ _) | (with_reducible refine Below.drew ?_) | (with_reducible refine Below.alloc ?_ ?hh _; case hh => first | (simp; done) | (simp; omega) | omega) | (with_reducible refine Below.setCell ?_ ?hh _; case hh => first | (simp; done) | (simp; omega) | omega) | refine bstep (by assumption) (by first | (simp; done) | (simp; omega) | omega) ?_)))) ?_
  rintro x w8 ⟨rfl, hb8⟩
  have hz8 := hb8.size
  (try simp at hz8)
  try go_wp2_with fail
  refine hK.out _ _ ?_ (fun hHeld3 => ?_)
  · exact ⟨hXb6.below (by repeat (first | (with_reducible exact Below.refl _ _) | (with_reducible refine Below.drew ?_) | (with_reducible refine Below.alloc ?_ ?hh _; case hh => first | (simp; done) | (simp; omega) | omega) | (with_reducible refine Below.setCell ?_ ?hh _; case hh => first | (simp; done) | (simp; omega) | omega) | refine bstep (by assumption) (by first | (simp; done) | (simp; omega) | omega) ?_)), hA6.below (by repeat (first | (with_reducible exact Below.refl _ _) | (with_reducible refine Below.drew ?_) | (with_reducible refine Below.alloc ?_ ?hh _; case hh => first | (simp; done) | (simp; omega) | omega) | (with_reducible refine Below.setCell ?_ ?hh _; case hh => first | (simp; done) | (simp; omega) | omega) | refine bstep (by assumption) (by first | (simp; done) | (simp; omega) | omega) ?_))⟩
  clear hK
  refine takeYes (i := 4) (d := 31) (v := ?_) rfl rfl (by kernel_rfl) (by kernel_rfl) (by kernel_rfl) (fun _ _ _ h => h) (by rfl) (by assumption) ?_ ?_
  rotate_left
  · intro w' hSw; obtain ⟨⟨_, x0, x1, x2, x3, x4, x5, x6, x7, x8, x9, x10, x11⟩, ⟨_, y0, y1, y2, y3, y4, y5, y6, y7, y8, y9, y10, y11⟩⟩ := hSw; go_simp; try exact rfl
  try simp only [List.setIfInBounds_toArray, List.set_cons_zero, List.set_cons_succ]
  refine wpAnyH_done (by kernel_rfl) ?_ _
  have hb68 : Below w6.heap.size w6 w8 := by repeat (first | (with_reducible exact Below.refl _ _) | (with_reducible refine Below.drew ?_) | (with_reducible refine Below.alloc ?_ ?hh _; case hh => first | (simp; done) | (simp; omega) | omega) | (with_reducible refine Below.setCell ?_ ?hh _; case hh => first | (simp; done) | (simp; omega) | omega) | refine bstep (by assumption) (by first | (simp; done) | (simp; omega) | omega) ?_)
  have st8 := st6.below hb68
  have hX8 := hX6.below hb68
  have hO8 := hO6.below hX6.lt hb68
  have hXb8 := hXb6.below hb68
  clear hHeld hHeld2 hHeld3 hb7 hb8 hU7 hb68 st6 hX6 hO6 hXb6 hA6 hr6
  obtain ⟨ly, y0, y1, y2, y3, y4, y5, y6, y7, y8, y9, y10, y11⟩ := hXb8
  go_wp2_with fail
  refine Calls.mono (markPlan_any D d 1 p (.slice x_e p.e.ks.length x_E) (.slice x_s p.es.length x_S) (.slice x_k p.ks.length x_K) F4 w8 hX8 hO8.1 (fun b hb o => (hO8.2 b hb).2 o) (by decide) (by omega)) ?_
  rintro x w9 ⟨⟨kx, rfl, hop, hop2⟩, hc9⟩
  have st9 := st8.chg hc9 hF4 d45 hA4n
  clear st8 hc9 hX8 hO8 d45 hA4n hF4
  clear ly y0 y1 y2 y3 y4 y5 y6 y7 y8 y9 y10 y11
  go_wp2_with fail
  refine (eqStringS_same (.slice a5 L.length c5) (.slice a3 L.length c3) L F5 F3 w9 st9.gg (hS.below st9.bel)).mono ?_
  rintro x w10 ⟨rfl, hb10⟩
  have st10 := st9.below hb10
  clear st9 hb10
  go_wp2_with fail
  refine (markStringS_any 1 (.slice a5 L.length c5) L F5 w10 st10.gg st10.fg (by decide) (by omega)).mono ?_
  rintro x w11 ⟨rfl, hx11, hc11⟩
  have st11 := st10.markG hc11 hx11
  have hheld := fun w' => heldStringS_any 1 (.slice a5 L.length c5) L F5 w'
  have hkg : 1 + L.length ≤ 999999900 := by omega
  have hkp : 0 < 1 + L.length := by omega
  generalize 1 + L.length = kg at *
  clear st10 hx11 hc11
  go_wp2_with fail
  refine Calls.mono (hheld w11 st11.gg (by decide) (by omega)) ?_
  rintro x w12 ⟨rfl, hb12⟩
  have st12 := st11.below hb12
  clear st11 hb12
  obtain ⟨ly, y0, y1, y2, y3, y4, y5, y6, y7, y8, y9, y10, y11⟩ := st12.bx
  go_wp2_with fail
  refine Calls.mono (toPlan_of (toPlanS_any D d) p (.slice a_e p.e.ks.length a_E) (.slice a_s p.es.length a_S) (.slice a_k p.ks.length a_K) F w12 (hr.below st12.bel) hne) ?_
  rintro x w13 ⟨⟨ue13, us13, u13, F13, rfl, hX13, hO13⟩, hb13⟩
  obtain ⟨g_e, g_E, g_s, g_S, g_k, g_K, rfl, rfl, rfl, _, _, _, _, _, _⟩ := hX13.shape
  have st13 := st12.below hb13
  clear st12 hb13
  clear ly y0 y1 y2 y3 y4 y5 y6 y7 y8 y9 y10 y11
  have hcall := implNames_any D d w12.heap.size p _ _ _ F13 w13 hX13 hO13 hne
  rw [hL.out] at hcall
  go_wp2_with fail
  refine Calls.mono hcall ?_
  rintro x w14 ⟨⟨v14, F14, rfl, hG14, _⟩, hb14⟩
  obtain ⟨a14, c14, rfl⟩ := hG14.shape
  have st14 := st13.below hb14
  clear st13 hb14 hX13 hO13 hcall
  go_wp2_with fail
  refine (eqStringS_same (.slice a14 L.length c14) (.slice a3 L.length c3) L F14 F3 w14 hG14 (hS.below st14.bel)).mono ?_
  rintro x w15 ⟨rfl, hb15⟩
  have st15 := st14.below hb15
  clear st14 hb15 hG14
  go_wp2_with fail
  refine Calls.mono (hheld w15 st15.gg (by decide) (by omega)) ?_
  rintro x w16 ⟨rfl, hb16⟩
  have belE : Below w.heap.size w w16 := hbw.trans ((st15.below hb16).bel.mono hzw)
  clear st15 hb16 hheld
  go_wp2
  go_returns
  exact ⟨rfl, belE⟩
theorem walk (p : P12) (ue us u : Value) (F : List Nat) (D d : Nat) (hw : p.wf) (w : World) (hr : ListsP w D (PlansIs w D d) p ue us u F) :
    Calls Try.prog 11 #[(.agg #[.int .i64 p.k, .string p.s, .int .i64 p.e.k, .int .i64 p.e.n, .int .i64 p.e.v.k, .int .i64 p.e.v.n, .string p.e.v.s, .string p.e.p, ue, us, .int .i64 p.n, u])] w fun x w' => x = .returned (.bool true) ∧ Below w.heap.size w w' := walk0 p ue us u F D d hw w hr
end Go.Proofs.Ytjhcachbaebhfaa.fnExactNames
