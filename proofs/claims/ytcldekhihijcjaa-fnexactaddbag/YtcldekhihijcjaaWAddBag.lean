/- Own text. The walk of the statement on AddBag. -/
import Derived.Test.YtcldekhihijcjaaAddR
import Derived.Test.YtcldekhihijcjaaTake
import Derived.WalkKit
import Derived.WalkSpells
import Derived.WalkLawsBesides
import Derived.Handy
import Derived.Below
import Derived.Deep.RegionHeld3
import Derived.Deep.DeepCutAuto
namespace Go.Proofs.Ytcldekhihijcjaa.fnExactAddBag
open Go.RowKit
set_option linter.unusedVariables false
set_option maxHeartbeats 8000000 in
set_option maxRecDepth 100000 in
theorem walk (W : Int) (v : Value) (cs : List C2) (hW : (Lit.int .i64 W).wf = true) (wc : CsWf cs) (Wb : Int) (vb : Value) (ds : List C2) (hWb : (Lit.int .i64 Wb).wf = true) (wd : CsWf ds) (w : World) (hra : RowsIs w v cs) (hrb : RowsIs w vb ds) :
    Calls Try.prog 4 #[.agg #[.int .i64 W, v], .agg #[.int .i64 Wb, vb]] w fun e w' => e = .returned (.bool true) ∧ Below w.heap.size w w' := by
  obtain ⟨av, lv, cv, rfl⟩ := hra.shape
  obtain ⟨bv, lb, cb, rfl⟩ := hrb.shape
  go_enter Try.func4, Try.ntmps4
  go_wp2_with fail
  refine Calls.mono (szBag_any W (.slice av lv cv) cs 1048576 _ (hra.below ?hb) wc (by decide) (by decide)) ?_
  case hb => repeat (first | (with_reducible exact Below.refl _ _) | (with_reducible refine Below.drew ?_) | (with_reducible refine Below.alloc ?_ ?hh _; case hh => first | (simp; done) | (simp; omega) | omega) | (with_reducible refine Below.setCell ?_ ?hh _; case hh => first | (simp; done) | (simp; omega) | omega) | refine bstep (by assumption) (by first | (simp; done) | (simp; omega) | omega) ?_)
  rintro e w1 ⟨⟨z1, rfl, l1, g1, s1⟩, hb1⟩
  have hz1 := hb1.size
  simp only [World.size_alloc] at hz1
  have hA : Var2 w1 w.heap.size (.int .i64 W) (.slice av lv cv) := ((Var2.new w _ _ _).below ((Below.refl _ _).alloc (Nat.le_refl _) _)).below hb1
  have hB : Var2 w1 (w.heap.size + 1) (.int .i64 Wb) (.slice bv lb cb) := by
    have h := (Var2.new (w.alloc (.cells #[.int .i64 W, .slice av lv cv] 37)) (.int .i64 Wb) (.slice bv lb cb) 37).below hb1
    rw [World.size_alloc] at h
    exact h
  have hbw : Below w.heap.size w w1 := by repeat (first | (with_reducible exact Below.refl _ _) | (with_reducible refine Below.drew ?_) | (with_reducible refine Below.alloc ?_ ?hh _; case hh => first | (simp; done) | (simp; omega) | omega) | (with_reducible refine Below.setCell ?_ ?hh _; case hh => first | (simp; done) | (simp; omega) | omega) | refine bstep (by assumption) (by first | (simp; done) | (simp; omega) | omega) ?_)
  have hzw := hbw.size
  by_cases hn1 : z1 < 0
  · go_wp2_with fail
    go_returns
    exact ⟨rfl, hbw⟩
  have hn : wtb cs ≤ 1048576 := by have := s1 (by omega); omega
  clear s1 hb1
  have q_b := hB; obtain ⟨_, _, b0, b1⟩ := q_b
  go_wp2_with fail
  refine Calls.mono (szBag_any Wb (.slice bv lb cb) ds z1 _ (hrb.below hbw) wd (by omega) (by omega)) ?_
  rintro e w2 ⟨⟨z2, rfl, l2, g2, s2⟩, hb2⟩
  clear b0 b1
  replace hA := hA.below hb2
  replace hB := hB.below hb2
  replace hbw : Below w.heap.size w w2 := hbw.trans (hb2.mono hzw)
  replace hzw := hbw.size
  by_cases hn2' : z2 < 0
  · go_wp2_with fail
    go_returns
    exact ⟨rfl, hbw⟩
  have hn2 : wtb ds ≤ 1048576 := by have := s2 (by omega); omega
  have hnR : wtb (addC W Wb cs ds) ≤ 2097152 := by have := wtb_addC W Wb cs ds; omega
  clear s2 hb2
  go_wp2_with fail
  have hzB : w.heap.size + 1 < w2.heap.size := hB.lt
  refine wp_region_held_drew (S := (fun w' => Var2 w' w.heap.size (.int .i64 W) (.slice av lv cv) ∧ Var2 w' (w.heap.size + 1) (.int .i64 Wb) (.slice bv lb cb))) (by kernel_rfl) ?_ (fun hHeld => ?_)
  · exact ⟨hA.below (by repeat (first | (with_reducible exact Below.refl _ _) | (with_reducible refine Below.drew ?_) | (with_reducible refine Below.alloc ?_ ?hh _; case hh => first | (simp; done) | (simp; omega) | omega) | (with_reducible refine Below.setCell ?_ ?hh _; case hh => first | (simp; done) | (simp; omega) | omega) | refine bstep (by assumption) (by first | (simp; done) | (simp; omega) | omega) ?_)), hB.below (by repeat (first | (with_reducible exact Below.refl _ _) | (with_reducible refine Below.drew ?_) | (with_reducible refine Below.alloc ?_ ?hh _; case hh => first | (simp; done) | (simp; omega) | omega) | (with_reducible refine Below.setCell ?_ ?hh _; case hh => first | (simp; done) | (simp; omega) | omega) | refine bstep (by assumption) (by first | (simp; done) | (simp; omega) | omega) ?_))⟩
  refine takeYes (i := 0) (d := 24) (v := ?_) rfl rfl (by kernel_rfl) (by kernel_rfl) (by kernel_rfl) (fun _ _ _ h => h) (by rfl) (by assumption) ?_ ?_
  rotate_left
  · intro w' hSw; obtain ⟨⟨_, _, a0, a1⟩, ⟨_, _, b0, b1⟩⟩ := hSw; go_simp; try exact rfl
  try simp only [List.setIfInBounds_toArray, List.set_cons_zero, List.set_cons_succ]
  refine takeYes (i := 2) (d := 26) (v := ?_) rfl rfl (by kernel_rfl) (by kernel_rfl) (by kernel_rfl) (fun _ _ _ h => h) (by rfl) (by assumption) ?_ ?_
  rotate_left
  · intro w' hSw; obtain ⟨⟨_, _, a0, a1⟩, ⟨_, _, b0, b1⟩⟩ := hSw; go_simp; try exact rfl
  try simp only [List.setIfInBounds_toArray, List.set_cons_zero, List.set_cons_succ]
  have zW : w2.drew.heap.size = w2.heap.size := rfl
  have hbd : Below w2.heap.size w2 w2.drew := (Below.refl _ _).drew
  refine calls_var (f0 := 1) [(1, 25), (3, 27), (4, 28)] (RB W Wb cs ds) (fun w' N => Var2 w' N (.int .i64 0) (.slice none 0 0)) 5 6 (.cells #[.int .i64 0, .slice none 0 0] 26) (Lend := #[true, true, true, true, true, true, false]) (by kernel_rfl) (by kernel_rfl) (by simp) (by simp) (by kernel_rfl) (by kernel_rfl) (fun w' => Var2.new _ _ _ _) (fun _ _ _ h hb => h.below hb) (fun _ _ h => h.lt) (fun w' hb => ⟨hHeld.1.below hb, hHeld.2.below hb⟩) (fun c _ v w' w'' bs h hb => h.below hb) ?_ ?_ ?_
  · intro c hc
    simp only [List.mem_cons, List.not_mem_nil, or_false] at hc
    rcases hc with rfl | rfl | rfl
    · intro listed a wq K hrd hO hbq hcs hK
      have hbq' : Below w.heap.size w wq := bstep (hbd.trans hbq) hzw hbw
      refine wpOp_step rfl (fun K' hK' => ?_)
      have hKK : Shut (∀ a w, K a w → K' a w) := hK'
      clear hK'
      obtain ⟨ats, ads⟩ := a
      have e0 : ats.getD 24 undef = .agg #[.int .i64 W, (.slice av lv cv)] := (hO.2.2 24 (by simp)).trans rfl
      clear hO hcs hrd
      rw [if_pos (by rfl)]
      go_simp
      refine Calls.mono (toBag_F W (.slice av lv cv) cs wq (hra.below hbq') hn) ?_
      rintro x w' ⟨⟨u, F, rfl, hU, hOw⟩, hb⟩
      exact hKK.out _ _ (hK.out _ w' F hb (rb1.2 ⟨u, rfl, hU⟩) (fun b hbF => ⟨hOw.2.1 b hbF, hU.lt b hbF⟩))
    · intro listed a wq K hrd hO hbq hcs hK
      have hbq' : Below w.heap.size w wq := bstep (hbd.trans hbq) hzw hbw
      refine wpOp_step rfl (fun K' hK' => ?_)
      have hKK : Shut (∀ a w, K a w → K' a w) := hK'
      clear hK'
      obtain ⟨ats, ads⟩ := a
      have e0 : ats.getD 26 undef = .agg #[.int .i64 Wb, (.slice bv lb cb)] := (hO.2.2 26 (by simp)).trans rfl
      clear hO hcs hrd
      rw [if_pos (by rfl)]
      go_simp
      refine Calls.mono (toBag_F Wb (.slice bv lb cb) ds wq (hrb.below hbq') hn2) ?_
      rintro x w' ⟨⟨u, F, rfl, hU, hOw⟩, hb⟩
      exact hKK.out _ _ (hK.out _ w' F hb (rb3.2 ⟨u, rfl, hU⟩) (fun b hbF => ⟨hOw.2.1 b hbF, hU.lt b hbF⟩))
    · intro listed a wq K hrd hO hbq hcs hK
      have hbq' : Below w.heap.size w wq := bstep (hbd.trans hbq) hzw hbw
      refine wpOp_step rfl (fun K' hK' => ?_)
      have hKK : Shut (∀ a w, K a w → K' a w) := hK'
      clear hK'
      obtain ⟨ats, ads⟩ := a
      obtain ⟨F1, h1⟩ := hcs (1, 25) (by simp) (waitsOn_listed (by kernel_rfl) hrd)
      obtain ⟨F2, h2⟩ := hcs (3, 27) (by simp) (waitsOn_listed (by kernel_rfl) hrd)
      obtain ⟨u1, e1, hU1⟩ := rb1.1 h1
      obtain ⟨u2, e2, hU2⟩ := rb3.1 h2
      have e1' : ats.getD 25 undef = .agg #[.int .i64 W, u1] := e1
      have e2' : ats.getD 27 undef = .agg #[.int .i64 Wb, u2] := e2
      clear hO hcs hrd e1 e2 h1 h2
      rw [if_pos (by rfl)]
      go_simp
      refine Calls.mono (specAdd_any W Wb u1 u2 cs ds F1 F2 wq hU1 hU2 hn hn2 wc wd) ?_
      rintro x w' ⟨⟨u, us, G, rfl, hBO⟩, hb⟩
      obtain ⟨F, hU, hOw⟩ := hBO.rowsF
      exact hKK.out _ _ (hK.out _ w' F hb (rb4.2 ⟨u, rfl, hU⟩) (fun b hbF => ⟨hOw.2.1 b hbF, hU.lt b hbF⟩))
  · intro a wq K hK
    refine wpOp_step rfl (fun K' hK' => ?_)
    have hKK := hK' _ _ hK
    clear hK hK'
    rw [if_pos (by rfl)]
    go_simp
    exact hKK
  intro V N wz hbz lN hN hcz
  obtain ⟨F3, h4, hf4, hn4⟩ := hcz (4, 28) (by simp)
  obtain ⟨u4, e4, hSp⟩ := rb4.1 h4
  clear hcz h4
  obtain ⟨a3, l3, c3, rfl⟩ := hSp.is.shape
  simp only [List.map, List.foldl, List.cons_append, List.nil_append, e4]
  generalize V 25 = V1
  generalize V 27 = V2
  clear e4 V
  try simp only [List.setIfInBounds_toArray, List.set_cons_zero, List.set_cons_succ]
  rw [zW] at lN hf4
  clear zW
  refine wpAnyH_ready (rs := [6]) (by kernel_rfl) (by simp) ?_
  refine AllReadyH.cons rfl (fun KK hKK => ?_) AllReadyH.nil
  have hq := hN
  obtain ⟨_, f6, z0, z1⟩ := hq
  go_simp
  clear f6 z0 z1
  have hbx : Below w2.heap.size w2 ((wz.setCell ⟨N, 0, none⟩ (.int .i64 W)).setCell ⟨N, 1, none⟩ (.slice a3 l3 c3)) := ((hbd.trans hbz).setCell lN _).setCell lN _
  replace hN := hN.put (.int .i64 W) (.slice a3 l3 c3)
  replace hSp := hSp.keep (w' := (wz.setCell ⟨N, 0, none⟩ (.int .i64 W)).setCell ⟨N, 1, none⟩ (.slice a3 l3 c3)) (by simp) (fun b hb => by rw [Below.heap_setCell _ _ _ _ (show b ≠ N from fun e => hn4 (e ▸ hb)), Below.heap_setCell _ _ _ _ (show b ≠ N from fun e => hn4 (e ▸ hb))])
  obtain ⟨w3, hW⟩ : ∃ x, x = ((wz.setCell ⟨N, 0, none⟩ (.int .i64 W)).setCell ⟨N, 1, none⟩ (.slice a3 l3 c3)) := ⟨_, rfl⟩
  rw [← hW] at hbx hN hSp
  rw [← hW]
  clear hW hbz hbd
  refine hKK.out _ _ ⟨hA.below hbx, hB.below hbx⟩ (fun hHeld6 => ?_)
  clear hKK hHeld6 hHeld
  refine wpAnyH_done (by kernel_rfl) ?_ _
  replace hA := hA.below hbx
  replace hB := hB.below hbx
  replace hbw : Below w.heap.size w w3 := hbw.trans (hbx.mono hzw)
  replace hzw := hbw.size
  have hz23 := hbx.size
  have hl3 := hSp.lt
  have hlN := hN.lt
  clear hbx hf4
  have q_a := hA; obtain ⟨_, _, a0, a1⟩ := q_a
  go_wp2_with fail
  refine Calls.mono (toBag_F W (.slice av lv cv) cs w3 (hra.below hbw) hn) ?_
  rintro e w4 ⟨⟨u4, F4, rfl, hU4, hO4⟩, hb4⟩
  obtain ⟨a4, l4, c4, rfl⟩ := hU4.is.shape
  clear a0 a1
  replace hA := hA.below hb4
  replace hB := hB.below hb4
  replace hN := hN.below hb4
  replace hSp := hSp.below hb4
  replace hbw : Below w.heap.size w w4 := hbw.trans (hb4.mono hzw)
  have hz34 := hb4.size
  have hl4 := hU4.lt
  have hy4 : w.heap.size + 1 < w4.heap.size := by omega
  clear hb4
  have q_b := hB; obtain ⟨_, _, b0, b1⟩ := q_b
  go_wp2_with fail
  refine Calls.mono (toBag_F Wb (.slice bv lb cb) ds _ (hrb.below ?hb) hn2) ?_
  case hb => exact hbw.alloc (by omega) _
  rintro e w5 ⟨⟨u5, F5, rfl, hU5, hO5⟩, hb5⟩
  obtain ⟨a5, l5, c5, rfl⟩ := hU5.is.shape
  clear b0 b1
  have hX : Var2 w5 w4.heap.size (.int .i64 W) (.slice a4 l4 c4) := (Var2.new w4 _ _ _).below hb5
  have hz45 := hb5.size
  simp only [World.size_alloc] at hz45 hO5
  have hbx : Below w4.heap.size w4 w5 := by repeat (first | (with_reducible exact Below.refl _ _) | (with_reducible refine Below.drew ?_) | (with_reducible refine Below.alloc ?_ ?hh _; case hh => first | (simp; done) | (simp; omega) | omega) | (with_reducible refine Below.setCell ?_ ?hh _; case hh => first | (simp; done) | (simp; omega) | omega) | refine bstep (by assumption) (by first | (simp; done) | (simp; omega) | omega) ?_)
  clear hb5
  replace hA := hA.below hbx
  replace hB := hB.below hbx
  replace hN := hN.below hbx
  replace hSp := hSp.below hbx
  have hU4' := hU4.below hbx
  have hO4' := hO4.below hl4 hbx
  replace hbw : Below w.heap.size w w5 := hbw.trans (hbx.mono (by omega))
  have hl5 := hU5.lt
  have hy45 : w4.heap.size < w5.heap.size := by omega
  have hy5 : w.heap.size + 1 < w5.heap.size := by omega
  clear hbx hU4
  have q_x := hX; obtain ⟨_, _, x0, x1⟩ := q_x
  go_wp2_with fail
  have hbB : Below w5.heap.size w5 (w5.alloc (.cells #[.int .i64 Wb, (.slice a5 l5 c5)] 26)) := (Below.refl _ _).alloc (Nat.le_refl _) _
  refine Calls.mono (implAdd_any W Wb (.slice a4 l4 c4) (.slice a5 l5 c5) cs ds F4 F5 _ (hU4'.below hbB) (hU5.below hbB) hn hn2 wc wd) ?_
  rintro e w6 ⟨⟨u6, us6, G6, rfl, hBO⟩, hb6⟩
  obtain ⟨F6, hU6, hO6⟩ := hBO.rowsF
  obtain ⟨a6, l6, c6, rfl⟩ := hU6.is.shape
  clear x0 x1
  clear hBO hbB
  have hY : Var2 w6 w5.heap.size (.int .i64 Wb) (.slice a5 l5 c5) := (Var2.new w5 _ _ _).below hb6
  have hz56 := hb6.size
  simp only [World.size_alloc] at hz56 hO6
  have hbx : Below w5.heap.size w5 w6 := by repeat (first | (with_reducible exact Below.refl _ _) | (with_reducible refine Below.drew ?_) | (with_reducible refine Below.alloc ?_ ?hh _; case hh => first | (simp; done) | (simp; omega) | omega) | (with_reducible refine Below.setCell ?_ ?hh _; case hh => first | (simp; done) | (simp; omega) | omega) | refine bstep (by assumption) (by first | (simp; done) | (simp; omega) | omega) ?_)
  have hl6 := hU6.lt
  have hbG : Below w6.heap.size w6 (w6.alloc (.cells #[.int .i64 W, (.slice a6 l6 c6)] 26)) := (Below.refl _ _).alloc (Nat.le_refl _) _
  have st : St3 w (w6.alloc (.cells #[.int .i64 W, (.slice a6 l6 c6)] 26)) N w4.heap.size w5.heap.size w6.heap.size W Wb (.slice av lv cv) (.slice bv lb cb) (.slice a3 l3 c3) (.slice a4 l4 c4) (.slice a5 l5 c5) (.slice a6 l6 c6) (addC W Wb cs ds) cs ds (addC W Wb cs ds) F3 F4 F5 F6 := by
    refine ⟨(hbw.trans (hbx.mono (by omega))).trans (hbG.mono (by omega)), (hA.below hbx).below hbG, (hB.below hbx).below hbG, (hN.below hbx).below hbG, (hX.below hbx).below hbG, hY.below hbG, Var2.new w6 _ _ _, (hSp.below hbx).below hbG, (hU4'.below hbx).below hbG, (hU5.below hbx).below hbG, hU6.below hbG, (Own.below ⟨hO4'.1, fun b hb => (by have := hO4'.2.1 b hb; omega), hO4'.2.2⟩ hU4'.lt hbx).below (hU4'.below hbx).lt hbG, (Own.below ⟨hO5.1, fun b hb => (by have := hO5.2.1 b hb; omega), hO5.2.2⟩ hl5 hbx).below (hU5.below hbx).lt hbG, Own.below ⟨hO6.1, fun b hb => (by have := hO6.2.1 b hb; omega), hO6.2.2⟩ hl6 hbG, ?_, ?_, ?_⟩
    · intro b hb
      have h1 := hl4 b hb
      have h2 := hO4'.2.1 b hb
      exact ⟨by omega, fun h => by have := hl3 b h; omega, fun h => by have := hO5.2.1 b h; omega, fun h => by have := hO6.2.1 b h; omega⟩
    · intro b hb
      have h1 := hl5 b hb
      have h2 := hO5.2.1 b hb
      exact ⟨by omega, fun h => by have := hl3 b h; omega, fun h => by have := hl4 b h; omega, fun h => by have := hO6.2.1 b h; omega⟩
    · intro b hb
      have h1 := hl6 b hb
      have h2 := hO6.2.1 b hb
      exact ⟨by omega, fun h => by have := hl3 b h; omega, fun h => by have := hl4 b h; omega, fun h => by have := hl5 b h; omega⟩
  have hyN : N < w6.heap.size := by omega
  have hy6 : w.heap.size + 1 < w6.heap.size := by omega
  have hy46 : w4.heap.size < w6.heap.size := by omega
  have hy56 : w5.heap.size < w6.heap.size := by omega
  clear hA hB hN hX hY hSp hU4' hU5 hU6 hO4 hO4' hO5 hO6 hb6 hbx hbG hl3 hl4 hl5 hl6 hlN hn4 hbw hzw
  have q_g := st.pg; obtain ⟨_, _, g0, g1⟩ := q_g
  have q_s := st.ps; obtain ⟨_, _, s0, s1⟩ := q_s
  go_wp2_with fail
  refine Calls.mono (eqBag_same W (.slice a6 l6 c6) (.slice a3 l3 c3) (addC W Wb cs ds) _ st.gg.is st.sp.is) ?_
  rintro e w7 ⟨rfl, hb7⟩
  have st7 := st.below hb7
  clear hb7
  clear g0 g1 s0 s1
  have hz7 : w6.heap.size < w7.heap.size := st7.pg.lt
  clear st
  have hbw := st7.bel
  have hzw := hbw.size
  go_wp2_with fail
  refine wp_region_held_drew (S := (fun w' => Var2 w' w4.heap.size (.int .i64 W) (.slice a4 l4 c4) ∧ Var2 w' w.heap.size (.int .i64 W) (.slice av lv cv))) (by kernel_rfl) ?_ (fun hHeld => ?_)
  · exact ⟨st7.px.below (by repeat (first | (with_reducible exact Below.refl _ _) | (with_reducible refine Below.drew ?_) | (with_reducible refine Below.alloc ?_ ?hh _; case hh => first | (simp; done) | (simp; omega) | omega) | (with_reducible refine Below.setCell ?_ ?hh _; case hh => first | (simp; done) | (simp; omega) | omega) | refine bstep (by assumption) (by first | (simp; done) | (simp; omega) | omega) ?_)), st7.pa.below (by repeat (first | (with_reducible exact Below.refl _ _) | (with_reducible refine Below.drew ?_) | (with_reducible refine Below.alloc ?_ ?hh _; case hh => first | (simp; done) | (simp; omega) | omega) | (with_reducible refine Below.setCell ?_ ?hh _; case hh => first | (simp; done) | (simp; omega) | omega) | refine bstep (by assumption) (by first | (simp; done) | (simp; omega) | omega) ?_))⟩
  refine takeYes (i := 0) (d := 40) (v := ?_) rfl rfl (by kernel_rfl) (by kernel_rfl) (by kernel_rfl) (fun _ _ _ h => h) (by rfl) (by assumption) ?_ ?_
  rotate_left
  · intro w' hSw; obtain ⟨⟨_, _, x0, x1⟩, ⟨_, _, a0, a1⟩⟩ := hSw; go_simp; try exact rfl
  try simp only [List.setIfInBounds_toArray, List.set_cons_zero, List.set_cons_succ]
  refine takeYes (i := 1) (d := 41) (v := ?_) rfl rfl (by kernel_rfl) (by kernel_rfl) (by kernel_rfl) (fun _ _ _ h => h) (by rfl) (by assumption) ?_ ?_
  rotate_left
  · intro w' hSw; obtain ⟨⟨_, _, x0, x1⟩, ⟨_, _, a0, a1⟩⟩ := hSw; go_simp; try exact rfl
  try simp only [List.setIfInBounds_toArray, List.set_cons_zero, List.set_cons_succ]
  refine wpAnyH_ready (rs := [2]) (by kernel_rfl) (by simp) ?_
  refine AllReadyH.cons rfl (fun KK hKK => ?_) AllReadyH.nil
  go_simp
  go_at_call 17
  refine Calls.mono (toBag_F W (.slice av lv cv) cs _ (hra.below (by repeat (first | (with_reducible exact Below.refl _ _) | (with_reducible refine Below.drew ?_) | (with_reducible refine Below.alloc ?_ ?hh _; case hh => first | (simp; done) | (simp; omega) | omega) | (with_reducible refine Below.setCell ?_ ?hh _; case hh => first | (simp; done) | (simp; omega) | omega) | refine bstep (by assumption) (by first | (simp; done) | (simp; omega) | omega) ?_))) hn) ?_
  rintro x w8 ⟨⟨u8, F8, rfl, hU, _⟩, hb8⟩
  obtain ⟨a8, l8, c8, rfl⟩ := hU.is.shape
  have hz8 := hb8.size
  (try simp at hz8)
  try go_wp2_with fail
  refine hKK.out _ _ ?_ (fun hHeld2 => ?_)
  · exact ⟨st7.px.below (by repeat (first | (with_reducible exact Below.refl _ _) | (with_reducible refine Below.drew ?_) | (with_reducible refine Below.alloc ?_ ?hh _; case hh => first | (simp; done) | (simp; omega) | omega) | (with_reducible refine Below.setCell ?_ ?hh _; case hh => first | (simp; done) | (simp; omega) | omega) | refine bstep (by assumption) (by first | (simp; done) | (simp; omega) | omega) ?_)), st7.pa.below (by repeat (first | (with_reducible exact Below.refl _ _) | (with_reducible refine Below.drew ?_) | (with_reducible refine Below.alloc ?_ ?hh _; case hh => first | (simp; done) | (simp; omega) | omega) | (with_reducible refine Below.setCell ?_ ?hh _; case hh => first | (simp; done) | (simp; omega) | omega) | refine bstep (by assumption) (by first | (simp; done) | (simp; omega) | omega) ?_))⟩
  clear hKK
  refine wpAnyH_ready (rs := [3]) (by kernel_rfl) (by simp) ?_
  refine AllReadyH.cons rfl (fun KK hKK => ?_) AllReadyH.nil
  go_simp
  go_at_call 10
  refine Calls.mono (eqBag_same W (.slice a4 l4 c4) (.slice a8 l8 c8) cs _ (st7.xx.below (by repeat (first | (with_reducible exact Below.refl _ _) | (with_reducible refine Below.drew ?_) | (with_reducible refine Below.alloc ?_ ?hh _; case hh => first | (simp; done) | (simp; omega) | omega) | (with_reducible refine Below.setCell ?_ ?hh _; case hh => first | (simp; done) | (simp; omega) | omega) | refine bstep (by assumption) (by first | (simp; done) | (simp; omega) | omega) ?_))).is (hU.below (by repeat (first | (with_reducible exact Below.refl _ _) | (with_reducible refine Below.drew ?_) | (with_reducible refine Below.alloc ?_ ?hh _; case hh => first | (simp; done) | (simp; omega) | omega) | (with_reducible refine Below.setCell ?_ ?hh _; case hh => first | (simp; done) | (simp; omega) | omega) | refine bstep (by assumption) (by first | (simp; done) | (simp; omega) | omega) ?_))).is) ?_
  rintro x w9 ⟨rfl, hb9⟩
  have hz9 := hb9.size
  (try simp at hz9)
  try go_wp2_with fail
  refine hKK.out _ _ ?_ (fun hHeld3 => ?_)
  · exact ⟨st7.px.below (by repeat (first | (with_reducible exact Below.refl _ _) | (with_reducible refine Below.drew ?_) | (with_reducible refine Below.alloc ?_ ?hh _; case hh => first | (simp; done) | (simp; omega) | omega) | (with_reducible refine Below.setCell ?_ ?hh _; case hh => first | (simp; done) | (simp; omega) | omega) | refine bstep (by assumption) (by first | (simp; done) | (simp; omega) | omega) ?_)), st7.pa.below (by repeat (first | (with_reducible exact Below.refl _ _) | (with_reducible refine Below.drew ?_) | (with_reducible refine Below.alloc ?_ ?hh _; case hh => first | (simp; done) | (simp; omega) | omega) | (with_reducible refine Below.setCell ?_ ?hh _; case hh => first | (simp; done) | (simp; omega) | omega) | refine bstep (by assumption) (by first | (simp; done) | (simp; omega) | omega) ?_))⟩
  clear hKK
  refine takeYes (i := 4) (d := 44) (v := ?_) rfl rfl (by kernel_rfl) (by kernel_rfl) (by kernel_rfl) (fun _ _ _ h => h) (by rfl) (by assumption) ?_ ?_
  rotate_left
  · intro w' hSw; obtain ⟨⟨_, _, x0, x1⟩, ⟨_, _, a0, a1⟩⟩ := hSw; go_simp; try exact rfl
  try simp only [List.setIfInBounds_toArray, List.set_cons_zero, List.set_cons_succ]
  refine wpAnyH_done (by kernel_rfl) ?_ _
  have hbx : Below w7.heap.size w7 w9 := by repeat (first | (with_reducible exact Below.refl _ _) | (with_reducible refine Below.drew ?_) | (with_reducible refine Below.alloc ?_ ?hh _; case hh => first | (simp; done) | (simp; omega) | omega) | (with_reducible refine Below.setCell ?_ ?hh _; case hh => first | (simp; done) | (simp; omega) | omega) | refine bstep (by assumption) (by first | (simp; done) | (simp; omega) | omega) ?_)
  have st9 := st7.below hbx
  clear hHeld hHeld2 hHeld3 hU hb8 hb9 hbx hbw hzw st7
  (try clear hz8 hz9)
  have hbw := st9.bel
  have hzw := hbw.size
  go_wp2_with fail
  refine wp_region_held_drew (S := (fun w' => Var2 w' w5.heap.size (.int .i64 Wb) (.slice a5 l5 c5) ∧ Var2 w' (w.heap.size + 1) (.int .i64 Wb) (.slice bv lb cb))) (by kernel_rfl) ?_ (fun hHeld => ?_)
  · exact ⟨st9.py.below (by repeat (first | (with_reducible exact Below.refl _ _) | (with_reducible refine Below.drew ?_) | (with_reducible refine Below.alloc ?_ ?hh _; case hh => first | (simp; done) | (simp; omega) | omega) | (with_reducible refine Below.setCell ?_ ?hh _; case hh => first | (simp; done) | (simp; omega) | omega) | refine bstep (by assumption) (by first | (simp; done) | (simp; omega) | omega) ?_)), st9.pb.below (by repeat (first | (with_reducible exact Below.refl _ _) | (with_reducible refine Below.drew ?_) | (with_reducible refine Below.alloc ?_ ?hh _; case hh => first | (simp; done) | (simp; omega) | omega) | (with_reducible refine Below.setCell ?_ ?hh _; case hh => first | (simp; done) | (simp; omega) | omega) | refine bstep (by assumption) (by first | (simp; done) | (simp; omega) | omega) ?_))⟩
  refine takeYes (i := 0) (d := 45) (v := ?_) rfl rfl (by kernel_rfl) (by kernel_rfl) (by kernel_rfl) (fun _ _ _ h => h) (by rfl) (by assumption) ?_ ?_
  rotate_left
  · intro w' hSw; obtain ⟨⟨_, _, x0, x1⟩, ⟨_, _, a0, a1⟩⟩ := hSw; go_simp; try exact rfl
  try simp only [List.setIfInBounds_toArray, List.set_cons_zero, List.set_cons_succ]
  refine takeYes (i := 1) (d := 46) (v := ?_) rfl rfl (by kernel_rfl) (by kernel_rfl) (by kernel_rfl) (fun _ _ _ h => h) (by rfl) (by assumption) ?_ ?_
  rotate_left
  · intro w' hSw; obtain ⟨⟨_, _, x0, x1⟩, ⟨_, _, a0, a1⟩⟩ := hSw; go_simp; try exact rfl
  try simp only [List.setIfInBounds_toArray, List.set_cons_zero, List.set_cons_succ]
  refine wpAnyH_ready (rs := [2]) (by kernel_rfl) (by simp) ?_
  refine AllReadyH.cons rfl (fun KK hKK => ?_) AllReadyH.nil
  go_simp
  go_at_call 17
  refine Calls.mono (toBag_F Wb (.slice bv lb cb) ds _ (hrb.below (by repeat (first | (with_reducible exact Below.refl _ _) | (with_reducible refine Below.drew ?_) | (with_reducible refine Below.alloc ?_ ?hh _; case hh => first | (simp; done) | (simp; omega) | omega) | (with_reducible refine Below.setCell ?_ ?hh _; case hh => first | (simp; done) | (simp; omega) | omega) | refine bstep (by assumption) (by first | (simp; done) | (simp; omega) | omega) ?_))) hn2) ?_
  rintro x w10 ⟨⟨u10, F10, rfl, hU, _⟩, hb10⟩
  obtain ⟨a10, l10, c10, rfl⟩ := hU.is.shape
  have hz10 := hb10.size
  (try simp at hz10)
  try go_wp2_with fail
  refine hKK.out _ _ ?_ (fun hHeld2 => ?_)
  · exact ⟨st9.py.below (by repeat (first | (with_reducible exact Below.refl _ _) | (with_reducible refine Below.drew ?_) | (with_reducible refine Below.alloc ?_ ?hh _; case hh => first | (simp; done) | (simp; omega) | omega) | (with_reducible refine Below.setCell ?_ ?hh _; case hh => first | (simp; done) | (simp; omega) | omega) | refine bstep (by assumption) (by first | (simp; done) | (simp; omega) | omega) ?_)), st9.pb.below (by repeat (first | (with_reducible exact Below.refl _ _) | (with_reducible refine Below.drew ?_) | (with_reducible refine Below.alloc ?_ ?hh _; case hh => first | (simp; done) | (simp; omega) | omega) | (with_reducible refine Below.setCell ?_ ?hh _; case hh => first | (simp; done) | (simp; omega) | omega) | refine bstep (by assumption) (by first | (simp; done) | (simp; omega) | omega) ?_))⟩
  clear hKK
  refine wpAnyH_ready (rs := [3]) (by kernel_rfl) (by simp) ?_
  refine AllReadyH.cons rfl (fun KK hKK => ?_) AllReadyH.nil
  go_simp
  go_at_call 10
  refine Calls.mono (eqBag_same Wb (.slice a5 l5 c5) (.slice a10 l10 c10) ds _ (st9.yy.below (by repeat (first | (with_reducible exact Below.refl _ _) | (with_reducible refine Below.drew ?_) | (with_reducible refine Below.alloc ?_ ?hh _; case hh => first | (simp; done) | (simp; omega) | omega) | (with_reducible refine Below.setCell ?_ ?hh _; case hh => first | (simp; done) | (simp; omega) | omega) | refine bstep (by assumption) (by first | (simp; done) | (simp; omega) | omega) ?_))).is (hU.below (by repeat (first | (with_reducible exact Below.refl _ _) | (with_reducible refine Below.drew ?_) | (with_reducible refine Below.alloc ?_ ?hh _; case hh => first | (simp; done) | (simp; omega) | omega) | (with_reducible refine Below.setCell ?_ ?hh _; case hh => first | (simp; done) | (simp; omega) | omega) | refine bstep (by assumption) (by first | (simp; done) | (simp; omega) | omega) ?_))).is) ?_
  rintro x w11 ⟨rfl, hb11⟩
  have hz11 := hb11.size
  (try simp at hz11)
  try go_wp2_with fail
  refine hKK.out _ _ ?_ (fun hHeld3 => ?_)
  · exact ⟨st9.py.below (by repeat (first | (with_reducible exact Below.refl _ _) | (with_reducible refine Below.drew ?_) | (with_reducible refine Below.alloc ?_ ?hh _; case hh => first | (simp; done) | (simp; omega) | omega) | (with_reducible refine Below.setCell ?_ ?hh _; case hh => first | (simp; done) | (simp; omega) | omega) | refine bstep (by assumption) (by first | (simp; done) | (simp; omega) | omega) ?_)), st9.pb.below (by repeat (first | (with_reducible exact Below.refl _ _) | (with_reducible refine Below.drew ?_) | (with_reducible refine Below.alloc ?_ ?hh _; case hh => first | (simp; done) | (simp; omega) | omega) | (with_reducible refine Below.setCell ?_ ?hh _; case hh => first | (simp; done) | (simp; omega) | omega) | refine bstep (by assumption) (by first | (simp; done) | (simp; omega) | omega) ?_))⟩
  clear hKK
  refine takeYes (i := 4) (d := 49) (v := ?_) rfl rfl (by kernel_rfl) (by kernel_rfl) (by kernel_rfl) (fun _ _ _ h => h) (by rfl) (by assumption) ?_ ?_
  rotate_left
  · intro w' hSw; obtain ⟨⟨_, _, x0, x1⟩, ⟨_, _, a0, a1⟩⟩ := hSw; go_simp; try exact rfl
  try simp only [List.setIfInBounds_toArray, List.set_cons_zero, List.set_cons_succ]
  refine wpAnyH_done (by kernel_rfl) ?_ _
  have hbx : Below w9.heap.size w9 w11 := by repeat (first | (with_reducible exact Below.refl _ _) | (with_reducible refine Below.drew ?_) | (with_reducible refine Below.alloc ?_ ?hh _; case hh => first | (simp; done) | (simp; omega) | omega) | (with_reducible refine Below.setCell ?_ ?hh _; case hh => first | (simp; done) | (simp; omega) | omega) | refine bstep (by assumption) (by first | (simp; done) | (simp; omega) | omega) ?_)
  have st11 := st9.below hbx
  clear hHeld hHeld2 hHeld3 hU hb10 hb11 hbx hbw hzw st9
  (try clear hz10 hz11)
  have q_x := st11.px; obtain ⟨_, _, x0, x1⟩ := q_x
  go_wp2_with fail
  refine Calls.mono (markBag_any W 1 (.slice a4 l4 c4) cs F4 w11 st11.xx st11.o4.1 st11.o4.2.2 (by decide) (by omega)) ?_
  rintro e w12 ⟨rfl, hx, hc⟩
  have st12 := st11.markX hc hx
  have hoff := offC_le 1 cs cs.length
  have hop : 0 < offC 1 cs cs.length := by unfold offC; omega
  generalize offC 1 cs cs.length = kx at *
  clear x0 x1
  clear hx hc st11
  have q_y := st12.py; obtain ⟨_, _, y0, y1⟩ := q_y
  go_wp2_with fail
  refine Calls.mono (markBag_any Wb kx (.slice a5 l5 c5) ds F5 w12 st12.yy st12.o5.1 st12.o5.2.2 hop (by omega)) ?_
  rintro e w13 ⟨rfl, hx, hc⟩
  have st13 := st12.markY hc hx
  have hoffy := offC_le kx ds ds.length
  have hopy : 0 < offC kx ds ds.length := by unfold offC; omega
  generalize offC kx ds ds.length = ky at *
  clear y0 y1
  clear hx hc st12
  have q_g := st13.pg; obtain ⟨_, _, g0, g1⟩ := q_g
  have q_s := st13.ps; obtain ⟨_, _, s0, s1⟩ := q_s
  go_wp2_with fail
  refine Calls.mono (eqBag_same W (.slice a6 l6 c6) (.slice a3 l3 c3) (addC W Wb cs ds) _ st13.gg.is st13.sp.is) ?_
  rintro e w14 ⟨rfl, hb14⟩
  have st14 := st13.below hb14
  clear hb14
  clear g0 g1 s0 s1
  clear st13
  have q_g := st14.pg; obtain ⟨_, _, g0, g1⟩ := q_g
  go_wp2_with fail
  refine Calls.mono (markBag_any W 1 (.slice a6 l6 c6) (addC W Wb cs ds) F6 w14 st14.gg st14.o6.1 st14.o6.2.2 (by decide) (by omega)) ?_
  rintro e w15 ⟨rfl, hx, hc⟩
  have st15 := st14.markG hc hx
  have hoffg := offC_le 1 (addC W Wb cs ds) (addC W Wb cs ds).length
  have hheld := fun w' => heldBag_any W 1 (.slice a6 l6 c6) (addC W Wb cs ds) w'
  generalize offC 1 (addC W Wb cs ds) (addC W Wb cs ds).length = kg at *
  clear g0 g1
  clear hx hc st14
  have q_g := st15.pg; obtain ⟨_, _, g0, g1⟩ := q_g
  go_wp2_with fail
  refine Calls.mono (hheld w15 st15.gg.is (by decide) (by omega)) ?_
  rintro e w16 ⟨rfl, hb16⟩
  have st16 := st15.below hb16
  clear g0 g1
  clear hb16 st15
  have hA := st16.pa
  have hB := st16.pb
  have hbw := st16.bel
  have hzw := hbw.size
  go_wp2_with fail
  refine wp_region_held_drew (S := (fun w' => Var2 w' w.heap.size (.int .i64 W) (.slice av lv cv) ∧ Var2 w' (w.heap.size + 1) (.int .i64 Wb) (.slice bv lb cb))) (by kernel_rfl) ?_ (fun hHeld => ?_)
  · exact ⟨hA.below (by repeat (first | (with_reducible exact Below.refl _ _) | (with_reducible refine Below.drew ?_) | (with_reducible refine Below.alloc ?_ ?hh _; case hh => first | (simp; done) | (simp; omega) | omega) | (with_reducible refine Below.setCell ?_ ?hh _; case hh => first | (simp; done) | (simp; omega) | omega) | refine bstep (by assumption) (by first | (simp; done) | (simp; omega) | omega) ?_)), hB.below (by repeat (first | (with_reducible exact Below.refl _ _) | (with_reducible refine Below.drew ?_) | (with_reducible refine Below.alloc ?_ ?hh _; case hh => first | (simp; done) | (simp; omega) | omega) | (with_reducible refine Below.setCell ?_ ?hh _; case hh => first | (simp; done) | (simp; omega) | omega) | refine bstep (by assumption) (by first | (simp; done) | (simp; omega) | omega) ?_))⟩
  refine takeYes (i := 0) (d := 75) (v := ?_) rfl rfl (by kernel_rfl) (by kernel_rfl) (by kernel_rfl) (fun _ _ _ h => h) (by rfl) (by assumption) ?_ ?_
  rotate_left
  · intro w' hSw; obtain ⟨⟨_, _, a0, a1⟩, ⟨_, _, b0, b1⟩⟩ := hSw; go_simp; try exact rfl
  try simp only [List.setIfInBounds_toArray, List.set_cons_zero, List.set_cons_succ]
  refine takeYes (i := 2) (d := 77) (v := ?_) rfl rfl (by kernel_rfl) (by kernel_rfl) (by kernel_rfl) (fun _ _ _ h => h) (by rfl) (by assumption) ?_ ?_
  rotate_left
  · intro w' hSw; obtain ⟨⟨_, _, a0, a1⟩, ⟨_, _, b0, b1⟩⟩ := hSw; go_simp; try exact rfl
  try simp only [List.setIfInBounds_toArray, List.set_cons_zero, List.set_cons_succ]
  have zW : w16.drew.heap.size = w16.heap.size := rfl
  have hbd : Below w16.heap.size w16 w16.drew := (Below.refl _ _).drew
  refine calls_var (f0 := 1) [(1, 76), (3, 78), (4, 79)] (RB W Wb cs ds) (fun w' N => Var2 w' N (.int .i64 0) (.slice none 0 0)) 5 13 (.cells #[.int .i64 0, .slice none 0 0] 26) (Lend := #[true, true, true, true, true, true, false]) (by kernel_rfl) (by kernel_rfl) (by simp) (by simp) (by kernel_rfl) (by kernel_rfl) (fun w' => Var2.new _ _ _ _) (fun _ _ _ h hb => h.below hb) (fun _ _ h => h.lt) (fun w' hb => ⟨hHeld.1.below hb, hHeld.2.below hb⟩) (fun c _ v w' w'' bs h hb => h.below hb) ?_ ?_ ?_
  · intro c hc
    simp only [List.mem_cons, List.not_mem_nil, or_false] at hc
    rcases hc with rfl | rfl | rfl
    · intro listed a wq K hrd hO hbq hcs hK
      have hbq' : Below w.heap.size w wq := bstep (hbd.trans hbq) hzw hbw
      refine wpOp_step rfl (fun K' hK' => ?_)
      have hKK : Shut (∀ a w, K a w → K' a w) := hK'
      clear hK'
      obtain ⟨ats, ads⟩ := a
      have e0 : ats.getD 75 undef = .agg #[.int .i64 W, (.slice av lv cv)] := (hO.2.2 75 (by simp)).trans rfl
      clear hO hcs hrd
      rw [if_pos (by rfl)]
      go_simp
      refine Calls.mono (toBag_F W (.slice av lv cv) cs wq (hra.below hbq') hn) ?_
      rintro x w' ⟨⟨u, F, rfl, hU, hOw⟩, hb⟩
      exact hKK.out _ _ (hK.out _ w' F hb (rb1.2 ⟨u, rfl, hU⟩) (fun b hbF => ⟨hOw.2.1 b hbF, hU.lt b hbF⟩))
    · intro listed a wq K hrd hO hbq hcs hK
      have hbq' : Below w.heap.size w wq := bstep (hbd.trans hbq) hzw hbw
      refine wpOp_step rfl (fun K' hK' => ?_)
      have hKK : Shut (∀ a w, K a w → K' a w) := hK'
      clear hK'
      obtain ⟨ats, ads⟩ := a
      have e0 : ats.getD 77 undef = .agg #[.int .i64 Wb, (.slice bv lb cb)] := (hO.2.2 77 (by simp)).trans rfl
      clear hO hcs hrd
      rw [if_pos (by rfl)]
      go_simp
      refine Calls.mono (toBag_F Wb (.slice bv lb cb) ds wq (hrb.below hbq') hn2) ?_
      rintro x w' ⟨⟨u, F, rfl, hU, hOw⟩, hb⟩
      exact hKK.out _ _ (hK.out _ w' F hb (rb3.2 ⟨u, rfl, hU⟩) (fun b hbF => ⟨hOw.2.1 b hbF, hU.lt b hbF⟩))
    · intro listed a wq K hrd hO hbq hcs hK
      have hbq' : Below w.heap.size w wq := bstep (hbd.trans hbq) hzw hbw
      refine wpOp_step rfl (fun K' hK' => ?_)
      have hKK : Shut (∀ a w, K a w → K' a w) := hK'
      clear hK'
      obtain ⟨ats, ads⟩ := a
      obtain ⟨F1, h1⟩ := hcs (1, 76) (by simp) (waitsOn_listed (by kernel_rfl) hrd)
      obtain ⟨F2, h2⟩ := hcs (3, 78) (by simp) (waitsOn_listed (by kernel_rfl) hrd)
      obtain ⟨u1, e1, hU1⟩ := rb1.1 h1
      obtain ⟨u2, e2, hU2⟩ := rb3.1 h2
      have e1' : ats.getD 76 undef = .agg #[.int .i64 W, u1] := e1
      have e2' : ats.getD 78 undef = .agg #[.int .i64 Wb, u2] := e2
      clear hO hcs hrd e1 e2 h1 h2
      rw [if_pos (by rfl)]
      go_simp
      refine Calls.mono (implAdd_any W Wb u1 u2 cs ds F1 F2 wq hU1 hU2 hn hn2 wc wd) ?_
      rintro x w' ⟨⟨u, us, G, rfl, hBO⟩, hb⟩
      obtain ⟨F, hU, hOw⟩ := hBO.rowsF
      exact hKK.out _ _ (hK.out _ w' F hb (rb4.2 ⟨u, rfl, hU⟩) (fun b hbF => ⟨hOw.2.1 b hbF, hU.lt b hbF⟩))
  · intro a wq K hK
    refine wpOp_step rfl (fun K' hK' => ?_)
    have hKK := hK' _ _ hK
    clear hK hK'
    rw [if_pos (by rfl)]
    go_simp
    exact hKK
  intro V Nb wz hbz lN hN hcz
  obtain ⟨F3b, h4, hf4, hn4b⟩ := hcz (4, 79) (by simp)
  obtain ⟨u4, e4, hSpb⟩ := rb4.1 h4
  clear hcz h4
  obtain ⟨a3b, l3b, c3b, rfl⟩ := hSpb.is.shape
  simp only [List.map, List.foldl, List.cons_append, List.nil_append, e4]
  generalize V 76 = V1
  generalize V 78 = V2
  clear e4 V
  try simp only [List.setIfInBounds_toArray, List.set_cons_zero, List.set_cons_succ]
  rw [zW] at lN hf4
  clear zW
  refine wpAnyH_ready (rs := [6]) (by kernel_rfl) (by simp) ?_
  refine AllReadyH.cons rfl (fun KK hKK => ?_) AllReadyH.nil
  have hq := hN
  obtain ⟨_, f6, z0, z1⟩ := hq
  go_simp
  clear f6 z0 z1
  have hbx : Below w16.heap.size w16 ((wz.setCell ⟨Nb, 0, none⟩ (.int .i64 W)).setCell ⟨Nb, 1, none⟩ (.slice a3b l3b c3b)) := ((hbd.trans hbz).setCell lN _).setCell lN _
  replace hN := hN.put (.int .i64 W) (.slice a3b l3b c3b)
  replace hSpb := hSpb.keep (w' := (wz.setCell ⟨Nb, 0, none⟩ (.int .i64 W)).setCell ⟨Nb, 1, none⟩ (.slice a3b l3b c3b)) (by simp) (fun b hb => by rw [Below.heap_setCell _ _ _ _ (show b ≠ Nb from fun e => hn4b (e ▸ hb)), Below.heap_setCell _ _ _ _ (show b ≠ Nb from fun e => hn4b (e ▸ hb))])
  obtain ⟨w17, hW⟩ : ∃ x, x = ((wz.setCell ⟨Nb, 0, none⟩ (.int .i64 W)).setCell ⟨Nb, 1, none⟩ (.slice a3b l3b c3b)) := ⟨_, rfl⟩
  rw [← hW] at hbx hN hSpb
  rw [← hW]
  clear hW hbz hbd
  refine hKK.out _ _ ⟨hA.below hbx, hB.below hbx⟩ (fun hHeld6 => ?_)
  clear hKK hHeld6 hHeld
  refine wpAnyH_done (by kernel_rfl) ?_ _
  have st17 := st16.below hbx
  clear hbx hf4 hA hB hbw hzw st16 hn4b lN
  have q_n := hN; obtain ⟨_, _, n0, n1⟩ := q_n
  have q_s := st17.ps; obtain ⟨_, _, s0, s1⟩ := q_s
  go_wp2_with fail
  refine Calls.mono (eqBag_same W (.slice a3b l3b c3b) (.slice a3 l3 c3) (addC W Wb cs ds) _ hSpb.is st17.sp.is) ?_
  rintro e w18 ⟨rfl, hb18⟩
  have st18 := st17.below hb18
  clear hb18
  clear s0 s1
  clear n0 n1 st17 hSpb hN
  have q_g := st18.pg; obtain ⟨_, _, g0, g1⟩ := q_g
  go_wp2_with fail
  refine Calls.mono (hheld w18 st18.gg.is (by decide) (by omega)) ?_
  rintro e w19 ⟨rfl, hb19⟩
  have st19 := st18.below hb19
  clear g0 g1
  clear hb19 st18
  have belE := st19.bel
  clear st19 hheld
  go_wp2
  go_returns
  exact ⟨rfl, belE⟩
end Go.Proofs.Ytcldekhihijcjaa.fnExactAddBag
