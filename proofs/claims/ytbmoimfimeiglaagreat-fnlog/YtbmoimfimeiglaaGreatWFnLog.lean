/- Own text. The walk of FnLog. -/
import Derived.Test.YtbmoimfimeiglaaGreatGLFnLog49
import Derived.Test.YtbmoimfimeiglaaGreatGLFnLog7
import Derived.Test.YtbmoimfimeiglaaGreatGLFnLog34
import Derived.Test.YtbmoimfimeiglaaGreatGLFnLog37
import Derived.Test.YtbmoimfimeiglaaGreatGLFnLog35
import Derived.Test.YtbmoimfimeiglaaGreatGLFnLog51
import Derived.Test.YtbmoimfimeiglaaGreatGLFnLog5
import Derived.WalkKit
import Derived.WalkSpells
import Derived.WalkLawsBesides
import Derived.Handy
import Derived.Below
import Derived.Deep.RegionHeld3
import Derived.Deep.DeepCutAuto
namespace Go.Proofs.YtbmoimfimeiglaaGreat.fnLog
open Go.RowKit Go.Deep
set_option linter.unusedVariables false
set_option maxHeartbeats 60000000 in
set_option maxRecDepth 100000 in
theorem walk_small (a : Option Addr) (l c : Nat) (w : World) (hB : BytesB w w.heap.size (.slice a l c) l) :
    Calls Tryz.prog 3 #[.slice a l c] w fun x w' => x = .returned (.bool true) ∧ Below w.heap.size w w' := by
  have hl : l ≤ 1048576 := by obtain ⟨_, _, _, _, h, _⟩ := hB; exact h
  have hd : decide ((1048576 : Int) < l) = false := by simp; omega
  go_enter Tryz.func3, Tryz.ntmps3
  go_wp2_with fail
  refine (big_any a l c _ (by omega)).mono ?_
  rintro x w ⟨rfl, rfl⟩
  rw [hd]
  clear hd
  go_wp2_with fail
  have hbw : Below w.heap.size w w := Below.refl _ _
  have hzw := hbw.size
  refine Calls.mono (drawAppend_any _ l _ hB) ?_
  rintro x_ w1 ⟨⟨log, x, uc, ur, g, F, rfl, hlog, hO1, hX0⟩, hb1⟩
  have hz := hb1.size
  (try simp at hz)
  replace hbw : Below w.heap.size w w1 := hbw.trans (hb1.mono hzw)
  replace hzw := hbw.size
  obtain ⟨⟨ac, cc, rfl, _, _⟩, ar, cr, rfl, _, _⟩ := hO1.is.shape
  have isS := hO1.is
  clear hO1
  clear hb1 hz
  have hS := VT.new w1 x (.slice ac x.cs.length cc) (.slice ar x.rs.length cr) isS
  replace hbw : Below w.heap.size w (w1.alloc (.cells #[.int .i64 x.k, .string x.s, (.slice ac x.cs.length cc), .string x.q, (.slice ar x.rs.length cr)] 27)) := hbw.trans ((Below.refl _ _).alloc hzw _)
  replace hzw := hbw.size
  have hwf := std_wf hX0
  have hps := std_size hX0
  have HF : Hid (okStep x = true → ∀ r ∈ x.rs, RelFine r) := std_fine hX0
  clear hX0
  go_wp2_with fail
  refine Calls.mono (implReadLog_any log _ (by omega)) ?_
  rintro x_ w2 ⟨⟨v2, us2, G2, rfl, hO2⟩, hb2⟩
  have hz := hb2.size
  (try simp at hz)
  replace hS := hS.below hb2
  replace hbw : Below w.heap.size w w2 := hbw.trans (hb2.mono hzw)
  replace hzw := hbw.size
  obtain ⟨F2, hF2, _⟩ := hO2.stsF
  obtain ⟨a2, k2, rfl⟩ := hO2.shape
  have hL : SL w2 (.slice a2 (rlT log).length k2) (rlT log) := ⟨hF2.is⟩
  clear hO2 hF2
  clear hb2 hz
  go_wp2_with fail
  refine Calls.mono (specReadLog_any log _ (by omega)) ?_
  rintro x_ w3 ⟨⟨v3, us3, G3, rfl, hO3⟩, hb3⟩
  have hz := hb3.size
  (try simp at hz)
  replace hS := hS.below hb3
  replace hL := hL.below hb3
  replace hbw : Below w.heap.size w w3 := hbw.trans (hb3.mono hzw)
  replace hzw := hbw.size
  obtain ⟨F3, hF3, _⟩ := hO3.stsF
  obtain ⟨a3, k3, rfl⟩ := hO3.shape
  have hM : SL w3 (.slice a3 (rlT log).length k3) (rlT log) := ⟨hF3.is⟩
  clear hO3 hF3
  clear hb3 hz
  have qS := hS
  obtain ⟨_, s0, s1, s2, s3, s4, _⟩ := qS
  go_wp2_with fail
  refine Calls.mono (implPutStep_any x (.slice ac x.cs.length cc) (.slice ar x.rs.length cr) _ hwf hS.is) ?_
  rintro x_ w4 ⟨rfl, hb4⟩
  have hz := hb4.size
  (try simp at hz)
  clear s0 s1 s2 s3 s4
  replace hS := hS.below hb4
  replace hL := hL.below hb4
  replace hM := hM.below hb4
  replace hbw : Below w.heap.size w w4 := hbw.trans (hb4.mono hzw)
  replace hzw := hbw.size
  clear hb4 hz
  go_wp2_with fail
  refine Calls.mono (drawGetStep_any _ l _ (hB.up hbw hzw)) ?_
  rintro x_ w5 ⟨⟨u, rfl, hu⟩, hb5⟩
  have hz := hb5.size
  (try simp at hz)
  replace hS := hS.below hb5
  replace hL := hL.below hb5
  replace hM := hM.below hb5
  replace hbw : Below w.heap.size w w5 := hbw.trans (hb5.mono hzw)
  replace hzw := hbw.size
  clear hb5 hz
  go_wp2_with fail
  refine Calls.mono (implGetStep_any u _ hu) ?_
  rintro x_ w6 ⟨⟨uc6, ur6, g6, F6, rfl, hO6⟩, hb6⟩
  have hz := hb6.size
  (try simp at hz)
  replace hS := hS.below hb6
  replace hL := hL.below hb6
  replace hM := hM.below hb6
  replace hbw : Below w.heap.size w w6 := hbw.trans (hb6.mono hzw)
  replace hzw := hbw.size
  obtain ⟨⟨ax, cx, rfl, _, _⟩, bx, dx, rfl, _, _⟩ := hO6.is.shape
  have isX := hO6.is
  clear hO6
  clear hb6 hz
  have hX := VT.new w6 (gT u) (.slice ax (gT u).cs.length cx) (.slice bx (gT u).rs.length dx) isX
  replace hS := hS.alloc (.cells #[.int .i64 (gT u).k, .string (gT u).s, (.slice ax (gT u).cs.length cx), .string (gT u).q, (.slice bx (gT u).rs.length dx)] 27)
  replace hL := hL.alloc (.cells #[.int .i64 (gT u).k, .string (gT u).s, (.slice ax (gT u).cs.length cx), .string (gT u).q, (.slice bx (gT u).rs.length dx)] 27)
  replace hM := hM.alloc (.cells #[.int .i64 (gT u).k, .string (gT u).s, (.slice ax (gT u).cs.length cx), .string (gT u).q, (.slice bx (gT u).rs.length dx)] 27)
  replace hbw : Below w.heap.size w (w6.alloc (.cells #[.int .i64 (gT u).k, .string (gT u).s, (.slice ax (gT u).cs.length cx), .string (gT u).q, (.slice bx (gT u).rs.length dx)] 27)) := hbw.trans ((Below.refl _ _).alloc hzw _)
  replace hzw := hbw.size
  go_wp2_with fail
  refine Calls.mono (specGetStep_any u _ hu) ?_
  rintro x_ w7 ⟨⟨uc7, ur7, g7, F7, rfl, hO7⟩, hb7⟩
  have hz := hb7.size
  (try simp at hz)
  replace hS := hS.below hb7
  replace hL := hL.below hb7
  replace hM := hM.below hb7
  replace hX := hX.below hb7
  replace hbw : Below w.heap.size w w7 := hbw.trans (hb7.mono hzw)
  replace hzw := hbw.size
  obtain ⟨⟨ay, cy, rfl, _, _⟩, by', dy, rfl, _, _⟩ := hO7.is.shape
  have isY := hO7.is
  clear hO7
  clear hb7 hz
  have hY := VT.new w7 (gT u) (.slice ay (gT u).cs.length cy) (.slice by' (gT u).rs.length dy) isY
  replace hS := hS.alloc (.cells #[.int .i64 (gT u).k, .string (gT u).s, (.slice ay (gT u).cs.length cy), .string (gT u).q, (.slice by' (gT u).rs.length dy)] 27)
  replace hL := hL.alloc (.cells #[.int .i64 (gT u).k, .string (gT u).s, (.slice ay (gT u).cs.length cy), .string (gT u).q, (.slice by' (gT u).rs.length dy)] 27)
  replace hM := hM.alloc (.cells #[.int .i64 (gT u).k, .string (gT u).s, (.slice ay (gT u).cs.length cy), .string (gT u).q, (.slice by' (gT u).rs.length dy)] 27)
  replace hX := hX.alloc (.cells #[.int .i64 (gT u).k, .string (gT u).s, (.slice ay (gT u).cs.length cy), .string (gT u).q, (.slice by' (gT u).rs.length dy)] 27)
  replace hbw : Below w.heap.size w (w7.alloc (.cells #[.int .i64 (gT u).k, .string (gT u).s, (.slice ay (gT u).cs.length cy), .string (gT u).q, (.slice by' (gT u).rs.length dy)] 27)) := hbw.trans ((Below.refl _ _).alloc hzw _)
  replace hzw := hbw.size
  have qS := hS
  obtain ⟨_, s0, s1, s2, s3, s4, _⟩ := qS
  go_wp2_with fail
  refine Calls.mono (implAppend_any log x (.slice ac x.cs.length cc) (.slice ar x.rs.length cr) _ (by omega) hwf hS.is) ?_
  rintro x_ w8 ⟨rfl, hb8⟩
  have hz := hb8.size
  (try simp at hz)
  clear s0 s1 s2 s3 s4
  replace hS := hS.below hb8
  replace hL := hL.below hb8
  replace hM := hM.below hb8
  replace hX := hX.below hb8
  replace hY := hY.below hb8
  replace hbw : Below w.heap.size w w8 := hbw.trans (hb8.mono hzw)
  replace hzw := hbw.size
  clear hb8 hz
  have qS := hS
  obtain ⟨_, s0, s1, s2, s3, s4, _⟩ := qS
  go_wp2_with fail
  refine Calls.mono (specAppend_any log x (.slice ac x.cs.length cc) (.slice ar x.rs.length cr) _ (by omega) hwf hS.is) ?_
  rintro x_ w9 ⟨rfl, hb9⟩
  have hz := hb9.size
  (try simp at hz)
  clear s0 s1 s2 s3 s4
  replace hS := hS.below hb9
  replace hL := hL.below hb9
  replace hM := hM.below hb9
  replace hX := hX.below hb9
  replace hY := hY.below hb9
  replace hbw : Below w.heap.size w w9 := hbw.trans (hb9.mono hzw)
  replace hzw := hbw.size
  clear hb9 hz
  go_wp2_with fail
  obtain ⟨bS, ebS⟩ : ∃ b, b = w1.heap.size := ⟨_, rfl⟩
  obtain ⟨bX, ebX⟩ : ∃ b, b = w6.heap.size := ⟨_, rfl⟩
  obtain ⟨bY, ebY⟩ : ∃ b, b = w7.heap.size := ⟨_, rfl⟩
  rw [← ebS, ← ebX, ← ebY]
  rw [← ebS] at hS
  rw [← ebX] at hX
  rw [← ebY] at hY
  clear ebS ebX ebY
  have wfu := gT_wf u hu
  have HG : Hid (gO u = true → putT (gT u) = u) := put_again
  cases hb : gO u
  · go_cut [132] (fun v wz => v = .bool false ∧ Below w9.heap.size w9 wz)
    case first =>
      as_aux_lemma =>
        refine wp_region_held_drew (S := (fun w' => VT w' bS x (.slice ac x.cs.length cc) (.slice ar x.rs.length cr) ∧ VT w' bX (gT u) (.slice ax (gT u).cs.length cx) (.slice bx (gT u).rs.length dx) ∧ VT w' bY (gT u) (.slice ay (gT u).cs.length cy) (.slice by' (gT u).rs.length dy))) (by kernel_rfl) ?_ (fun hHeld => ?_)
        · exact ⟨hS.below (bex), hX.below (bex), hY.below (bex)⟩
        refine tkY (i := 0) (d := 74) (v := ?_) rfl rfl ?_ ?_
        rotate_left
        · intro w' hSw; obtain ⟨⟨_, a0, a1, a2, a3, a4, _⟩, ⟨_, x0, x1, x2, x3, x4, _⟩, ⟨_, y0, y1, y2, y3, y4, _⟩⟩ := hSw; go_simp; try exact rfl
        try simp only [List.setIfInBounds_toArray, List.set_cons_zero, List.set_cons_succ]
        refine tkY (i := 1) (d := 75) (v := ?_) rfl rfl ?_ ?_
        rotate_left
        · intro w' hSw; obtain ⟨⟨_, a0, a1, a2, a3, a4, _⟩, ⟨_, x0, x1, x2, x3, x4, _⟩, ⟨_, y0, y1, y2, y3, y4, _⟩⟩ := hSw; go_simp; try exact rfl
        try simp only [List.setIfInBounds_toArray, List.set_cons_zero, List.set_cons_succ]
        refine wpAnyH_ready (rs := [2]) (by kernel_rfl) (by simp) ?_
        refine AllReadyH.cons rfl (fun KK hKK => ?_) AllReadyH.nil
        go_simp
        go_at_call 14
        refine Calls.mono (sameSteps_any (.slice a2 (rlT log).length k2) (.slice a3 (rlT log).length k3) (rlT log) _ (hL.is.below (bex)) (hM.is.below (bex))) ?_
        rintro x w10 ⟨rfl, hb10⟩
        have hz10 := hb10.size
        (try simp at hz10)
        try go_wp2_with fail
        refine hKK.out _ _ ?_ (fun hHeld2 => ?_)
        · exact ⟨hS.below (bex), hX.below (bex), hY.below (bex)⟩
        clear hKK
        refine tkY (i := 3) (d := 77) (v := ?_) rfl rfl ?_ ?_
        rotate_left
        · intro w' hSw; obtain ⟨⟨_, a0, a1, a2, a3, a4, _⟩, ⟨_, x0, x1, x2, x3, x4, _⟩, ⟨_, y0, y1, y2, y3, y4, _⟩⟩ := hSw; go_simp; try exact rfl
        try simp only [List.setIfInBounds_toArray, List.set_cons_zero, List.set_cons_succ]
        refine tkY (i := 4) (d := 78) (v := ?_) rfl rfl ?_ ?_
        rotate_left
        · intro w' hSw; obtain ⟨⟨_, a0, a1, a2, a3, a4, _⟩, ⟨_, x0, x1, x2, x3, x4, _⟩, ⟨_, y0, y1, y2, y3, y4, _⟩⟩ := hSw; go_simp; try exact rfl
        try simp only [List.setIfInBounds_toArray, List.set_cons_zero, List.set_cons_succ]
        refine tkY (i := 5) (d := 79) (v := ?_) rfl rfl ?_ ?_
        rotate_left
        · intro w' hSw; obtain ⟨⟨_, a0, a1, a2, a3, a4, _⟩, ⟨_, x0, x1, x2, x3, x4, _⟩, ⟨_, y0, y1, y2, y3, y4, _⟩⟩ := hSw; go_simp; try exact rfl
        try simp only [List.setIfInBounds_toArray, List.set_cons_zero, List.set_cons_succ]
        refine tkY (i := 6) (d := 80) (v := ?_) rfl rfl ?_ ?_
        rotate_left
        · intro w' hSw; obtain ⟨⟨_, a0, a1, a2, a3, a4, _⟩, ⟨_, x0, x1, x2, x3, x4, _⟩, ⟨_, y0, y1, y2, y3, y4, _⟩⟩ := hSw; go_simp; try exact rfl
        try simp only [List.setIfInBounds_toArray, List.set_cons_zero, List.set_cons_succ]
        refine tkY (i := 7) (d := 81) (v := ?_) rfl rfl ?_ ?_
        rotate_left
        · intro w' hSw; obtain ⟨⟨_, a0, a1, a2, a3, a4, _⟩, ⟨_, x0, x1, x2, x3, x4, _⟩, ⟨_, y0, y1, y2, y3, y4, _⟩⟩ := hSw; go_simp; try exact rfl
        try simp only [List.setIfInBounds_toArray, List.set_cons_zero, List.set_cons_succ]
        refine tkY (i := 8) (d := 82) (v := ?_) rfl rfl ?_ ?_
        rotate_left
        · intro w' hSw; obtain ⟨⟨_, a0, a1, a2, a3, a4, _⟩, ⟨_, x0, x1, x2, x3, x4, _⟩, ⟨_, y0, y1, y2, y3, y4, _⟩⟩ := hSw; go_simp; try exact rfl
        try simp only [List.setIfInBounds_toArray, List.set_cons_zero, List.set_cons_succ]
        refine tkY (i := 9) (d := 83) (v := ?_) rfl rfl ?_ ?_
        rotate_left
        · intro w' hSw; obtain ⟨⟨_, a0, a1, a2, a3, a4, _⟩, ⟨_, x0, x1, x2, x3, x4, _⟩, ⟨_, y0, y1, y2, y3, y4, _⟩⟩ := hSw; go_simp; try exact rfl
        try simp only [List.setIfInBounds_toArray, List.set_cons_zero, List.set_cons_succ]
        refine tkY (i := 10) (d := 84) (v := ?_) rfl rfl ?_ ?_
        rotate_left
        · intro w' hSw; obtain ⟨⟨_, a0, a1, a2, a3, a4, _⟩, ⟨_, x0, x1, x2, x3, x4, _⟩, ⟨_, y0, y1, y2, y3, y4, _⟩⟩ := hSw; go_simp; try exact rfl
        try simp only [List.setIfInBounds_toArray, List.set_cons_zero, List.set_cons_succ]
        refine tkY (i := 11) (d := 85) (v := ?_) rfl rfl ?_ ?_
        rotate_left
        · intro w' hSw; obtain ⟨⟨_, a0, a1, a2, a3, a4, _⟩, ⟨_, x0, x1, x2, x3, x4, _⟩, ⟨_, y0, y1, y2, y3, y4, _⟩⟩ := hSw; go_simp; try exact rfl
        try simp only [List.setIfInBounds_toArray, List.set_cons_zero, List.set_cons_succ]
        refine wpAnyH_ready (rs := [12]) (by kernel_rfl) (by simp) ?_
        refine AllReadyH.cons rfl (fun KK hKK => ?_) AllReadyH.nil
        go_simp
        go_at_call 15
        refine Calls.mono (specPutStep_any x (.slice ac x.cs.length cc) (.slice ar x.rs.length cr) _ hwf (hS.is.below (bex))) ?_
        rintro x w11 ⟨rfl, hb11⟩
        have hz11 := hb11.size
        (try simp at hz11)
        try go_wp2_with fail
        refine hKK.out _ _ ?_ (fun hHeld12 => ?_)
        · exact ⟨hS.below (bex), hX.below (bex), hY.below (bex)⟩
        clear hKK
        refine tkY (i := 13) (d := 87) (v := ?_) rfl rfl ?_ ?_
        rotate_left
        · intro w' hSw; obtain ⟨⟨_, a0, a1, a2, a3, a4, _⟩, ⟨_, x0, x1, x2, x3, x4, _⟩, ⟨_, y0, y1, y2, y3, y4, _⟩⟩ := hSw; go_simp; try exact rfl
        try simp only [List.setIfInBounds_toArray, List.set_cons_zero, List.set_cons_succ]
        refine tkY (i := 14) (d := 88) (v := ?_) rfl rfl ?_ ?_
        rotate_left
        · intro w' hSw; obtain ⟨⟨_, a0, a1, a2, a3, a4, _⟩, ⟨_, x0, x1, x2, x3, x4, _⟩, ⟨_, y0, y1, y2, y3, y4, _⟩⟩ := hSw; go_simp; try exact rfl
        try simp only [List.setIfInBounds_toArray, List.set_cons_zero, List.set_cons_succ]
        refine tkY (i := 15) (d := 89) (v := ?_) rfl rfl ?_ ?_
        rotate_left
        · intro w' hSw; obtain ⟨⟨_, a0, a1, a2, a3, a4, _⟩, ⟨_, x0, x1, x2, x3, x4, _⟩, ⟨_, y0, y1, y2, y3, y4, _⟩⟩ := hSw; go_simp; try exact rfl
        try simp only [List.setIfInBounds_toArray, List.set_cons_zero, List.set_cons_succ]
        refine tkY (i := 16) (d := 90) (v := ?_) rfl rfl ?_ ?_
        rotate_left
        · intro w' hSw; obtain ⟨⟨_, a0, a1, a2, a3, a4, _⟩, ⟨_, x0, x1, x2, x3, x4, _⟩, ⟨_, y0, y1, y2, y3, y4, _⟩⟩ := hSw; go_simp; try exact rfl
        try simp only [List.setIfInBounds_toArray, List.set_cons_zero, List.set_cons_succ]
        refine tkY (i := 17) (d := 91) (v := ?_) rfl rfl ?_ ?_
        rotate_left
        · intro w' hSw; obtain ⟨⟨_, a0, a1, a2, a3, a4, _⟩, ⟨_, x0, x1, x2, x3, x4, _⟩, ⟨_, y0, y1, y2, y3, y4, _⟩⟩ := hSw; go_simp; try exact rfl
        try simp only [List.setIfInBounds_toArray, List.set_cons_zero, List.set_cons_succ]
        refine tkY (i := 18) (d := 92) (v := ?_) rfl rfl ?_ ?_
        rotate_left
        · intro w' hSw; obtain ⟨⟨_, a0, a1, a2, a3, a4, _⟩, ⟨_, x0, x1, x2, x3, x4, _⟩, ⟨_, y0, y1, y2, y3, y4, _⟩⟩ := hSw; go_simp; try exact rfl
        try simp only [List.setIfInBounds_toArray, List.set_cons_zero, List.set_cons_succ]
        refine tkY (i := 19) (d := 93) (v := ?_) rfl rfl ?_ ?_
        rotate_left
        · intro w' hSw; obtain ⟨⟨_, a0, a1, a2, a3, a4, _⟩, ⟨_, x0, x1, x2, x3, x4, _⟩, ⟨_, y0, y1, y2, y3, y4, _⟩⟩ := hSw; go_simp; try exact rfl
        try simp only [List.setIfInBounds_toArray, List.set_cons_zero, List.set_cons_succ]
        refine tkY (i := 20) (d := 94) (v := ?_) rfl rfl ?_ ?_
        rotate_left
        · intro w' hSw; obtain ⟨⟨_, a0, a1, a2, a3, a4, _⟩, ⟨_, x0, x1, x2, x3, x4, _⟩, ⟨_, y0, y1, y2, y3, y4, _⟩⟩ := hSw; go_simp; try exact rfl
        try simp only [List.setIfInBounds_toArray, List.set_cons_zero, List.set_cons_succ]
        refine tkY (i := 21) (d := 95) (v := ?_) rfl rfl ?_ ?_
        rotate_left
        · intro w' hSw; obtain ⟨⟨_, a0, a1, a2, a3, a4, _⟩, ⟨_, x0, x1, x2, x3, x4, _⟩, ⟨_, y0, y1, y2, y3, y4, _⟩⟩ := hSw; go_simp; try exact rfl
        try simp only [List.setIfInBounds_toArray, List.set_cons_zero, List.set_cons_succ]
        refine tkY (i := 22) (d := 96) (v := ?_) rfl rfl ?_ ?_
        rotate_left
        · intro w' hSw; obtain ⟨⟨_, a0, a1, a2, a3, a4, _⟩, ⟨_, x0, x1, x2, x3, x4, _⟩, ⟨_, y0, y1, y2, y3, y4, _⟩⟩ := hSw; go_simp; try exact rfl
        try simp only [List.setIfInBounds_toArray, List.set_cons_zero, List.set_cons_succ]
        refine wpAnyH_ready (rs := [23]) (by kernel_rfl) (by simp) ?_
        refine AllReadyH.cons rfl (fun KK hKK => ?_) AllReadyH.nil
        go_simp
        go_at_call 16
        refine Calls.mono (sameStep_any (gT u) (.slice ax (gT u).cs.length cx) (.slice bx (gT u).rs.length dx) (.slice ay (gT u).cs.length cy) (.slice by' (gT u).rs.length dy) _ (hX.is.below (bex)) (hY.is.below (bex))) ?_
        rintro x w12 ⟨rfl, hb12⟩
        have hz12 := hb12.size
        (try simp at hz12)
        try go_wp2_with fail
        refine hKK.out _ _ ?_ (fun hHeld23 => ?_)
        · exact ⟨hS.below (bex), hX.below (bex), hY.below (bex)⟩
        clear hKK
        refine tkY (i := 24) (d := 98) (v := ?_) rfl rfl ?_ ?_
        rotate_left
        · intro w' hSw; obtain ⟨⟨_, a0, a1, a2, a3, a4, _⟩, ⟨_, x0, x1, x2, x3, x4, _⟩, ⟨_, y0, y1, y2, y3, y4, _⟩⟩ := hSw; go_simp; try exact rfl
        try simp only [List.setIfInBounds_toArray, List.set_cons_zero, List.set_cons_succ]
        refine tkY (i := 25) (d := 99) (v := ?_) rfl rfl ?_ ?_
        rotate_left
        · intro w' hSw; obtain ⟨⟨_, a0, a1, a2, a3, a4, _⟩, ⟨_, x0, x1, x2, x3, x4, _⟩, ⟨_, y0, y1, y2, y3, y4, _⟩⟩ := hSw; go_simp; try exact rfl
        try simp only [List.setIfInBounds_toArray, List.set_cons_zero, List.set_cons_succ]
        refine tkY (i := 26) (d := 100) (v := ?_) rfl rfl ?_ ?_
        rotate_left
        · intro w' hSw; obtain ⟨⟨_, a0, a1, a2, a3, a4, _⟩, ⟨_, x0, x1, x2, x3, x4, _⟩, ⟨_, y0, y1, y2, y3, y4, _⟩⟩ := hSw; go_simp; try exact rfl
        try simp only [List.setIfInBounds_toArray, List.set_cons_zero, List.set_cons_succ]
        refine tkY (i := 27) (d := 101) (v := ?_) rfl rfl ?_ ?_
        rotate_left
        · intro w' hSw; obtain ⟨⟨_, a0, a1, a2, a3, a4, _⟩, ⟨_, x0, x1, x2, x3, x4, _⟩, ⟨_, y0, y1, y2, y3, y4, _⟩⟩ := hSw; go_simp; try exact rfl
        try simp only [List.setIfInBounds_toArray, List.set_cons_zero, List.set_cons_succ]
        refine tkY (i := 28) (d := 102) (v := ?_) rfl rfl ?_ ?_
        rotate_left
        · intro w' hSw; obtain ⟨⟨_, a0, a1, a2, a3, a4, _⟩, ⟨_, x0, x1, x2, x3, x4, _⟩, ⟨_, y0, y1, y2, y3, y4, _⟩⟩ := hSw; go_simp; try exact rfl
        try simp only [List.setIfInBounds_toArray, List.set_cons_zero, List.set_cons_succ]
        refine tkN (i := 29) (d := 103) rfl rfl ?_
        try simp only [List.setIfInBounds_toArray, List.set_cons_zero, List.set_cons_succ]
        refine tkN (i := 31) (d := 105) rfl rfl ?_
        try simp only [List.setIfInBounds_toArray, List.set_cons_zero, List.set_cons_succ]
        refine wpAnyH_ready (rs := [30]) (by kernel_rfl) (by simp) ?_
        refine AllReadyH.cons rfl (fun KK hKK => ?_) AllReadyH.nil
        go_simp
        refine hKK.out _ _ ?_ (fun hHeld30 => ?_)
        · exact ⟨hS.below (bex), hX.below (bex), hY.below (bex)⟩
        clear hKK
        refine tkN (i := 32) (d := 106) rfl rfl ?_
        try simp only [List.setIfInBounds_toArray, List.set_cons_zero, List.set_cons_succ]
        refine tkY (i := 33) (d := 107) (v := ?_) rfl rfl ?_ ?_
        rotate_left
        · intro w' hSw; obtain ⟨⟨_, a0, a1, a2, a3, a4, _⟩, ⟨_, x0, x1, x2, x3, x4, _⟩, ⟨_, y0, y1, y2, y3, y4, _⟩⟩ := hSw; go_simp; try exact rfl
        try simp only [List.setIfInBounds_toArray, List.set_cons_zero, List.set_cons_succ]
        refine tkY (i := 34) (d := 108) (v := ?_) rfl rfl ?_ ?_
        rotate_left
        · intro w' hSw; obtain ⟨⟨_, a0, a1, a2, a3, a4, _⟩, ⟨_, x0, x1, x2, x3, x4, _⟩, ⟨_, y0, y1, y2, y3, y4, _⟩⟩ := hSw; go_simp; try exact rfl
        try simp only [List.setIfInBounds_toArray, List.set_cons_zero, List.set_cons_succ]
        refine tkY (i := 35) (d := 109) (v := ?_) rfl rfl ?_ ?_
        rotate_left
        · intro w' hSw; obtain ⟨⟨_, a0, a1, a2, a3, a4, _⟩, ⟨_, x0, x1, x2, x3, x4, _⟩, ⟨_, y0, y1, y2, y3, y4, _⟩⟩ := hSw; go_simp; try exact rfl
        try simp only [List.setIfInBounds_toArray, List.set_cons_zero, List.set_cons_succ]
        refine tkY (i := 36) (d := 110) (v := ?_) rfl rfl ?_ ?_
        rotate_left
        · intro w' hSw; obtain ⟨⟨_, a0, a1, a2, a3, a4, _⟩, ⟨_, x0, x1, x2, x3, x4, _⟩, ⟨_, y0, y1, y2, y3, y4, _⟩⟩ := hSw; go_simp; try exact rfl
        try simp only [List.setIfInBounds_toArray, List.set_cons_zero, List.set_cons_succ]
        refine tkY (i := 37) (d := 111) (v := ?_) rfl rfl ?_ ?_
        rotate_left
        · intro w' hSw; obtain ⟨⟨_, a0, a1, a2, a3, a4, _⟩, ⟨_, x0, x1, x2, x3, x4, _⟩, ⟨_, y0, y1, y2, y3, y4, _⟩⟩ := hSw; go_simp; try exact rfl
        try simp only [List.setIfInBounds_toArray, List.set_cons_zero, List.set_cons_succ]
        refine tkY (i := 38) (d := 112) (v := ?_) rfl rfl ?_ ?_
        rotate_left
        · intro w' hSw; obtain ⟨⟨_, a0, a1, a2, a3, a4, _⟩, ⟨_, x0, x1, x2, x3, x4, _⟩, ⟨_, y0, y1, y2, y3, y4, _⟩⟩ := hSw; go_simp; try exact rfl
        try simp only [List.setIfInBounds_toArray, List.set_cons_zero, List.set_cons_succ]
        refine tkY (i := 39) (d := 113) (v := ?_) rfl rfl ?_ ?_
        rotate_left
        · intro w' hSw; obtain ⟨⟨_, a0, a1, a2, a3, a4, _⟩, ⟨_, x0, x1, x2, x3, x4, _⟩, ⟨_, y0, y1, y2, y3, y4, _⟩⟩ := hSw; go_simp; try exact rfl
        try simp only [List.setIfInBounds_toArray, List.set_cons_zero, List.set_cons_succ]
        refine tkY (i := 40) (d := 114) (v := ?_) rfl rfl ?_ ?_
        rotate_left
        · intro w' hSw; obtain ⟨⟨_, a0, a1, a2, a3, a4, _⟩, ⟨_, x0, x1, x2, x3, x4, _⟩, ⟨_, y0, y1, y2, y3, y4, _⟩⟩ := hSw; go_simp; try exact rfl
        try simp only [List.setIfInBounds_toArray, List.set_cons_zero, List.set_cons_succ]
        refine tkY (i := 41) (d := 115) (v := ?_) rfl rfl ?_ ?_
        rotate_left
        · intro w' hSw; obtain ⟨⟨_, a0, a1, a2, a3, a4, _⟩, ⟨_, x0, x1, x2, x3, x4, _⟩, ⟨_, y0, y1, y2, y3, y4, _⟩⟩ := hSw; go_simp; try exact rfl
        try simp only [List.setIfInBounds_toArray, List.set_cons_zero, List.set_cons_succ]
        refine tkY (i := 42) (d := 116) (v := ?_) rfl rfl ?_ ?_
        rotate_left
        · intro w' hSw; obtain ⟨⟨_, a0, a1, a2, a3, a4, _⟩, ⟨_, x0, x1, x2, x3, x4, _⟩, ⟨_, y0, y1, y2, y3, y4, _⟩⟩ := hSw; go_simp; try exact rfl
        try simp only [List.setIfInBounds_toArray, List.set_cons_zero, List.set_cons_succ]
        refine tkY (i := 43) (d := 117) (v := ?_) rfl rfl ?_ ?_
        rotate_left
        · intro w' hSw; obtain ⟨⟨_, a0, a1, a2, a3, a4, _⟩, ⟨_, x0, x1, x2, x3, x4, _⟩, ⟨_, y0, y1, y2, y3, y4, _⟩⟩ := hSw; go_simp; try exact rfl
        try simp only [List.setIfInBounds_toArray, List.set_cons_zero, List.set_cons_succ]
        refine tkY (i := 44) (d := 118) (v := ?_) rfl rfl ?_ ?_
        rotate_left
        · intro w' hSw; obtain ⟨⟨_, a0, a1, a2, a3, a4, _⟩, ⟨_, x0, x1, x2, x3, x4, _⟩, ⟨_, y0, y1, y2, y3, y4, _⟩⟩ := hSw; go_simp; try exact rfl
        try simp only [List.setIfInBounds_toArray, List.set_cons_zero, List.set_cons_succ]
        refine tkY (i := 45) (d := 119) (v := ?_) rfl rfl ?_ ?_
        rotate_left
        · intro w' hSw; obtain ⟨⟨_, a0, a1, a2, a3, a4, _⟩, ⟨_, x0, x1, x2, x3, x4, _⟩, ⟨_, y0, y1, y2, y3, y4, _⟩⟩ := hSw; go_simp; try exact rfl
        try simp only [List.setIfInBounds_toArray, List.set_cons_zero, List.set_cons_succ]
        refine tkY (i := 46) (d := 120) (v := ?_) rfl rfl ?_ ?_
        rotate_left
        · intro w' hSw; obtain ⟨⟨_, a0, a1, a2, a3, a4, _⟩, ⟨_, x0, x1, x2, x3, x4, _⟩, ⟨_, y0, y1, y2, y3, y4, _⟩⟩ := hSw; go_simp; try exact rfl
        try simp only [List.setIfInBounds_toArray, List.set_cons_zero, List.set_cons_succ]
        refine tkY (i := 48) (d := 122) (v := ?_) rfl rfl ?_ ?_
        rotate_left
        · intro w' hSw; obtain ⟨⟨_, a0, a1, a2, a3, a4, _⟩, ⟨_, x0, x1, x2, x3, x4, _⟩, ⟨_, y0, y1, y2, y3, y4, _⟩⟩ := hSw; go_simp; try exact rfl
        try simp only [List.setIfInBounds_toArray, List.set_cons_zero, List.set_cons_succ]
        refine wpAnyH_ready (rs := [47]) (by kernel_rfl) (by simp) ?_
        refine AllReadyH.cons rfl (fun KK hKK => ?_) AllReadyH.nil
        go_simp
        go_at_call 17
        refine Calls.mono (implSum_any (putT x) _ (by unfold maxLen; omega)) ?_
        rintro x_ w14 ⟨rfl, rfl⟩
        try go_wp2_with fail
        refine hKK.out _ _ ?_ (fun hHeld47 => ?_)
        · exact ⟨hS.below (bex), hX.below (bex), hY.below (bex)⟩
        clear hKK
        refine wpAnyH_ready (rs := [49]) (by kernel_rfl) (by simp) ?_
        refine AllReadyH.cons rfl (fun KK hKK => ?_) AllReadyH.nil
        go_simp
        go_at_call 18
        refine Calls.mono (specSum_any (putT x) _ (by unfold maxLen; omega)) ?_
        rintro x_ w15 ⟨rfl, rfl⟩
        try go_wp2_with fail
        refine hKK.out _ _ ?_ (fun hHeld49 => ?_)
        · exact ⟨hS.below (bex), hX.below (bex), hY.below (bex)⟩
        clear hKK
        refine tkY (i := 50) (d := 124) (v := ?_) rfl rfl ?_ ?_
        rotate_left
        · intro w' hSw; obtain ⟨⟨_, a0, a1, a2, a3, a4, _⟩, ⟨_, x0, x1, x2, x3, x4, _⟩, ⟨_, y0, y1, y2, y3, y4, _⟩⟩ := hSw; go_simp; try exact rfl
        try simp only [List.setIfInBounds_toArray, List.set_cons_zero, List.set_cons_succ]
        refine tkY (i := 51) (d := 125) (v := ?_) rfl rfl ?_ ?_
        rotate_left
        · intro w' hSw; obtain ⟨⟨_, a0, a1, a2, a3, a4, _⟩, ⟨_, x0, x1, x2, x3, x4, _⟩, ⟨_, y0, y1, y2, y3, y4, _⟩⟩ := hSw; go_simp; try exact rfl
        try simp only [List.setIfInBounds_toArray, List.set_cons_zero, List.set_cons_succ]
        refine tkY (i := 52) (d := 126) (v := ?_) rfl rfl ?_ ?_
        rotate_left
        · intro w' hSw; obtain ⟨⟨_, a0, a1, a2, a3, a4, _⟩, ⟨_, x0, x1, x2, x3, x4, _⟩, ⟨_, y0, y1, y2, y3, y4, _⟩⟩ := hSw; go_simp; try exact rfl
        try simp only [List.setIfInBounds_toArray, List.set_cons_zero, List.set_cons_succ]
        refine tkY (i := 53) (d := 127) (v := ?_) rfl rfl ?_ ?_
        rotate_left
        · intro w' hSw; obtain ⟨⟨_, a0, a1, a2, a3, a4, _⟩, ⟨_, x0, x1, x2, x3, x4, _⟩, ⟨_, y0, y1, y2, y3, y4, _⟩⟩ := hSw; go_simp; try exact rfl
        try simp only [List.setIfInBounds_toArray, List.set_cons_zero, List.set_cons_succ]
        refine tkY (i := 55) (d := 129) (v := ?_) rfl rfl ?_ ?_
        rotate_left
        · intro w' hSw; obtain ⟨⟨_, a0, a1, a2, a3, a4, _⟩, ⟨_, x0, x1, x2, x3, x4, _⟩, ⟨_, y0, y1, y2, y3, y4, _⟩⟩ := hSw; go_simp; try exact rfl
        try simp only [List.setIfInBounds_toArray, List.set_cons_zero, List.set_cons_succ]
        refine wpAnyH_ready (rs := [54]) (by kernel_rfl) (by simp) ?_
        refine AllReadyH.cons rfl (fun KK hKK => ?_) AllReadyH.nil
        go_simp
        go_at_call 19
        refine Calls.mono (implStepOk_any x (.slice ac x.cs.length cc) (.slice ar x.rs.length cr) _ hwf (hS.is.below (bex))) ?_
        rintro x w16 ⟨rfl, hb16⟩
        have hz16 := hb16.size
        (try simp at hz16)
        try go_wp2_with fail
        refine hKK.out _ _ ?_ (fun hHeld54 => ?_)
        · exact ⟨hS.below (bex), hX.below (bex), hY.below (bex)⟩
        clear hKK
        refine wpAnyH_ready (rs := [56]) (by kernel_rfl) (by simp) ?_
        refine AllReadyH.cons rfl (fun KK hKK => ?_) AllReadyH.nil
        go_simp
        go_at_call 20
        refine Calls.mono (specStepOk_any x (.slice ac x.cs.length cc) (.slice ar x.rs.length cr) _ hwf (hS.is.below (bex))) ?_
        rintro x w17 ⟨rfl, hb17⟩
        have hz17 := hb17.size
        (try simp at hz17)
        try go_wp2_with fail
        refine hKK.out _ _ ?_ (fun hHeld56 => ?_)
        · exact ⟨hS.below (bex), hX.below (bex), hY.below (bex)⟩
        clear hKK
        refine tkY (i := 57) (d := 131) (v := ?_) rfl rfl ?_ ?_
        rotate_left
        · intro w' hSw; obtain ⟨⟨_, a0, a1, a2, a3, a4, _⟩, ⟨_, x0, x1, x2, x3, x4, _⟩, ⟨_, y0, y1, y2, y3, y4, _⟩⟩ := hSw; go_simp; try exact rfl
        try simp only [List.setIfInBounds_toArray, List.set_cons_zero, List.set_cons_succ]
        refine tkY (i := 58) (d := 132) (v := ?_) rfl rfl ?_ ?_
        rotate_left
        · intro w' hSw; obtain ⟨⟨_, a0, a1, a2, a3, a4, _⟩, ⟨_, x0, x1, x2, x3, x4, _⟩, ⟨_, y0, y1, y2, y3, y4, _⟩⟩ := hSw; go_simp; try exact rfl
        try simp only [List.setIfInBounds_toArray, List.set_cons_zero, List.set_cons_succ]
        refine wpAnyH_done (by kernel_rfl) ?_ _
        go_wp2_with fail
        (try go_meet)
        (try (case rel => exact ⟨rfl, bex⟩))
    case rest =>
      obtain ⟨rfl, hbL⟩ := hcut
      replace hS := hS.below hbL
      replace hL := hL.below hbL
      replace hbw : Below w.heap.size w wc := hbw.trans (hbL.mono hzw)
      replace hzw := hbw.size
      clear hbL hX hY hM HG wfu
      have hEl := (rl_reads log).2
      have hEI : ((rlE log : Nat) : Int) ≤ log.size := by omega
      have hxs : (log.extract 0 (rlE log)).size = rlE log := by rw [ByteArray.size_extract]; omega
      go_upto_region 14 with fail
      go_cut [19, 20] (fun p q wz => p = .string (appA (log.extract 0 (rlE log)) (putT x)) ∧ q = .bool (appB (log.extract 0 (rlE log)) (putT x)) ∧ Below wc.heap.size wc wz)
      case first =>
        as_aux_lemma =>
          obtain ⟨wc0, hwc0⟩ : ∃ z, z = wc := ⟨_, rfl⟩
          clear hwc0 wc0
          refine wp_region_held_drew (S := (fun w' => VT w' bS x (.slice ac x.cs.length cc) (.slice ar x.rs.length cr))) (by kernel_rfl) ?_ (fun hHeld => ?_)
          · exact hS.below (bex)
          refine tkY (i := 0) (d := 134) (v := ?_) rfl rfl ?_ ?_
          rotate_left
          · intro w' hSw; obtain ⟨_, a0, a1, a2, a3, a4, _⟩ := hSw; go_simp; try exact rfl
          try simp only [List.setIfInBounds_toArray, List.set_cons_zero, List.set_cons_succ]
          refine tkY (i := 1) (d := 135) (v := ?_) rfl rfl ?_ ?_
          rotate_left
          · intro w' hSw; obtain ⟨_, a0, a1, a2, a3, a4, _⟩ := hSw; go_simp; try exact rfl
          try simp only [List.setIfInBounds_toArray, List.set_cons_zero, List.set_cons_succ]
          refine tkY (i := 2) (d := 136) (v := ?_) rfl rfl ?_ ?_
          rotate_left
          · intro w' hSw; obtain ⟨_, a0, a1, a2, a3, a4, _⟩ := hSw; go_simp; try exact rfl
          try simp only [List.setIfInBounds_toArray, List.set_cons_zero, List.set_cons_succ]
          refine tkY (i := 3) (d := 137) (v := ?_) rfl rfl ?_ ?_
          rotate_left
          · intro w' hSw; obtain ⟨_, a0, a1, a2, a3, a4, _⟩ := hSw; go_simp; try exact rfl
          try simp only [List.setIfInBounds_toArray, List.set_cons_zero, List.set_cons_succ]
          refine wpAnyH_ready (rs := [4]) (by kernel_rfl) (by simp) ?_
          refine AllReadyH.cons rfl (fun KK hKK => ?_) AllReadyH.nil
          go_simp
          go_at_call 12
          refine Calls.mono (implAppend_any (log.extract 0 (rlE log)) x (.slice ac x.cs.length cc) (.slice ar x.rs.length cr) _ (by omega) hwf (hS.is.below (bex))) ?_
          rintro x w20 ⟨rfl, hb20⟩
          have hz20 := hb20.size
          (try simp at hz20)
          try go_wp2_with fail
          refine hKK.out _ _ ?_ (fun hHeld4 => ?_)
          · exact hS.below (bex)
          clear hKK
          refine tkY (i := 5) (d := 133) (v := ?_) rfl rfl ?_ ?_
          rotate_left
          · intro w' hSw; obtain ⟨_, a0, a1, a2, a3, a4, _⟩ := hSw; go_simp; try exact rfl
          try simp only [List.setIfInBounds_toArray, List.set_cons_zero, List.set_cons_succ]
          refine tkY (i := 6) (d := 139) (v := ?_) rfl rfl ?_ ?_
          rotate_left
          · intro w' hSw; obtain ⟨_, a0, a1, a2, a3, a4, _⟩ := hSw; go_simp; try exact rfl
          try simp only [List.setIfInBounds_toArray, List.set_cons_zero, List.set_cons_succ]
          refine tkY (i := 7) (d := 140) (v := ?_) rfl rfl ?_ ?_
          rotate_left
          · intro w' hSw; obtain ⟨_, a0, a1, a2, a3, a4, _⟩ := hSw; go_simp; try exact rfl
          try simp only [List.setIfInBounds_toArray, List.set_cons_zero, List.set_cons_succ]
          refine tkY (i := 8) (d := 19) (v := ?_) rfl rfl ?_ ?_
          rotate_left
          · intro w' hSw; obtain ⟨_, a0, a1, a2, a3, a4, _⟩ := hSw; go_simp; try exact rfl
          try simp only [List.setIfInBounds_toArray, List.set_cons_zero, List.set_cons_succ]
          refine tkY (i := 9) (d := 20) (v := ?_) rfl rfl ?_ ?_
          rotate_left
          · intro w' hSw; obtain ⟨_, a0, a1, a2, a3, a4, _⟩ := hSw; go_simp; try exact rfl
          try simp only [List.setIfInBounds_toArray, List.set_cons_zero, List.set_cons_succ]
          refine wpAnyH_done (by kernel_rfl) ?_ _
          go_wp2_with fail
          (try go_meet)
          (try (case rel => exact ⟨rfl, rfl, bex⟩))
      case rest =>
        obtain ⟨rfl, rfl, hbM⟩ := hcut
        replace hS := hS.below hbM
        replace hL := hL.below hbM
        replace hbw := hbw.trans (hbM.mono hzw)
        replace hzw := hbw.size
        clear hbM
        cases hok : okStep x
        · have ht : putT x = ⟨#[]⟩ := by unfold putT; rw [hok]; rfl
          rw [ht]
          have e1 : appB (log.extract 0 (rlE log)) ⟨#[]⟩ = false := app_no (by rw [ByteArray.toList_eq]; rfl)
          have e2 : appA (log.extract 0 (rlE log)) ⟨#[]⟩ = log.extract 0 (rlE log) := appA_no e1
          rw [e1, e2]
          go_wp2
          go_returns
          exact ⟨rfl, hbw⟩
        obtain ⟨hgO, hgT⟩ := step_back hok (HF.out hok)
        have hpos : 0 < (putT x).size := by
          rcases Nat.eq_zero_or_pos (putT x).size with h | h
          · have := mdL_ne x
            rw [← putT_tx hok] at this
            exact absurd (List.eq_nil_of_length_eq_zero (by rw [txN_len]; exact h)) this
          · exact h
        have hne : (putT x).toList.isEmpty = false := by
          rw [ByteArray.toList_eq]
          have : (putT x).data.toList.length = (putT x).size := rfl
          cases h : (putT x).data.toList with
          | nil => rw [h] at this; simp at this; omega
          | cons => rfl
        have hne2 : ((putT x).toList == []) = false := by cases h : (putT x).toList with
          | nil => rw [h] at hne; simp at hne
          | cons => rfl
        have e1 : appB (log.extract 0 (rlE log)) (putT x) = true := app_yes hne (by rw [hxs]; omega)
        have hMore : More log (putT x) (appA (log.extract 0 (rlE log)) (putT x)) (rlE log) := by rw [appA_yes e1]; exact More.of hEl
        rw [e1]
        have ht32 : (putT x).size < 4294967296 := by omega
        have hms := hMore.sz
        have hmz : (appA (log.extract 0 (rlE log)) (putT x)).size ≤ 100000 := by omega
        obtain ⟨m1, m2⟩ := log_more hMore ht32 hgO hmz
        have HC : Hid (∀ cut, cut = (appA (log.extract 0 (rlE log)) (putT x)).extract 0 ((appA (log.extract 0 (rlE log)) (putT x)).size - 1) → rlT cut = rlT log ∧ rlE cut = rlE log) := fun cut hc => log_cut hMore ht32 hpos hmz hc
        have HP : Hid (∀ (b : ByteArray) (i : Nat), b.size = (appA (log.extract 0 (rlE log)) (putT x)).size → rlE log + 8 ≤ i → i < (appA (log.extract 0 (rlE log)) (putT x)).size → (∀ j, j ≠ i → bAt b j = bAt (appA (log.extract 0 (rlE log)) (putT x)) j) → bAt b i ≠ bAt (appA (log.extract 0 (rlE log)) (putT x)) i → rlT b = rlT log ∧ rlE b = rlE log) := fun b i h1 h2 h3 h4 h5 => log_spoilt hMore ht32 hmz h1 h2 h3 h4 h5
        rw [hgT] at m1
        have hll := rlT_len log
        have hm9 : 9 ≤ (appA (log.extract 0 (rlE log)) (putT x)).size := by omega
        have HM : Hid ((appA (log.extract 0 (rlE log)) (putT x)).size = rlE log + 8 + (putT x).size) := hms
        clear hMore e1 HF hxs hms
        generalize appA (log.extract 0 (rlE log)) (putT x) = more at *
        have hne3 : (putT x).toList ≠ [] := by intro h; rw [h] at hne2; simp at hne2
        have HGT : Hid (gT (putT x) = x) := hgT
        have HGO : Hid (gO (putT x) = true) := hgO
        clear hgT hgO
        go_wp2_with fail
        refine Calls.mono (implGetStep_any (putT x) _ (by omega)) ?_
        rintro x_ w21 ⟨⟨uc21, ur21, g21, F21, rfl, hO21⟩, hb21⟩
        rw [HGT.out] at hO21
        rw [HGT.out, HGO.out]
        obtain ⟨⟨az, cz, rfl, _, _⟩, bz, dz, rfl, _, _⟩ := hO21.is.shape
        have isB := hO21.is
        clear hO21
        replace hS := hS.below hb21
        replace hL := hL.below hb21
        replace hbw := hbw.trans (hb21.mono hzw)
        replace hzw := hbw.size
        clear hb21 HGT HGO
        have hT := VT.new w21 x (.slice az x.cs.length cz) (.slice bz x.rs.length dz) isB
        replace hS := hS.alloc (.cells #[.int .i64 x.k, .string x.s, (.slice az x.cs.length cz), .string x.q, (.slice bz x.rs.length dz)] 27)
        replace hL := hL.alloc (.cells #[.int .i64 x.k, .string x.s, (.slice az x.cs.length cz), .string x.q, (.slice bz x.rs.length dz)] 27)
        replace hbw : Below w.heap.size w (w21.alloc (.cells #[.int .i64 x.k, .string x.s, (.slice az x.cs.length cz), .string x.q, (.slice bz x.rs.length dz)] 27)) := hbw.trans ((Below.refl _ _).alloc hzw _)
        replace hzw := hbw.size
        clear isB
        go_upto_region 20 with fail
        generalize w21.alloc (.cells #[.int .i64 x.k, .string x.s, (.slice az x.cs.length cz), .string x.q, (.slice bz x.rs.length dz)] 27) = w22 at *
        generalize w21.heap.size = bT at *
        go_wp2_with fail
        refine Calls.mono (implReadLog_any more _ (by omega)) ?_
        rintro x_ w23 ⟨⟨v23, us23, G23, rfl, hO23⟩, hb23⟩
        rw [m1] at hO23
        rw [m2]
        obtain ⟨q23, k23, rfl⟩ : ∃ a c, v23 = .slice a ((rlT log).length + 1) c := by obtain ⟨a, c, e⟩ := hO23.shape; exact ⟨a, c, by rw [e]; simp⟩
        clear hO23
        replace hS := hS.below hb23
        replace hL := hL.below hb23
        replace hT := hT.below hb23
        replace hbw := hbw.trans (hb23.mono hzw)
        replace hzw := hbw.size
        clear hb23 m1 m2
        have hw1 : wrap64 ((more.size : Int) - 1) = (more.size : Int) - 1 := by unfold wrap64; omega
        have hw2 : (more.size : Int) - 1 = ((more.size - 1 : Nat) : Int) := by omega
        have hcl : more.size - 1 ≤ more.size := by omega
        have hml : ((more.size - 1 : Nat) : Int) ≤ more.size := by omega
        rw [hw2] at hw1
        go_wp2_with fail
        have hcs : (more.extract 0 (more.size - 1)).size ≤ 1048576 := by rw [ByteArray.size_extract]; omega
        refine Calls.mono (implReadLog_any (more.extract 0 (more.size - 1)) _ (by omega)) ?_
        rintro x_ w24 ⟨⟨v24, us24, G24, rfl, hO24⟩, hb24⟩
        rw [(HC.out _ rfl).1] at hO24
        rw [(HC.out _ rfl).2]
        obtain ⟨q24, k24, rfl⟩ : ∃ a c, v24 = .slice a ((rlT log).length) c := by obtain ⟨a, c, e⟩ := hO24.shape; exact ⟨a, c, by rw [e]⟩
        clear hO24
        replace hS := hS.below hb24
        replace hL := hL.below hb24
        replace hT := hT.below hb24
        replace hbw := hbw.trans (hb24.mono hzw)
        replace hzw := hbw.size
        clear hb24 HC hcs hw1 hw2 hml
        have hz24 := hzw
        have hk0 : Below w24.heap.size w24 w24 := Below.refl _ _
        obtain ⟨cap, w25, hcv, hBy, hb25⟩ := conv_new w24 more
        have hk := hb25
        replace hbw := hbw.trans (hb25.mono hzw)
        replace hzw := hbw.size
        clear hb25 hk0
        go_wp2_with fail
        refine Calls.mono (at_any (.slice a l c) l 3 w25 (hB.up hbw hzw) (by omega)) ?_
        rintro x_ w26 ⟨⟨z3, rfl, z30, z31⟩, hb26⟩
        clear hcv
        replace hBy := hBy.below hb26
        replace hk := hk.trans (hb26.mono hk.size)
        replace hbw := hbw.trans (hb26.mono hzw)
        replace hzw := hbw.size
        clear hb26
        have hts0 : ¬ ((putT x).size : Int) = 0 := by omega
        have hts1 : (((putT x).size : Int) == 0) = false := beq_eq_false_iff_ne.2 hts0
        have r0 := Int.emod_nonneg z3 hts0
        have r1 := Int.emod_lt_of_pos z3 (show (0 : Int) < (putT x).size by omega)
        obtain ⟨iN, hiN⟩ : ∃ iN : Nat, (iN : Int) = (more.size : Int) - 1 - z3 % ((putT x).size : Int) := ⟨((more.size : Int) - 1 - z3 % ((putT x).size : Int)).toNat, by have := HM.out; omega⟩
        have hi8 : rlE log + 8 ≤ iN := by have := HM.out; omega
        have hiM : iN < more.size := by omega
        have hwI : wrap64 ((more.size : Int) - 1 - z3 % ((putT x).size : Int)) = (iN : Int) := by rw [← hiN]; unfold wrap64; omega
        have hiL : (iN : Int) < more.size := by omega
        clear hiN r0 r1
        go_upto_region 24 with fail
        rw [hwI]
        clear hwI hts0 hts1 z30 z31
        have d0 := hBy.c iN hiM
        have df := hBy.f iN hiM
        have hbl := hBy.lt
        refine startE 13 (fun w' => w'.cell? ⟨w24.heap.size, iN, none⟩ = some (.int .u8 (bAt more iN : Int))) (by kernel_rfl) ?_ (fun hHeld => ?_)
        · (try dsimp only)
          exact d0
        refine tkE (i := 0) (d := 182) (v := ?_) rfl rfl ?_ ?_
        rotate_left
        · intro w' hSw; (try dsimp only at hSw); go_simp; try exact rfl
        try simp only [List.setIfInBounds_toArray, List.set_cons_zero, List.set_cons_succ]
        refine tkE (i := 1) (d := 183) (v := ?_) rfl rfl ?_ ?_
        rotate_left
        · intro w' hSw; (try dsimp only at hSw); go_simp; try exact rfl
        try simp only [List.setIfInBounds_toArray, List.set_cons_zero, List.set_cons_succ]
        refine tkE (i := 2) (d := 184) (v := ?_) rfl rfl ?_ ?_
        rotate_left
        · intro w' hSw; (try dsimp only at hSw); go_simp; try exact rfl
        try simp only [List.setIfInBounds_toArray, List.set_cons_zero, List.set_cons_succ]
        refine tkE (i := 3) (d := 185) (v := ?_) rfl rfl ?_ ?_
        rotate_left
        · intro w' hSw; (try dsimp only at hSw); go_simp; try exact rfl
        try simp only [List.setIfInBounds_toArray, List.set_cons_zero, List.set_cons_succ]
        refine tkE (i := 4) (d := 186) (v := ?_) rfl rfl ?_ ?_
        rotate_left
        · intro w' hSw; (try dsimp only at hSw); go_simp; try exact rfl
        try simp only [List.setIfInBounds_toArray, List.set_cons_zero, List.set_cons_succ]
        refine tkE (i := 5) (d := 187) (v := ?_) rfl rfl ?_ ?_
        rotate_left
        · intro w' hSw; (try dsimp only at hSw); go_simp; try exact rfl
        try simp only [List.setIfInBounds_toArray, List.set_cons_zero, List.set_cons_succ]
        refine tkE (i := 6) (d := 188) (v := ?_) rfl rfl ?_ ?_
        rotate_left
        · intro w' hSw; (try dsimp only at hSw); go_simp; try exact rfl
        try simp only [List.setIfInBounds_toArray, List.set_cons_zero, List.set_cons_succ]
        refine oneE (i := 7) (by kernel_rfl) rfl (fun K hK => ?_)
        go_simp
        go_at_call 21
        refine Calls.mono (at_any (.slice a l c) l 4 w26.drew (hB.up hbw.drew hzw) (by omega)) ?_
        rintro x_ w27 ⟨⟨z4, rfl, z40, z41⟩, hb27⟩
        have bel27 : Below w26.heap.size w26 w27 := (Below.refl w26.heap.size w26).drew.trans hb27
        have hBy7 := hBy.below bel27
        have e0 := hBy7.c iN hiM
        have ef := hBy7.f iN hiM
        have hbl7 := hBy7.lt
        have hk7 := hk.trans (bel27.mono hk.size)
        have hbw7 := hbw.trans (bel27.mono hzw)
        obtain ⟨mN, hmN⟩ : ∃ mN : Nat, (mN : Int) = 1 + z4 % 255 := ⟨(1 + z4 % 255).toNat, by omega⟩
        have hm1 : 1 ≤ mN ∧ mN ≤ 255 := by omega
        have g1 : wrap64 (1 + z4 % 255) = (mN : Int) := by rw [← hmN]; unfold wrap64; omega
        have g3 : IntKind.i64.wrap (1 + z4 % 255) = (mN : Int) := by rw [IntKind.wrap_i64]; omega
        have tm4 : z4.tmod 255 = z4 % 255 := Int.tmod_eq_emod_of_nonneg z40
        have g4 : wrap64 (1 + z4.tmod 255) = (mN : Int) := by rw [tm4]; exact g1
        have g5 : IntKind.i64.wrap (1 + z4.tmod 255) = (mN : Int) := by rw [tm4]; exact g3
        clear tm4
        have g2 : IntKind.u8.wrap (mN : Int) = (mN : Int) := by rw [IntKind.wrap_u8]; omega
        have hxb := xor_byte (bAt_lt more iN) (show mN < 256 by omega) (show mN ≠ 0 by omega)
        clear hmN hb27 bel27
        try go_wp2_with fail
        refine hK.out _ _ ?_ (fun hHeld7 => ?_)
        · intro _
          (try dsimp only)
          exact e0
        clear hK
        replace hHeld7 := hHeld7 (by decide)
        try simp only [List.setIfInBounds_toArray, List.set_cons_zero, List.set_cons_succ]
        refine tkE (i := 8) (d := 190) (v := ?_) rfl rfl ?_ ?_
        rotate_left
        · intro w' hSw; (try dsimp only at hSw); go_simp; try exact rfl
        try simp only [List.setIfInBounds_toArray, List.set_cons_zero, List.set_cons_succ]
        refine tkE (i := 9) (d := 191) (v := ?_) rfl rfl ?_ ?_
        rotate_left
        · intro w' hSw; (try dsimp only at hSw); go_simp; try exact rfl
        try simp only [List.setIfInBounds_toArray, List.set_cons_zero, List.set_cons_succ]
        refine tkE (i := 10) (d := 192) (v := ?_) rfl rfl ?_ ?_
        rotate_left
        · intro w' hSw; (try dsimp only at hSw); go_simp; try exact rfl
        try simp only [List.setIfInBounds_toArray, List.set_cons_zero, List.set_cons_succ]
        refine tkE (i := 11) (d := 193) (v := ?_) rfl rfl ?_ ?_
        rotate_left
        · intro w' hSw; (try dsimp only at hSw); go_simp; try exact rfl
        try simp only [List.setIfInBounds_toArray, List.set_cons_zero, List.set_cons_succ]
        refine oneE (i := 12) (by kernel_rfl) rfl (fun K hK => ?_)
        go_simp
        refine hK.out _ _ ?_ (fun hHeld12 => ?_)
        · intro _
          (try dsimp only)
          exact e0
        clear hK
        replace hHeld12 := hHeld12 (by decide)
        try simp only [List.setIfInBounds_toArray, List.set_cons_zero, List.set_cons_succ]
        refine oneE (i := 13) (by kernel_rfl) rfl (fun K hK => ?_)
        go_simp
        refine hK.out _ _ ?_ (fun hHeld13 => ?_)
        · exact fun h => absurd rfl h
        clear hK hHeld13
        try simp only [List.setIfInBounds_toArray, List.set_cons_zero, List.set_cons_succ]
        refine doneE (by kernel_rfl) ?_ _
        obtain ⟨zz, hzz⟩ : ∃ z, z = bits .xor .u8 (bAt more iN : Int) (mN : Int) := ⟨_, rfl⟩
        rw [← hzz] at hxb ⊢
        have hBy8 := hBy7.set hiM hxb.1 hxb.2.1
        have hk8 := hk7.setCell (p := ⟨w24.heap.size, iN, none⟩) (Nat.le_refl _) (.int .u8 zz)
        have hbw8 := hbw7.setCell (p := ⟨w24.heap.size, iN, none⟩) hz24 (.int .u8 zz)
        generalize w27.setCell ⟨w24.heap.size, iN, none⟩ (.int .u8 zz) = w28 at *
        have hcv2 := hBy8.conv cap
        rw [setB1_size] at hcv2
        have hsp := HP.out (setB1 more iN zz) iN (setB1_size _ _ _) hi8 hiM (fun j hj => by have e := setB1_at more iN zz hiM hxb.1 hxb.2.1 j; rw [if_neg hj] at e; omega) (by have e := setB1_at more iN zz hiM hxb.1 hxb.2.1 iN; rw [if_pos rfl] at e; have := hxb.2.2; omega)
        have hbs : (setB1 more iN zz).size ≤ 1048576 := by rw [setB1_size]; omega
        generalize setB1 more iN zz = more2 at *
        have HS2 : Hid _ := hsp
        clear hsp HP hxb hzz z40 z41 e0 ef d0 df hBy hBy7 hk7 hbw7 hk hbw hHeld hHeld7 hHeld12 hm1 g1 g2 g3 g4 g5 hBy8
        have hzw8 := hbw8.size
        go_wp2_with fail
        refine Calls.mono (implReadLog_any more2 _ hbs) ?_
        rintro x_ w29 ⟨⟨v29, us29, G29, rfl, hO29⟩, hb29⟩
        rw [HS2.out.1] at hO29
        rw [HS2.out.2]
        obtain ⟨q29, k29, rfl⟩ := hO29.shape
        clear hO29 hcv2 HS2 hbs
        have hk9 := hk8.trans (hb29.mono hk8.size)
        have hbw9 := hbw8.trans (hb29.mono hzw8)
        replace hS := hS.below hk9
        replace hT := hT.below hk9
        have hzw9 := hbw9.size
        clear hk8 hbw8 hzw8 hb29 hk9 hL hB
        have qS := hS
        obtain ⟨_, s0, s1, s2, s3, s4, _⟩ := qS
        have qT := hT
        obtain ⟨_, t0, t1, t2, t3, t4, _⟩ := qT
        have hw9 : wrap64 (((rlT log).length : Int) + 1) = ((rlT log).length : Int) + 1 := by unfold wrap64; omega
        go_wp2_with fail
        refine Calls.mono (sameStep_any x (.slice az x.cs.length cz) (.slice bz x.rs.length dz) (.slice ac x.cs.length cc) (.slice ar x.rs.length cr) w29 hT.is hS.is) ?_
        rintro x_ w30 ⟨rfl, hb30⟩
        replace hbw9 := hbw9.trans (hb30.mono hzw9)
        clear hb30 hS hT s0 s1 s2 s3 s4 t0 t1 t2 t3 t4 hi8 hiM hiL hbl hbl7 hm9 hmz hne hne2 hne3 ht32 hpos hok hEI hcl hu hps hl hzw hzw9 hz24 HM
        generalize (rlT log).length = nl at *
        generalize rlE log = ne at *
        go_wp2
        go_returns
        exact ⟨rfl, hbw9⟩
  · go_cut [132] (fun v wz => v = .bool false ∧ Below w9.heap.size w9 wz)
    case first =>
      as_aux_lemma =>
        refine wp_region_held_drew (S := (fun w' => VT w' bS x (.slice ac x.cs.length cc) (.slice ar x.rs.length cr) ∧ VT w' bX (gT u) (.slice ax (gT u).cs.length cx) (.slice bx (gT u).rs.length dx) ∧ VT w' bY (gT u) (.slice ay (gT u).cs.length cy) (.slice by' (gT u).rs.length dy))) (by kernel_rfl) ?_ (fun hHeld => ?_)
        · exact ⟨hS.below (bex), hX.below (bex), hY.below (bex)⟩
        refine tkY (i := 0) (d := 74) (v := ?_) rfl rfl ?_ ?_
        rotate_left
        · intro w' hSw; obtain ⟨⟨_, a0, a1, a2, a3, a4, _⟩, ⟨_, x0, x1, x2, x3, x4, _⟩, ⟨_, y0, y1, y2, y3, y4, _⟩⟩ := hSw; go_simp; try exact rfl
        try simp only [List.setIfInBounds_toArray, List.set_cons_zero, List.set_cons_succ]
        refine tkY (i := 1) (d := 75) (v := ?_) rfl rfl ?_ ?_
        rotate_left
        · intro w' hSw; obtain ⟨⟨_, a0, a1, a2, a3, a4, _⟩, ⟨_, x0, x1, x2, x3, x4, _⟩, ⟨_, y0, y1, y2, y3, y4, _⟩⟩ := hSw; go_simp; try exact rfl
        try simp only [List.setIfInBounds_toArray, List.set_cons_zero, List.set_cons_succ]
        refine wpAnyH_ready (rs := [2]) (by kernel_rfl) (by simp) ?_
        refine AllReadyH.cons rfl (fun KK hKK => ?_) AllReadyH.nil
        go_simp
        go_at_call 14
        refine Calls.mono (sameSteps_any (.slice a2 (rlT log).length k2) (.slice a3 (rlT log).length k3) (rlT log) _ (hL.is.below (bex)) (hM.is.below (bex))) ?_
        rintro x w10 ⟨rfl, hb10⟩
        have hz10 := hb10.size
        (try simp at hz10)
        try go_wp2_with fail
        refine hKK.out _ _ ?_ (fun hHeld2 => ?_)
        · exact ⟨hS.below (bex), hX.below (bex), hY.below (bex)⟩
        clear hKK
        refine tkY (i := 3) (d := 77) (v := ?_) rfl rfl ?_ ?_
        rotate_left
        · intro w' hSw; obtain ⟨⟨_, a0, a1, a2, a3, a4, _⟩, ⟨_, x0, x1, x2, x3, x4, _⟩, ⟨_, y0, y1, y2, y3, y4, _⟩⟩ := hSw; go_simp; try exact rfl
        try simp only [List.setIfInBounds_toArray, List.set_cons_zero, List.set_cons_succ]
        refine tkY (i := 4) (d := 78) (v := ?_) rfl rfl ?_ ?_
        rotate_left
        · intro w' hSw; obtain ⟨⟨_, a0, a1, a2, a3, a4, _⟩, ⟨_, x0, x1, x2, x3, x4, _⟩, ⟨_, y0, y1, y2, y3, y4, _⟩⟩ := hSw; go_simp; try exact rfl
        try simp only [List.setIfInBounds_toArray, List.set_cons_zero, List.set_cons_succ]
        refine tkY (i := 5) (d := 79) (v := ?_) rfl rfl ?_ ?_
        rotate_left
        · intro w' hSw; obtain ⟨⟨_, a0, a1, a2, a3, a4, _⟩, ⟨_, x0, x1, x2, x3, x4, _⟩, ⟨_, y0, y1, y2, y3, y4, _⟩⟩ := hSw; go_simp; try exact rfl
        try simp only [List.setIfInBounds_toArray, List.set_cons_zero, List.set_cons_succ]
        refine tkY (i := 6) (d := 80) (v := ?_) rfl rfl ?_ ?_
        rotate_left
        · intro w' hSw; obtain ⟨⟨_, a0, a1, a2, a3, a4, _⟩, ⟨_, x0, x1, x2, x3, x4, _⟩, ⟨_, y0, y1, y2, y3, y4, _⟩⟩ := hSw; go_simp; try exact rfl
        try simp only [List.setIfInBounds_toArray, List.set_cons_zero, List.set_cons_succ]
        refine tkY (i := 7) (d := 81) (v := ?_) rfl rfl ?_ ?_
        rotate_left
        · intro w' hSw; obtain ⟨⟨_, a0, a1, a2, a3, a4, _⟩, ⟨_, x0, x1, x2, x3, x4, _⟩, ⟨_, y0, y1, y2, y3, y4, _⟩⟩ := hSw; go_simp; try exact rfl
        try simp only [List.setIfInBounds_toArray, List.set_cons_zero, List.set_cons_succ]
        refine tkY (i := 8) (d := 82) (v := ?_) rfl rfl ?_ ?_
        rotate_left
        · intro w' hSw; obtain ⟨⟨_, a0, a1, a2, a3, a4, _⟩, ⟨_, x0, x1, x2, x3, x4, _⟩, ⟨_, y0, y1, y2, y3, y4, _⟩⟩ := hSw; go_simp; try exact rfl
        try simp only [List.setIfInBounds_toArray, List.set_cons_zero, List.set_cons_succ]
        refine tkY (i := 9) (d := 83) (v := ?_) rfl rfl ?_ ?_
        rotate_left
        · intro w' hSw; obtain ⟨⟨_, a0, a1, a2, a3, a4, _⟩, ⟨_, x0, x1, x2, x3, x4, _⟩, ⟨_, y0, y1, y2, y3, y4, _⟩⟩ := hSw; go_simp; try exact rfl
        try simp only [List.setIfInBounds_toArray, List.set_cons_zero, List.set_cons_succ]
        refine tkY (i := 10) (d := 84) (v := ?_) rfl rfl ?_ ?_
        rotate_left
        · intro w' hSw; obtain ⟨⟨_, a0, a1, a2, a3, a4, _⟩, ⟨_, x0, x1, x2, x3, x4, _⟩, ⟨_, y0, y1, y2, y3, y4, _⟩⟩ := hSw; go_simp; try exact rfl
        try simp only [List.setIfInBounds_toArray, List.set_cons_zero, List.set_cons_succ]
        refine tkY (i := 11) (d := 85) (v := ?_) rfl rfl ?_ ?_
        rotate_left
        · intro w' hSw; obtain ⟨⟨_, a0, a1, a2, a3, a4, _⟩, ⟨_, x0, x1, x2, x3, x4, _⟩, ⟨_, y0, y1, y2, y3, y4, _⟩⟩ := hSw; go_simp; try exact rfl
        try simp only [List.setIfInBounds_toArray, List.set_cons_zero, List.set_cons_succ]
        refine wpAnyH_ready (rs := [12]) (by kernel_rfl) (by simp) ?_
        refine AllReadyH.cons rfl (fun KK hKK => ?_) AllReadyH.nil
        go_simp
        go_at_call 15
        refine Calls.mono (specPutStep_any x (.slice ac x.cs.length cc) (.slice ar x.rs.length cr) _ hwf (hS.is.below (bex))) ?_
        rintro x w11 ⟨rfl, hb11⟩
        have hz11 := hb11.size
        (try simp at hz11)
        try go_wp2_with fail
        refine hKK.out _ _ ?_ (fun hHeld12 => ?_)
        · exact ⟨hS.below (bex), hX.below (bex), hY.below (bex)⟩
        clear hKK
        refine tkY (i := 13) (d := 87) (v := ?_) rfl rfl ?_ ?_
        rotate_left
        · intro w' hSw; obtain ⟨⟨_, a0, a1, a2, a3, a4, _⟩, ⟨_, x0, x1, x2, x3, x4, _⟩, ⟨_, y0, y1, y2, y3, y4, _⟩⟩ := hSw; go_simp; try exact rfl
        try simp only [List.setIfInBounds_toArray, List.set_cons_zero, List.set_cons_succ]
        refine tkY (i := 14) (d := 88) (v := ?_) rfl rfl ?_ ?_
        rotate_left
        · intro w' hSw; obtain ⟨⟨_, a0, a1, a2, a3, a4, _⟩, ⟨_, x0, x1, x2, x3, x4, _⟩, ⟨_, y0, y1, y2, y3, y4, _⟩⟩ := hSw; go_simp; try exact rfl
        try simp only [List.setIfInBounds_toArray, List.set_cons_zero, List.set_cons_succ]
        refine tkY (i := 15) (d := 89) (v := ?_) rfl rfl ?_ ?_
        rotate_left
        · intro w' hSw; obtain ⟨⟨_, a0, a1, a2, a3, a4, _⟩, ⟨_, x0, x1, x2, x3, x4, _⟩, ⟨_, y0, y1, y2, y3, y4, _⟩⟩ := hSw; go_simp; try exact rfl
        try simp only [List.setIfInBounds_toArray, List.set_cons_zero, List.set_cons_succ]
        refine tkY (i := 16) (d := 90) (v := ?_) rfl rfl ?_ ?_
        rotate_left
        · intro w' hSw; obtain ⟨⟨_, a0, a1, a2, a3, a4, _⟩, ⟨_, x0, x1, x2, x3, x4, _⟩, ⟨_, y0, y1, y2, y3, y4, _⟩⟩ := hSw; go_simp; try exact rfl
        try simp only [List.setIfInBounds_toArray, List.set_cons_zero, List.set_cons_succ]
        refine tkY (i := 17) (d := 91) (v := ?_) rfl rfl ?_ ?_
        rotate_left
        · intro w' hSw; obtain ⟨⟨_, a0, a1, a2, a3, a4, _⟩, ⟨_, x0, x1, x2, x3, x4, _⟩, ⟨_, y0, y1, y2, y3, y4, _⟩⟩ := hSw; go_simp; try exact rfl
        try simp only [List.setIfInBounds_toArray, List.set_cons_zero, List.set_cons_succ]
        refine tkY (i := 18) (d := 92) (v := ?_) rfl rfl ?_ ?_
        rotate_left
        · intro w' hSw; obtain ⟨⟨_, a0, a1, a2, a3, a4, _⟩, ⟨_, x0, x1, x2, x3, x4, _⟩, ⟨_, y0, y1, y2, y3, y4, _⟩⟩ := hSw; go_simp; try exact rfl
        try simp only [List.setIfInBounds_toArray, List.set_cons_zero, List.set_cons_succ]
        refine tkY (i := 19) (d := 93) (v := ?_) rfl rfl ?_ ?_
        rotate_left
        · intro w' hSw; obtain ⟨⟨_, a0, a1, a2, a3, a4, _⟩, ⟨_, x0, x1, x2, x3, x4, _⟩, ⟨_, y0, y1, y2, y3, y4, _⟩⟩ := hSw; go_simp; try exact rfl
        try simp only [List.setIfInBounds_toArray, List.set_cons_zero, List.set_cons_succ]
        refine tkY (i := 20) (d := 94) (v := ?_) rfl rfl ?_ ?_
        rotate_left
        · intro w' hSw; obtain ⟨⟨_, a0, a1, a2, a3, a4, _⟩, ⟨_, x0, x1, x2, x3, x4, _⟩, ⟨_, y0, y1, y2, y3, y4, _⟩⟩ := hSw; go_simp; try exact rfl
        try simp only [List.setIfInBounds_toArray, List.set_cons_zero, List.set_cons_succ]
        refine tkY (i := 21) (d := 95) (v := ?_) rfl rfl ?_ ?_
        rotate_left
        · intro w' hSw; obtain ⟨⟨_, a0, a1, a2, a3, a4, _⟩, ⟨_, x0, x1, x2, x3, x4, _⟩, ⟨_, y0, y1, y2, y3, y4, _⟩⟩ := hSw; go_simp; try exact rfl
        try simp only [List.setIfInBounds_toArray, List.set_cons_zero, List.set_cons_succ]
        refine tkY (i := 22) (d := 96) (v := ?_) rfl rfl ?_ ?_
        rotate_left
        · intro w' hSw; obtain ⟨⟨_, a0, a1, a2, a3, a4, _⟩, ⟨_, x0, x1, x2, x3, x4, _⟩, ⟨_, y0, y1, y2, y3, y4, _⟩⟩ := hSw; go_simp; try exact rfl
        try simp only [List.setIfInBounds_toArray, List.set_cons_zero, List.set_cons_succ]
        refine wpAnyH_ready (rs := [23]) (by kernel_rfl) (by simp) ?_
        refine AllReadyH.cons rfl (fun KK hKK => ?_) AllReadyH.nil
        go_simp
        go_at_call 16
        refine Calls.mono (sameStep_any (gT u) (.slice ax (gT u).cs.length cx) (.slice bx (gT u).rs.length dx) (.slice ay (gT u).cs.length cy) (.slice by' (gT u).rs.length dy) _ (hX.is.below (bex)) (hY.is.below (bex))) ?_
        rintro x w12 ⟨rfl, hb12⟩
        have hz12 := hb12.size
        (try simp at hz12)
        try go_wp2_with fail
        refine hKK.out _ _ ?_ (fun hHeld23 => ?_)
        · exact ⟨hS.below (bex), hX.below (bex), hY.below (bex)⟩
        clear hKK
        refine tkY (i := 24) (d := 98) (v := ?_) rfl rfl ?_ ?_
        rotate_left
        · intro w' hSw; obtain ⟨⟨_, a0, a1, a2, a3, a4, _⟩, ⟨_, x0, x1, x2, x3, x4, _⟩, ⟨_, y0, y1, y2, y3, y4, _⟩⟩ := hSw; go_simp; try exact rfl
        try simp only [List.setIfInBounds_toArray, List.set_cons_zero, List.set_cons_succ]
        refine tkY (i := 25) (d := 99) (v := ?_) rfl rfl ?_ ?_
        rotate_left
        · intro w' hSw; obtain ⟨⟨_, a0, a1, a2, a3, a4, _⟩, ⟨_, x0, x1, x2, x3, x4, _⟩, ⟨_, y0, y1, y2, y3, y4, _⟩⟩ := hSw; go_simp; try exact rfl
        try simp only [List.setIfInBounds_toArray, List.set_cons_zero, List.set_cons_succ]
        refine tkY (i := 26) (d := 100) (v := ?_) rfl rfl ?_ ?_
        rotate_left
        · intro w' hSw; obtain ⟨⟨_, a0, a1, a2, a3, a4, _⟩, ⟨_, x0, x1, x2, x3, x4, _⟩, ⟨_, y0, y1, y2, y3, y4, _⟩⟩ := hSw; go_simp; try exact rfl
        try simp only [List.setIfInBounds_toArray, List.set_cons_zero, List.set_cons_succ]
        refine tkY (i := 27) (d := 101) (v := ?_) rfl rfl ?_ ?_
        rotate_left
        · intro w' hSw; obtain ⟨⟨_, a0, a1, a2, a3, a4, _⟩, ⟨_, x0, x1, x2, x3, x4, _⟩, ⟨_, y0, y1, y2, y3, y4, _⟩⟩ := hSw; go_simp; try exact rfl
        try simp only [List.setIfInBounds_toArray, List.set_cons_zero, List.set_cons_succ]
        refine tkY (i := 28) (d := 102) (v := ?_) rfl rfl ?_ ?_
        rotate_left
        · intro w' hSw; obtain ⟨⟨_, a0, a1, a2, a3, a4, _⟩, ⟨_, x0, x1, x2, x3, x4, _⟩, ⟨_, y0, y1, y2, y3, y4, _⟩⟩ := hSw; go_simp; try exact rfl
        try simp only [List.setIfInBounds_toArray, List.set_cons_zero, List.set_cons_succ]
        refine tkY (i := 29) (d := 103) (v := ?_) rfl rfl ?_ ?_
        rotate_left
        · intro w' hSw; obtain ⟨⟨_, a0, a1, a2, a3, a4, _⟩, ⟨_, x0, x1, x2, x3, x4, _⟩, ⟨_, y0, y1, y2, y3, y4, _⟩⟩ := hSw; go_simp; try exact rfl
        try simp only [List.setIfInBounds_toArray, List.set_cons_zero, List.set_cons_succ]
        refine tkY (i := 31) (d := 105) (v := ?_) rfl rfl ?_ ?_
        rotate_left
        · intro w' hSw; obtain ⟨⟨_, a0, a1, a2, a3, a4, _⟩, ⟨_, x0, x1, x2, x3, x4, _⟩, ⟨_, y0, y1, y2, y3, y4, _⟩⟩ := hSw; go_simp; try exact rfl
        try simp only [List.setIfInBounds_toArray, List.set_cons_zero, List.set_cons_succ]
        refine wpAnyH_ready (rs := [30]) (by kernel_rfl) (by simp) ?_
        refine AllReadyH.cons rfl (fun KK hKK => ?_) AllReadyH.nil
        go_simp
        go_at_call 8
        refine Calls.mono (implPutStep_any (gT u) (.slice ax (gT u).cs.length cx) (.slice bx (gT u).rs.length dx) _ wfu (hX.is.below (bex))) ?_
        rintro x w13 ⟨rfl, hb13⟩
        have hz13 := hb13.size
        (try simp at hz13)
        rw [HG.out hb]
        try go_wp2_with fail
        refine hKK.out _ _ ?_ (fun hHeld30 => ?_)
        · exact ⟨hS.below (bex), hX.below (bex), hY.below (bex)⟩
        clear hKK
        refine tkY (i := 32) (d := 106) (v := ?_) rfl rfl ?_ ?_
        rotate_left
        · intro w' hSw; obtain ⟨⟨_, a0, a1, a2, a3, a4, _⟩, ⟨_, x0, x1, x2, x3, x4, _⟩, ⟨_, y0, y1, y2, y3, y4, _⟩⟩ := hSw; go_simp; try exact rfl
        try simp only [List.setIfInBounds_toArray, List.set_cons_zero, List.set_cons_succ]
        refine tkY (i := 33) (d := 107) (v := ?_) rfl rfl ?_ ?_
        rotate_left
        · intro w' hSw; obtain ⟨⟨_, a0, a1, a2, a3, a4, _⟩, ⟨_, x0, x1, x2, x3, x4, _⟩, ⟨_, y0, y1, y2, y3, y4, _⟩⟩ := hSw; go_simp; try exact rfl
        try simp only [List.setIfInBounds_toArray, List.set_cons_zero, List.set_cons_succ]
        refine tkY (i := 34) (d := 108) (v := ?_) rfl rfl ?_ ?_
        rotate_left
        · intro w' hSw; obtain ⟨⟨_, a0, a1, a2, a3, a4, _⟩, ⟨_, x0, x1, x2, x3, x4, _⟩, ⟨_, y0, y1, y2, y3, y4, _⟩⟩ := hSw; go_simp; try exact rfl
        try simp only [List.setIfInBounds_toArray, List.set_cons_zero, List.set_cons_succ]
        refine tkY (i := 35) (d := 109) (v := ?_) rfl rfl ?_ ?_
        rotate_left
        · intro w' hSw; obtain ⟨⟨_, a0, a1, a2, a3, a4, _⟩, ⟨_, x0, x1, x2, x3, x4, _⟩, ⟨_, y0, y1, y2, y3, y4, _⟩⟩ := hSw; go_simp; try exact rfl
        try simp only [List.setIfInBounds_toArray, List.set_cons_zero, List.set_cons_succ]
        refine tkY (i := 36) (d := 110) (v := ?_) rfl rfl ?_ ?_
        rotate_left
        · intro w' hSw; obtain ⟨⟨_, a0, a1, a2, a3, a4, _⟩, ⟨_, x0, x1, x2, x3, x4, _⟩, ⟨_, y0, y1, y2, y3, y4, _⟩⟩ := hSw; go_simp; try exact rfl
        try simp only [List.setIfInBounds_toArray, List.set_cons_zero, List.set_cons_succ]
        refine tkY (i := 37) (d := 111) (v := ?_) rfl rfl ?_ ?_
        rotate_left
        · intro w' hSw; obtain ⟨⟨_, a0, a1, a2, a3, a4, _⟩, ⟨_, x0, x1, x2, x3, x4, _⟩, ⟨_, y0, y1, y2, y3, y4, _⟩⟩ := hSw; go_simp; try exact rfl
        try simp only [List.setIfInBounds_toArray, List.set_cons_zero, List.set_cons_succ]
        refine tkY (i := 38) (d := 112) (v := ?_) rfl rfl ?_ ?_
        rotate_left
        · intro w' hSw; obtain ⟨⟨_, a0, a1, a2, a3, a4, _⟩, ⟨_, x0, x1, x2, x3, x4, _⟩, ⟨_, y0, y1, y2, y3, y4, _⟩⟩ := hSw; go_simp; try exact rfl
        try simp only [List.setIfInBounds_toArray, List.set_cons_zero, List.set_cons_succ]
        refine tkY (i := 39) (d := 113) (v := ?_) rfl rfl ?_ ?_
        rotate_left
        · intro w' hSw; obtain ⟨⟨_, a0, a1, a2, a3, a4, _⟩, ⟨_, x0, x1, x2, x3, x4, _⟩, ⟨_, y0, y1, y2, y3, y4, _⟩⟩ := hSw; go_simp; try exact rfl
        try simp only [List.setIfInBounds_toArray, List.set_cons_zero, List.set_cons_succ]
        refine tkY (i := 40) (d := 114) (v := ?_) rfl rfl ?_ ?_
        rotate_left
        · intro w' hSw; obtain ⟨⟨_, a0, a1, a2, a3, a4, _⟩, ⟨_, x0, x1, x2, x3, x4, _⟩, ⟨_, y0, y1, y2, y3, y4, _⟩⟩ := hSw; go_simp; try exact rfl
        try simp only [List.setIfInBounds_toArray, List.set_cons_zero, List.set_cons_succ]
        refine tkY (i := 41) (d := 115) (v := ?_) rfl rfl ?_ ?_
        rotate_left
        · intro w' hSw; obtain ⟨⟨_, a0, a1, a2, a3, a4, _⟩, ⟨_, x0, x1, x2, x3, x4, _⟩, ⟨_, y0, y1, y2, y3, y4, _⟩⟩ := hSw; go_simp; try exact rfl
        try simp only [List.setIfInBounds_toArray, List.set_cons_zero, List.set_cons_succ]
        refine tkY (i := 42) (d := 116) (v := ?_) rfl rfl ?_ ?_
        rotate_left
        · intro w' hSw; obtain ⟨⟨_, a0, a1, a2, a3, a4, _⟩, ⟨_, x0, x1, x2, x3, x4, _⟩, ⟨_, y0, y1, y2, y3, y4, _⟩⟩ := hSw; go_simp; try exact rfl
        try simp only [List.setIfInBounds_toArray, List.set_cons_zero, List.set_cons_succ]
        refine tkY (i := 43) (d := 117) (v := ?_) rfl rfl ?_ ?_
        rotate_left
        · intro w' hSw; obtain ⟨⟨_, a0, a1, a2, a3, a4, _⟩, ⟨_, x0, x1, x2, x3, x4, _⟩, ⟨_, y0, y1, y2, y3, y4, _⟩⟩ := hSw; go_simp; try exact rfl
        try simp only [List.setIfInBounds_toArray, List.set_cons_zero, List.set_cons_succ]
        refine tkY (i := 44) (d := 118) (v := ?_) rfl rfl ?_ ?_
        rotate_left
        · intro w' hSw; obtain ⟨⟨_, a0, a1, a2, a3, a4, _⟩, ⟨_, x0, x1, x2, x3, x4, _⟩, ⟨_, y0, y1, y2, y3, y4, _⟩⟩ := hSw; go_simp; try exact rfl
        try simp only [List.setIfInBounds_toArray, List.set_cons_zero, List.set_cons_succ]
        refine tkY (i := 45) (d := 119) (v := ?_) rfl rfl ?_ ?_
        rotate_left
        · intro w' hSw; obtain ⟨⟨_, a0, a1, a2, a3, a4, _⟩, ⟨_, x0, x1, x2, x3, x4, _⟩, ⟨_, y0, y1, y2, y3, y4, _⟩⟩ := hSw; go_simp; try exact rfl
        try simp only [List.setIfInBounds_toArray, List.set_cons_zero, List.set_cons_succ]
        refine tkY (i := 46) (d := 120) (v := ?_) rfl rfl ?_ ?_
        rotate_left
        · intro w' hSw; obtain ⟨⟨_, a0, a1, a2, a3, a4, _⟩, ⟨_, x0, x1, x2, x3, x4, _⟩, ⟨_, y0, y1, y2, y3, y4, _⟩⟩ := hSw; go_simp; try exact rfl
        try simp only [List.setIfInBounds_toArray, List.set_cons_zero, List.set_cons_succ]
        refine tkY (i := 48) (d := 122) (v := ?_) rfl rfl ?_ ?_
        rotate_left
        · intro w' hSw; obtain ⟨⟨_, a0, a1, a2, a3, a4, _⟩, ⟨_, x0, x1, x2, x3, x4, _⟩, ⟨_, y0, y1, y2, y3, y4, _⟩⟩ := hSw; go_simp; try exact rfl
        try simp only [List.setIfInBounds_toArray, List.set_cons_zero, List.set_cons_succ]
        refine wpAnyH_ready (rs := [47]) (by kernel_rfl) (by simp) ?_
        refine AllReadyH.cons rfl (fun KK hKK => ?_) AllReadyH.nil
        go_simp
        go_at_call 17
        refine Calls.mono (implSum_any (putT x) _ (by unfold maxLen; omega)) ?_
        rintro x_ w14 ⟨rfl, rfl⟩
        try go_wp2_with fail
        refine hKK.out _ _ ?_ (fun hHeld47 => ?_)
        · exact ⟨hS.below (bex), hX.below (bex), hY.below (bex)⟩
        clear hKK
        refine wpAnyH_ready (rs := [49]) (by kernel_rfl) (by simp) ?_
        refine AllReadyH.cons rfl (fun KK hKK => ?_) AllReadyH.nil
        go_simp
        go_at_call 18
        refine Calls.mono (specSum_any (putT x) _ (by unfold maxLen; omega)) ?_
        rintro x_ w15 ⟨rfl, rfl⟩
        try go_wp2_with fail
        refine hKK.out _ _ ?_ (fun hHeld49 => ?_)
        · exact ⟨hS.below (bex), hX.below (bex), hY.below (bex)⟩
        clear hKK
        refine tkY (i := 50) (d := 124) (v := ?_) rfl rfl ?_ ?_
        rotate_left
        · intro w' hSw; obtain ⟨⟨_, a0, a1, a2, a3, a4, _⟩, ⟨_, x0, x1, x2, x3, x4, _⟩, ⟨_, y0, y1, y2, y3, y4, _⟩⟩ := hSw; go_simp; try exact rfl
        try simp only [List.setIfInBounds_toArray, List.set_cons_zero, List.set_cons_succ]
        refine tkY (i := 51) (d := 125) (v := ?_) rfl rfl ?_ ?_
        rotate_left
        · intro w' hSw; obtain ⟨⟨_, a0, a1, a2, a3, a4, _⟩, ⟨_, x0, x1, x2, x3, x4, _⟩, ⟨_, y0, y1, y2, y3, y4, _⟩⟩ := hSw; go_simp; try exact rfl
        try simp only [List.setIfInBounds_toArray, List.set_cons_zero, List.set_cons_succ]
        refine tkY (i := 52) (d := 126) (v := ?_) rfl rfl ?_ ?_
        rotate_left
        · intro w' hSw; obtain ⟨⟨_, a0, a1, a2, a3, a4, _⟩, ⟨_, x0, x1, x2, x3, x4, _⟩, ⟨_, y0, y1, y2, y3, y4, _⟩⟩ := hSw; go_simp; try exact rfl
        try simp only [List.setIfInBounds_toArray, List.set_cons_zero, List.set_cons_succ]
        refine tkY (i := 53) (d := 127) (v := ?_) rfl rfl ?_ ?_
        rotate_left
        · intro w' hSw; obtain ⟨⟨_, a0, a1, a2, a3, a4, _⟩, ⟨_, x0, x1, x2, x3, x4, _⟩, ⟨_, y0, y1, y2, y3, y4, _⟩⟩ := hSw; go_simp; try exact rfl
        try simp only [List.setIfInBounds_toArray, List.set_cons_zero, List.set_cons_succ]
        refine tkY (i := 55) (d := 129) (v := ?_) rfl rfl ?_ ?_
        rotate_left
        · intro w' hSw; obtain ⟨⟨_, a0, a1, a2, a3, a4, _⟩, ⟨_, x0, x1, x2, x3, x4, _⟩, ⟨_, y0, y1, y2, y3, y4, _⟩⟩ := hSw; go_simp; try exact rfl
        try simp only [List.setIfInBounds_toArray, List.set_cons_zero, List.set_cons_succ]
        refine wpAnyH_ready (rs := [54]) (by kernel_rfl) (by simp) ?_
        refine AllReadyH.cons rfl (fun KK hKK => ?_) AllReadyH.nil
        go_simp
        go_at_call 19
        refine Calls.mono (implStepOk_any x (.slice ac x.cs.length cc) (.slice ar x.rs.length cr) _ hwf (hS.is.below (bex))) ?_
        rintro x w16 ⟨rfl, hb16⟩
        have hz16 := hb16.size
        (try simp at hz16)
        try go_wp2_with fail
        refine hKK.out _ _ ?_ (fun hHeld54 => ?_)
        · exact ⟨hS.below (bex), hX.below (bex), hY.below (bex)⟩
        clear hKK
        refine wpAnyH_ready (rs := [56]) (by kernel_rfl) (by simp) ?_
        refine AllReadyH.cons rfl (fun KK hKK => ?_) AllReadyH.nil
        go_simp
        go_at_call 20
        refine Calls.mono (specStepOk_any x (.slice ac x.cs.length cc) (.slice ar x.rs.length cr) _ hwf (hS.is.below (bex))) ?_
        rintro x w17 ⟨rfl, hb17⟩
        have hz17 := hb17.size
        (try simp at hz17)
        try go_wp2_with fail
        refine hKK.out _ _ ?_ (fun hHeld56 => ?_)
        · exact ⟨hS.below (bex), hX.below (bex), hY.below (bex)⟩
        clear hKK
        refine tkY (i := 57) (d := 131) (v := ?_) rfl rfl ?_ ?_
        rotate_left
        · intro w' hSw; obtain ⟨⟨_, a0, a1, a2, a3, a4, _⟩, ⟨_, x0, x1, x2, x3, x4, _⟩, ⟨_, y0, y1, y2, y3, y4, _⟩⟩ := hSw; go_simp; try exact rfl
        try simp only [List.setIfInBounds_toArray, List.set_cons_zero, List.set_cons_succ]
        refine tkY (i := 58) (d := 132) (v := ?_) rfl rfl ?_ ?_
        rotate_left
        · intro w' hSw; obtain ⟨⟨_, a0, a1, a2, a3, a4, _⟩, ⟨_, x0, x1, x2, x3, x4, _⟩, ⟨_, y0, y1, y2, y3, y4, _⟩⟩ := hSw; go_simp; try exact rfl
        try simp only [List.setIfInBounds_toArray, List.set_cons_zero, List.set_cons_succ]
        refine wpAnyH_done (by kernel_rfl) ?_ _
        go_wp2_with fail
        (try go_meet)
        (try (case rel => exact ⟨rfl, bex⟩))
    case rest =>
      obtain ⟨rfl, hbL⟩ := hcut
      replace hS := hS.below hbL
      replace hL := hL.below hbL
      replace hbw : Below w.heap.size w wc := hbw.trans (hbL.mono hzw)
      replace hzw := hbw.size
      clear hbL hX hY hM HG wfu
      have hEl := (rl_reads log).2
      have hEI : ((rlE log : Nat) : Int) ≤ log.size := by omega
      have hxs : (log.extract 0 (rlE log)).size = rlE log := by rw [ByteArray.size_extract]; omega
      go_upto_region 14 with fail
      go_cut [19, 20] (fun p q wz => p = .string (appA (log.extract 0 (rlE log)) (putT x)) ∧ q = .bool (appB (log.extract 0 (rlE log)) (putT x)) ∧ Below wc.heap.size wc wz)
      case first =>
        as_aux_lemma =>
          obtain ⟨wc0, hwc0⟩ : ∃ z, z = wc := ⟨_, rfl⟩
          clear hwc0 wc0
          refine wp_region_held_drew (S := (fun w' => VT w' bS x (.slice ac x.cs.length cc) (.slice ar x.rs.length cr))) (by kernel_rfl) ?_ (fun hHeld => ?_)
          · exact hS.below (bex)
          refine tkY (i := 0) (d := 134) (v := ?_) rfl rfl ?_ ?_
          rotate_left
          · intro w' hSw; obtain ⟨_, a0, a1, a2, a3, a4, _⟩ := hSw; go_simp; try exact rfl
          try simp only [List.setIfInBounds_toArray, List.set_cons_zero, List.set_cons_succ]
          refine tkY (i := 1) (d := 135) (v := ?_) rfl rfl ?_ ?_
          rotate_left
          · intro w' hSw; obtain ⟨_, a0, a1, a2, a3, a4, _⟩ := hSw; go_simp; try exact rfl
          try simp only [List.setIfInBounds_toArray, List.set_cons_zero, List.set_cons_succ]
          refine tkY (i := 2) (d := 136) (v := ?_) rfl rfl ?_ ?_
          rotate_left
          · intro w' hSw; obtain ⟨_, a0, a1, a2, a3, a4, _⟩ := hSw; go_simp; try exact rfl
          try simp only [List.setIfInBounds_toArray, List.set_cons_zero, List.set_cons_succ]
          refine tkY (i := 3) (d := 137) (v := ?_) rfl rfl ?_ ?_
          rotate_left
          · intro w' hSw; obtain ⟨_, a0, a1, a2, a3, a4, _⟩ := hSw; go_simp; try exact rfl
          try simp only [List.setIfInBounds_toArray, List.set_cons_zero, List.set_cons_succ]
          refine wpAnyH_ready (rs := [4]) (by kernel_rfl) (by simp) ?_
          refine AllReadyH.cons rfl (fun KK hKK => ?_) AllReadyH.nil
          go_simp
          go_at_call 12
          refine Calls.mono (implAppend_any (log.extract 0 (rlE log)) x (.slice ac x.cs.length cc) (.slice ar x.rs.length cr) _ (by omega) hwf (hS.is.below (bex))) ?_
          rintro x w20 ⟨rfl, hb20⟩
          have hz20 := hb20.size
          (try simp at hz20)
          try go_wp2_with fail
          refine hKK.out _ _ ?_ (fun hHeld4 => ?_)
          · exact hS.below (bex)
          clear hKK
          refine tkY (i := 5) (d := 133) (v := ?_) rfl rfl ?_ ?_
          rotate_left
          · intro w' hSw; obtain ⟨_, a0, a1, a2, a3, a4, _⟩ := hSw; go_simp; try exact rfl
          try simp only [List.setIfInBounds_toArray, List.set_cons_zero, List.set_cons_succ]
          refine tkY (i := 6) (d := 139) (v := ?_) rfl rfl ?_ ?_
          rotate_left
          · intro w' hSw; obtain ⟨_, a0, a1, a2, a3, a4, _⟩ := hSw; go_simp; try exact rfl
          try simp only [List.setIfInBounds_toArray, List.set_cons_zero, List.set_cons_succ]
          refine tkY (i := 7) (d := 140) (v := ?_) rfl rfl ?_ ?_
          rotate_left
          · intro w' hSw; obtain ⟨_, a0, a1, a2, a3, a4, _⟩ := hSw; go_simp; try exact rfl
          try simp only [List.setIfInBounds_toArray, List.set_cons_zero, List.set_cons_succ]
          refine tkY (i := 8) (d := 19) (v := ?_) rfl rfl ?_ ?_
          rotate_left
          · intro w' hSw; obtain ⟨_, a0, a1, a2, a3, a4, _⟩ := hSw; go_simp; try exact rfl
          try simp only [List.setIfInBounds_toArray, List.set_cons_zero, List.set_cons_succ]
          refine tkY (i := 9) (d := 20) (v := ?_) rfl rfl ?_ ?_
          rotate_left
          · intro w' hSw; obtain ⟨_, a0, a1, a2, a3, a4, _⟩ := hSw; go_simp; try exact rfl
          try simp only [List.setIfInBounds_toArray, List.set_cons_zero, List.set_cons_succ]
          refine wpAnyH_done (by kernel_rfl) ?_ _
          go_wp2_with fail
          (try go_meet)
          (try (case rel => exact ⟨rfl, rfl, bex⟩))
      case rest =>
        obtain ⟨rfl, rfl, hbM⟩ := hcut
        replace hS := hS.below hbM
        replace hL := hL.below hbM
        replace hbw := hbw.trans (hbM.mono hzw)
        replace hzw := hbw.size
        clear hbM
        cases hok : okStep x
        · have ht : putT x = ⟨#[]⟩ := by unfold putT; rw [hok]; rfl
          rw [ht]
          have e1 : appB (log.extract 0 (rlE log)) ⟨#[]⟩ = false := app_no (by rw [ByteArray.toList_eq]; rfl)
          have e2 : appA (log.extract 0 (rlE log)) ⟨#[]⟩ = log.extract 0 (rlE log) := appA_no e1
          rw [e1, e2]
          go_wp2
          go_returns
          exact ⟨rfl, hbw⟩
        obtain ⟨hgO, hgT⟩ := step_back hok (HF.out hok)
        have hpos : 0 < (putT x).size := by
          rcases Nat.eq_zero_or_pos (putT x).size with h | h
          · have := mdL_ne x
            rw [← putT_tx hok] at this
            exact absurd (List.eq_nil_of_length_eq_zero (by rw [txN_len]; exact h)) this
          · exact h
        have hne : (putT x).toList.isEmpty = false := by
          rw [ByteArray.toList_eq]
          have : (putT x).data.toList.length = (putT x).size := rfl
          cases h : (putT x).data.toList with
          | nil => rw [h] at this; simp at this; omega
          | cons => rfl
        have hne2 : ((putT x).toList == []) = false := by cases h : (putT x).toList with
          | nil => rw [h] at hne; simp at hne
          | cons => rfl
        have e1 : appB (log.extract 0 (rlE log)) (putT x) = true := app_yes hne (by rw [hxs]; omega)
        have hMore : More log (putT x) (appA (log.extract 0 (rlE log)) (putT x)) (rlE log) := by rw [appA_yes e1]; exact More.of hEl
        rw [e1]
        have ht32 : (putT x).size < 4294967296 := by omega
        have hms := hMore.sz
        have hmz : (appA (log.extract 0 (rlE log)) (putT x)).size ≤ 100000 := by omega
        obtain ⟨m1, m2⟩ := log_more hMore ht32 hgO hmz
        have HC : Hid (∀ cut, cut = (appA (log.extract 0 (rlE log)) (putT x)).extract 0 ((appA (log.extract 0 (rlE log)) (putT x)).size - 1) → rlT cut = rlT log ∧ rlE cut = rlE log) := fun cut hc => log_cut hMore ht32 hpos hmz hc
        have HP : Hid (∀ (b : ByteArray) (i : Nat), b.size = (appA (log.extract 0 (rlE log)) (putT x)).size → rlE log + 8 ≤ i → i < (appA (log.extract 0 (rlE log)) (putT x)).size → (∀ j, j ≠ i → bAt b j = bAt (appA (log.extract 0 (rlE log)) (putT x)) j) → bAt b i ≠ bAt (appA (log.extract 0 (rlE log)) (putT x)) i → rlT b = rlT log ∧ rlE b = rlE log) := fun b i h1 h2 h3 h4 h5 => log_spoilt hMore ht32 hmz h1 h2 h3 h4 h5
        rw [hgT] at m1
        have hll := rlT_len log
        have hm9 : 9 ≤ (appA (log.extract 0 (rlE log)) (putT x)).size := by omega
        have HM : Hid ((appA (log.extract 0 (rlE log)) (putT x)).size = rlE log + 8 + (putT x).size) := hms
        clear hMore e1 HF hxs hms
        generalize appA (log.extract 0 (rlE log)) (putT x) = more at *
        have hne3 : (putT x).toList ≠ [] := by intro h; rw [h] at hne2; simp at hne2
        have HGT : Hid (gT (putT x) = x) := hgT
        have HGO : Hid (gO (putT x) = true) := hgO
        clear hgT hgO
        go_wp2_with fail
        refine Calls.mono (implGetStep_any (putT x) _ (by omega)) ?_
        rintro x_ w21 ⟨⟨uc21, ur21, g21, F21, rfl, hO21⟩, hb21⟩
        rw [HGT.out] at hO21
        rw [HGT.out, HGO.out]
        obtain ⟨⟨az, cz, rfl, _, _⟩, bz, dz, rfl, _, _⟩ := hO21.is.shape
        have isB := hO21.is
        clear hO21
        replace hS := hS.below hb21
        replace hL := hL.below hb21
        replace hbw := hbw.trans (hb21.mono hzw)
        replace hzw := hbw.size
        clear hb21 HGT HGO
        have hT := VT.new w21 x (.slice az x.cs.length cz) (.slice bz x.rs.length dz) isB
        replace hS := hS.alloc (.cells #[.int .i64 x.k, .string x.s, (.slice az x.cs.length cz), .string x.q, (.slice bz x.rs.length dz)] 27)
        replace hL := hL.alloc (.cells #[.int .i64 x.k, .string x.s, (.slice az x.cs.length cz), .string x.q, (.slice bz x.rs.length dz)] 27)
        replace hbw : Below w.heap.size w (w21.alloc (.cells #[.int .i64 x.k, .string x.s, (.slice az x.cs.length cz), .string x.q, (.slice bz x.rs.length dz)] 27)) := hbw.trans ((Below.refl _ _).alloc hzw _)
        replace hzw := hbw.size
        clear isB
        go_upto_region 20 with fail
        generalize w21.alloc (.cells #[.int .i64 x.k, .string x.s, (.slice az x.cs.length cz), .string x.q, (.slice bz x.rs.length dz)] 27) = w22 at *
        generalize w21.heap.size = bT at *
        go_wp2_with fail
        refine Calls.mono (implReadLog_any more _ (by omega)) ?_
        rintro x_ w23 ⟨⟨v23, us23, G23, rfl, hO23⟩, hb23⟩
        rw [m1] at hO23
        rw [m2]
        obtain ⟨q23, k23, rfl⟩ : ∃ a c, v23 = .slice a ((rlT log).length + 1) c := by obtain ⟨a, c, e⟩ := hO23.shape; exact ⟨a, c, by rw [e]; simp⟩
        clear hO23
        replace hS := hS.below hb23
        replace hL := hL.below hb23
        replace hT := hT.below hb23
        replace hbw := hbw.trans (hb23.mono hzw)
        replace hzw := hbw.size
        clear hb23 m1 m2
        have hw1 : wrap64 ((more.size : Int) - 1) = (more.size : Int) - 1 := by unfold wrap64; omega
        have hw2 : (more.size : Int) - 1 = ((more.size - 1 : Nat) : Int) := by omega
        have hcl : more.size - 1 ≤ more.size := by omega
        have hml : ((more.size - 1 : Nat) : Int) ≤ more.size := by omega
        rw [hw2] at hw1
        go_wp2_with fail
        have hcs : (more.extract 0 (more.size - 1)).size ≤ 1048576 := by rw [ByteArray.size_extract]; omega
        refine Calls.mono (implReadLog_any (more.extract 0 (more.size - 1)) _ (by omega)) ?_
        rintro x_ w24 ⟨⟨v24, us24, G24, rfl, hO24⟩, hb24⟩
        rw [(HC.out _ rfl).1] at hO24
        rw [(HC.out _ rfl).2]
        obtain ⟨q24, k24, rfl⟩ : ∃ a c, v24 = .slice a ((rlT log).length) c := by obtain ⟨a, c, e⟩ := hO24.shape; exact ⟨a, c, by rw [e]⟩
        clear hO24
        replace hS := hS.below hb24
        replace hL := hL.below hb24
        replace hT := hT.below hb24
        replace hbw := hbw.trans (hb24.mono hzw)
        replace hzw := hbw.size
        clear hb24 HC hcs hw1 hw2 hml
        have hz24 := hzw
        have hk0 : Below w24.heap.size w24 w24 := Below.refl _ _
        obtain ⟨cap, w25, hcv, hBy, hb25⟩ := conv_new w24 more
        have hk := hb25
        replace hbw := hbw.trans (hb25.mono hzw)
        replace hzw := hbw.size
        clear hb25 hk0
        go_wp2_with fail
        refine Calls.mono (at_any (.slice a l c) l 3 w25 (hB.up hbw hzw) (by omega)) ?_
        rintro x_ w26 ⟨⟨z3, rfl, z30, z31⟩, hb26⟩
        clear hcv
        replace hBy := hBy.below hb26
        replace hk := hk.trans (hb26.mono hk.size)
        replace hbw := hbw.trans (hb26.mono hzw)
        replace hzw := hbw.size
        clear hb26
        have hts0 : ¬ ((putT x).size : Int) = 0 := by omega
        have hts1 : (((putT x).size : Int) == 0) = false := beq_eq_false_iff_ne.2 hts0
        have r0 := Int.emod_nonneg z3 hts0
        have r1 := Int.emod_lt_of_pos z3 (show (0 : Int) < (putT x).size by omega)
        obtain ⟨iN, hiN⟩ : ∃ iN : Nat, (iN : Int) = (more.size : Int) - 1 - z3 % ((putT x).size : Int) := ⟨((more.size : Int) - 1 - z3 % ((putT x).size : Int)).toNat, by have := HM.out; omega⟩
        have hi8 : rlE log + 8 ≤ iN := by have := HM.out; omega
        have hiM : iN < more.size := by omega
        have hwI : wrap64 ((more.size : Int) - 1 - z3 % ((putT x).size : Int)) = (iN : Int) := by rw [← hiN]; unfold wrap64; omega
        have hiL : (iN : Int) < more.size := by omega
        clear hiN r0 r1
        go_upto_region 24 with fail
        rw [hwI]
        clear hwI hts0 hts1 z30 z31
        have d0 := hBy.c iN hiM
        have df := hBy.f iN hiM
        have hbl := hBy.lt
        refine startE 13 (fun w' => w'.cell? ⟨w24.heap.size, iN, none⟩ = some (.int .u8 (bAt more iN : Int))) (by kernel_rfl) ?_ (fun hHeld => ?_)
        · (try dsimp only)
          exact d0
        refine tkE (i := 0) (d := 182) (v := ?_) rfl rfl ?_ ?_
        rotate_left
        · intro w' hSw; (try dsimp only at hSw); go_simp; try exact rfl
        try simp only [List.setIfInBounds_toArray, List.set_cons_zero, List.set_cons_succ]
        refine tkE (i := 1) (d := 183) (v := ?_) rfl rfl ?_ ?_
        rotate_left
        · intro w' hSw; (try dsimp only at hSw); go_simp; try exact rfl
        try simp only [List.setIfInBounds_toArray, List.set_cons_zero, List.set_cons_succ]
        refine tkE (i := 2) (d := 184) (v := ?_) rfl rfl ?_ ?_
        rotate_left
        · intro w' hSw; (try dsimp only at hSw); go_simp; try exact rfl
        try simp only [List.setIfInBounds_toArray, List.set_cons_zero, List.set_cons_succ]
        refine tkE (i := 3) (d := 185) (v := ?_) rfl rfl ?_ ?_
        rotate_left
        · intro w' hSw; (try dsimp only at hSw); go_simp; try exact rfl
        try simp only [List.setIfInBounds_toArray, List.set_cons_zero, List.set_cons_succ]
        refine tkE (i := 4) (d := 186) (v := ?_) rfl rfl ?_ ?_
        rotate_left
        · intro w' hSw; (try dsimp only at hSw); go_simp; try exact rfl
        try simp only [List.setIfInBounds_toArray, List.set_cons_zero, List.set_cons_succ]
        refine tkE (i := 5) (d := 187) (v := ?_) rfl rfl ?_ ?_
        rotate_left
        · intro w' hSw; (try dsimp only at hSw); go_simp; try exact rfl
        try simp only [List.setIfInBounds_toArray, List.set_cons_zero, List.set_cons_succ]
        refine tkE (i := 6) (d := 188) (v := ?_) rfl rfl ?_ ?_
        rotate_left
        · intro w' hSw; (try dsimp only at hSw); go_simp; try exact rfl
        try simp only [List.setIfInBounds_toArray, List.set_cons_zero, List.set_cons_succ]
        refine oneE (i := 7) (by kernel_rfl) rfl (fun K hK => ?_)
        go_simp
        go_at_call 21
        refine Calls.mono (at_any (.slice a l c) l 4 w26.drew (hB.up hbw.drew hzw) (by omega)) ?_
        rintro x_ w27 ⟨⟨z4, rfl, z40, z41⟩, hb27⟩
        have bel27 : Below w26.heap.size w26 w27 := (Below.refl w26.heap.size w26).drew.trans hb27
        have hBy7 := hBy.below bel27
        have e0 := hBy7.c iN hiM
        have ef := hBy7.f iN hiM
        have hbl7 := hBy7.lt
        have hk7 := hk.trans (bel27.mono hk.size)
        have hbw7 := hbw.trans (bel27.mono hzw)
        obtain ⟨mN, hmN⟩ : ∃ mN : Nat, (mN : Int) = 1 + z4 % 255 := ⟨(1 + z4 % 255).toNat, by omega⟩
        have hm1 : 1 ≤ mN ∧ mN ≤ 255 := by omega
        have g1 : wrap64 (1 + z4 % 255) = (mN : Int) := by rw [← hmN]; unfold wrap64; omega
        have g3 : IntKind.i64.wrap (1 + z4 % 255) = (mN : Int) := by rw [IntKind.wrap_i64]; omega
        have tm4 : z4.tmod 255 = z4 % 255 := Int.tmod_eq_emod_of_nonneg z40
        have g4 : wrap64 (1 + z4.tmod 255) = (mN : Int) := by rw [tm4]; exact g1
        have g5 : IntKind.i64.wrap (1 + z4.tmod 255) = (mN : Int) := by rw [tm4]; exact g3
        clear tm4
        have g2 : IntKind.u8.wrap (mN : Int) = (mN : Int) := by rw [IntKind.wrap_u8]; omega
        have hxb := xor_byte (bAt_lt more iN) (show mN < 256 by omega) (show mN ≠ 0 by omega)
        clear hmN hb27 bel27
        try go_wp2_with fail
        refine hK.out _ _ ?_ (fun hHeld7 => ?_)
        · intro _
          (try dsimp only)
          exact e0
        clear hK
        replace hHeld7 := hHeld7 (by decide)
        try simp only [List.setIfInBounds_toArray, List.set_cons_zero, List.set_cons_succ]
        refine tkE (i := 8) (d := 190) (v := ?_) rfl rfl ?_ ?_
        rotate_left
        · intro w' hSw; (try dsimp only at hSw); go_simp; try exact rfl
        try simp only [List.setIfInBounds_toArray, List.set_cons_zero, List.set_cons_succ]
        refine tkE (i := 9) (d := 191) (v := ?_) rfl rfl ?_ ?_
        rotate_left
        · intro w' hSw; (try dsimp only at hSw); go_simp; try exact rfl
        try simp only [List.setIfInBounds_toArray, List.set_cons_zero, List.set_cons_succ]
        refine tkE (i := 10) (d := 192) (v := ?_) rfl rfl ?_ ?_
        rotate_left
        · intro w' hSw; (try dsimp only at hSw); go_simp; try exact rfl
        try simp only [List.setIfInBounds_toArray, List.set_cons_zero, List.set_cons_succ]
        refine tkE (i := 11) (d := 193) (v := ?_) rfl rfl ?_ ?_
        rotate_left
        · intro w' hSw; (try dsimp only at hSw); go_simp; try exact rfl
        try simp only [List.setIfInBounds_toArray, List.set_cons_zero, List.set_cons_succ]
        refine oneE (i := 12) (by kernel_rfl) rfl (fun K hK => ?_)
        go_simp
        refine hK.out _ _ ?_ (fun hHeld12 => ?_)
        · intro _
          (try dsimp only)
          exact e0
        clear hK
        replace hHeld12 := hHeld12 (by decide)
        try simp only [List.setIfInBounds_toArray, List.set_cons_zero, List.set_cons_succ]
        refine oneE (i := 13) (by kernel_rfl) rfl (fun K hK => ?_)
        go_simp
        refine hK.out _ _ ?_ (fun hHeld13 => ?_)
        · exact fun h => absurd rfl h
        clear hK hHeld13
        try simp only [List.setIfInBounds_toArray, List.set_cons_zero, List.set_cons_succ]
        refine doneE (by kernel_rfl) ?_ _
        obtain ⟨zz, hzz⟩ : ∃ z, z = bits .xor .u8 (bAt more iN : Int) (mN : Int) := ⟨_, rfl⟩
        rw [← hzz] at hxb ⊢
        have hBy8 := hBy7.set hiM hxb.1 hxb.2.1
        have hk8 := hk7.setCell (p := ⟨w24.heap.size, iN, none⟩) (Nat.le_refl _) (.int .u8 zz)
        have hbw8 := hbw7.setCell (p := ⟨w24.heap.size, iN, none⟩) hz24 (.int .u8 zz)
        generalize w27.setCell ⟨w24.heap.size, iN, none⟩ (.int .u8 zz) = w28 at *
        have hcv2 := hBy8.conv cap
        rw [setB1_size] at hcv2
        have hsp := HP.out (setB1 more iN zz) iN (setB1_size _ _ _) hi8 hiM (fun j hj => by have e := setB1_at more iN zz hiM hxb.1 hxb.2.1 j; rw [if_neg hj] at e; omega) (by have e := setB1_at more iN zz hiM hxb.1 hxb.2.1 iN; rw [if_pos rfl] at e; have := hxb.2.2; omega)
        have hbs : (setB1 more iN zz).size ≤ 1048576 := by rw [setB1_size]; omega
        generalize setB1 more iN zz = more2 at *
        have HS2 : Hid _ := hsp
        clear hsp HP hxb hzz z40 z41 e0 ef d0 df hBy hBy7 hk7 hbw7 hk hbw hHeld hHeld7 hHeld12 hm1 g1 g2 g3 g4 g5 hBy8
        have hzw8 := hbw8.size
        go_wp2_with fail
        refine Calls.mono (implReadLog_any more2 _ hbs) ?_
        rintro x_ w29 ⟨⟨v29, us29, G29, rfl, hO29⟩, hb29⟩
        rw [HS2.out.1] at hO29
        rw [HS2.out.2]
        obtain ⟨q29, k29, rfl⟩ := hO29.shape
        clear hO29 hcv2 HS2 hbs
        have hk9 := hk8.trans (hb29.mono hk8.size)
        have hbw9 := hbw8.trans (hb29.mono hzw8)
        replace hS := hS.below hk9
        replace hT := hT.below hk9
        have hzw9 := hbw9.size
        clear hk8 hbw8 hzw8 hb29 hk9 hL hB
        have qS := hS
        obtain ⟨_, s0, s1, s2, s3, s4, _⟩ := qS
        have qT := hT
        obtain ⟨_, t0, t1, t2, t3, t4, _⟩ := qT
        have hw9 : wrap64 (((rlT log).length : Int) + 1) = ((rlT log).length : Int) + 1 := by unfold wrap64; omega
        go_wp2_with fail
        refine Calls.mono (sameStep_any x (.slice az x.cs.length cz) (.slice bz x.rs.length dz) (.slice ac x.cs.length cc) (.slice ar x.rs.length cr) w29 hT.is hS.is) ?_
        rintro x_ w30 ⟨rfl, hb30⟩
        replace hbw9 := hbw9.trans (hb30.mono hzw9)
        clear hb30 hS hT s0 s1 s2 s3 s4 t0 t1 t2 t3 t4 hi8 hiM hiL hbl hbl7 hm9 hmz hne hne2 hne3 ht32 hpos hok hEI hcl hu hps hl hzw hzw9 hz24 HM
        generalize (rlT log).length = nl at *
        generalize rlE log = ne at *
        go_wp2
        go_returns
        exact ⟨rfl, hbw9⟩
end Go.Proofs.YtbmoimfimeiglaaGreat.fnLog
