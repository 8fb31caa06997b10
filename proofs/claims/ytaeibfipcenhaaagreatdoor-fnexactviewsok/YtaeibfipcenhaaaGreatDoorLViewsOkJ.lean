/- For every argument, whatever memory it lies in, the statement's function on ViewsOk returns true, and each argument reads afterwards as it read before; the listed variable errors.errorType holds the handle that the program's text lays (the card ties it). -/
import Derived.Test.YtaeibfipcenhaaaGreatDoorGLViewsOk6
import Derived.Test.YtaeibfipcenhaaaGreatDoorGLViewsOk24
import Derived.Test.YtaeibfipcenhaaaGreatDoorGLViewsOk40
import Derived.Test.YtaeibfipcenhaaaGreatDoorGLViewsOk13
import Derived.Handy
import Derived.Deep.RegionHeld3
import Derived.Test.YtaeibfipcenhaaaGreatDoorGLViewsOk41
import Derived.Test.YtaeibfipcenhaaaGreatDoorGLViewsOk42
import Derived.Test.YtaeibfipcenhaaaGreatDoorGLViewsOk14
import Derived.Test.YtaeibfipcenhaaaGreatDoorGLViewsOk35
import Derived.Test.YtaeibfipcenhaaaGreatDoorGLViewsOk39
import Derived.Test.YtaeibfipcenhaaaGreatDoorGLViewsOk7
import Derived.WalkKit
import Derived.WalkSpells
import Derived.WalkLawsBesides
import Derived.Below
import Derived.Deep.DeepCutAuto
import Derived.Test.YtaeibfipcenhaaaGreatDoorRows
import Derived.Test.YtaeibfipcenhaaaGreatDoorTie
import Derived.Test.YtaeibfipcenhaaaGreatDoorCards
import Derived.LaidMore
import Derived.Lay
import Derived.LaidOnce
import Derived.LaidLaws
import Derived.LaidHandle
import Derived.Deep.DeepHandedRow
import Derived.SevenTiedAt
import Derived.ProofKit
import Derived.OpenShut
import Derived.ShutString
import Derived.ChangeOld
import Derived.Lib.SmallJoins
namespace Go.Proofs.YtaeibfipcenhaaaGreatDoor
open Go.RowKit
set_option linter.unusedVariables false
set_option linter.unusedSimpArgs false
set_option maxHeartbeats 16000000 in
set_option maxRecDepth 100000 in
theorem specViews_any (rs : List R3) (vd : Value) (Fd : List Nat) (vs : List V15) (D d : Nat) (v : Value) (G : List (List Nat)) (w : World) (hrw : RsWf rs) (hR : RelsF w vd rs Fd) (hv : ViewsIs w D d v vs G) (hn : wtV vs ≤ 1048576) :
    Calls Tryz.prog 6 #[vd, v] w fun x w' => x = .returned (.bool (viewsP rs vs)) ∧ Below w.heap.size w w' := by
  have hDb := fun (w2 : World) (hb : Below w.heap.size w w2) => specDbOk_any vd rs w2 hrw (hR.is.below hb)
  obtain ⟨ad, ld, cd, rfl⟩ := hR.is.shape
  obtain ⟨a, c, b, o, rfl, hl, hc, hG, ha⟩ := hv.pick
  unfold maxLen at hc
  clear hv
  go_enter Tryz.func6, Tryz.ntmps6
  go_wp2
  go_loopw [5] (fun i wr => ∃ (k : Nat) (q : Int), k ≤ vs.length ∧ q = k ∧ i = .int .i64 q ∧ Below w.heap.size w wr ∧ okVs rs none vs = okVs rs (prevV vs k) (vs.drop k)) (fun i _ => vs.length - (intOf i).toNat)
  case atStart => exact ⟨0, 0, Nat.zero_le _, rfl, rfl, by go_grown, by simp [prevV]⟩
  case round =>
    obtain ⟨k, q, hk, hq, rfl, hb, heq⟩ := hrel
    have HE : Hid (okVs rs none vs = okVs rs (prevV vs k) (vs.drop k)) := heq
    have hzb := hb.size
    clear heq
    by_cases hlt : k < vs.length
    · obtain ⟨rfl, hblt, hL⟩ := ha k hlt
      obtain ⟨x, g, ue, us, u, t, hx, hg, hxw, hcl, hLx, hRx, hbr⟩ := hL.at hG hblt hb hlt
      have HS : Hid (okVs rs (prevV vs k) (vs.drop k) = (okVw rs (prevV vs k) x && okVs rs (prevV vs (k + 1)) (vs.drop (k + 1)))) := okVs_step hx
      have HX : Hid (vs[k]? = some x) := hx
      have hxn : wtP x.p ≤ 1048576 := by have := wtv_mem (List.mem_of_getElem? hx); unfold wtV at hn; unfold wtv at this; omega
      have hRl := l04Rel_any x.s (.slice ad ld cd) rs Fd wr (hR.below hb)
      have hWd := fun (X : World) (hX : Below wr.heap.size wr X) => specWidth_any rs x.p ue us u g D d (.slice ad ld cd) Fd X hxw.2.1 (hLx.below hX) hxn (hR.below (hb.trans (hX.mono hzb)))
      have hNm := fun (X : World) => specName_any x.s X hxw.1
      obtain ⟨nm, HNM⟩ : ∃ q, Hid (nameB x.s = q) := ⟨_, rfl⟩
      obtain ⟨tk, HTK⟩ : ∃ q, Hid ((relOf rs x.s).isSome = q) := ⟨_, rfl⟩
      obtain ⟨wd, HWD⟩ : ∃ q, Hid (widthP rs 9 x.p = q) := ⟨_, rfl⟩
      have HNO : Hid ((relOf rs x.s).isNone = !tk) := by show _ = _; rw [← HTK.out]; cases relOf rs x.s <;> rfl
      rw [HNM.out] at hNm
      rw [HTK.out] at hRl
      rw [HWD.out] at hWd
      obtain ⟨ae, ce, ak, ck, aq, cq, rfl, rfl, rfl, _, _, _, _, _, _⟩ := hLx.shape
      obtain ⟨c0, c1, c2, c3, c4, c5, c6, c7, c8, c9, c10, c11, c12, _, _⟩ := id hcl
      have hkI : (k : Int) < vs.length := by omega
      have hk0' : (0 : Int) ≤ k := by omega
      clear hx hLx hRx hg hxw
      cases nm with
      | false =>
        clear ha hL hcl
        subst hq
        go_wp2_with fail
        refine Calls.mono hRl ?_
        rintro z w1 ⟨⟨W1, u1, rfl, ⟨a1, l1, cc1, rfl⟩, _⟩, hb1⟩
        have hz1 := hb1.size
        have hbl := hb1.block b hbr
        have hb1' : b < w1.heap.size := by omega
        replace c0 := (cell_blk hbl).trans c0
        replace c1 := (cell_blk hbl).trans c1
        replace c2 := (cell_blk hbl).trans c2
        replace c3 := (cell_blk hbl).trans c3
        replace c4 := (cell_blk hbl).trans c4
        replace c5 := (cell_blk hbl).trans c5
        replace c6 := (cell_blk hbl).trans c6
        replace c7 := (cell_blk hbl).trans c7
        replace c8 := (cell_blk hbl).trans c8
        replace c9 := (cell_blk hbl).trans c9
        replace c10 := (cell_blk hbl).trans c10
        replace c11 := (cell_blk hbl).trans c11
        replace c12 := (cell_blk hbl).trans c12
        clear hRl
        go_wp2_with fail
        refine wp_region_held_drew (S := (fun w' => w'.cell? ⟨b, o + k * 15, none⟩ = some (.string x.s) ∧ w'.cell? ⟨b, o + k * 15 + 1, none⟩ = some (.int .i64 x.p.k) ∧ w'.cell? ⟨b, o + k * 15 + 2, none⟩ = some (.string x.p.s) ∧ w'.cell? ⟨b, o + k * 15 + 3, none⟩ = some (.int .i64 x.p.e.k) ∧ w'.cell? ⟨b, o + k * 15 + 4, none⟩ = some (.int .i64 x.p.e.n) ∧ w'.cell? ⟨b, o + k * 15 + 5, none⟩ = some (.int .i64 x.p.e.v.k) ∧ w'.cell? ⟨b, o + k * 15 + 6, none⟩ = some (.int .i64 x.p.e.v.n) ∧ w'.cell? ⟨b, o + k * 15 + 7, none⟩ = some (.string x.p.e.v.s) ∧ w'.cell? ⟨b, o + k * 15 + 8, none⟩ = some (.string x.p.e.p) ∧ w'.cell? ⟨b, o + k * 15 + 9, none⟩ = some (.slice ae x.p.e.ks.length ce) ∧ w'.cell? ⟨b, o + k * 15 + 10, none⟩ = some (.slice ak x.p.es.length ck) ∧ w'.cell? ⟨b, o + k * 15 + 11, none⟩ = some (.int .i64 x.p.n) ∧ w'.cell? ⟨b, o + k * 15 + 12, none⟩ = some (.slice aq x.p.ks.length cq))) (by kernel_rfl) ?_ (fun hHeld => ?_)
        · (try dsimp only); refine ⟨?_, ?_, ?_, ?_, ?_, ?_, ?_, ?_, ?_, ?_, ?_, ?_, ?_⟩ <;> first | (with_reducible assumption) | (go_simp; done) | (exact cell_later (by assumption) (by go_simp))
        refine takeYes (i := 0) (d := 24) (v := ?_) rfl rfl (by kernel_rfl) (by kernel_rfl) (by kernel_rfl) (fun _ _ _ h => h) (by rfl) (by assumption) ?_ ?_
        rotate_left
        · intro w' hSw; (try dsimp only at hSw); go_simp; try exact rfl
        try simp only [List.setIfInBounds_toArray, List.set_cons_zero, List.set_cons_succ]
        refine takeYes (i := 1) (d := 25) (v := ?_) rfl rfl (by kernel_rfl) (by kernel_rfl) (by kernel_rfl) (fun _ _ _ h => h) (by rfl) (by assumption) ?_ ?_
        rotate_left
        · intro w' hSw; (try dsimp only at hSw); go_simp; try exact rfl
        try simp only [List.setIfInBounds_toArray, List.set_cons_zero, List.set_cons_succ]
        refine takeYes (i := 2) (d := 26) (v := ?_) rfl rfl (by kernel_rfl) (by kernel_rfl) (by kernel_rfl) (fun _ _ _ h => h) (by rfl) (by assumption) ?_ ?_
        rotate_left
        · intro w' hSw; (try dsimp only at hSw); go_simp; try exact rfl
        try simp only [List.setIfInBounds_toArray, List.set_cons_zero, List.set_cons_succ]
        refine takeYes (i := 3) (d := 27) (v := ?_) rfl rfl (by kernel_rfl) (by kernel_rfl) (by kernel_rfl) (fun _ _ _ h => h) (by rfl) (by assumption) ?_ ?_
        rotate_left
        · intro w' hSw; (try dsimp only at hSw); go_simp; try exact rfl
        try simp only [List.setIfInBounds_toArray, List.set_cons_zero, List.set_cons_succ]
        refine takeYes (i := 4) (d := 28) (v := ?_) rfl rfl (by kernel_rfl) (by kernel_rfl) (by kernel_rfl) (fun _ _ _ h => h) (by rfl) (by assumption) ?_ ?_
        rotate_left
        · intro w' hSw; (try dsimp only at hSw); go_simp; try exact rfl
        try simp only [List.setIfInBounds_toArray, List.set_cons_zero, List.set_cons_succ]
        refine wpAnyH_ready (rs := [5]) (by kernel_rfl) (by simp) ?_
        refine AllReadyH.cons rfl (fun K hK => ?_) AllReadyH.nil
        go_simp
        go_at_call 15
        refine Calls.mono (hNm _) ?_
        rintro e w2 ⟨rfl, rfl⟩
        try go_wp2_with fail
        refine hK.out _ _ ?_ (fun hHeld5 => ?_)
        · (try dsimp only); refine ⟨?_, ?_, ?_, ?_, ?_, ?_, ?_, ?_, ?_, ?_, ?_, ?_, ?_⟩ <;> first | (with_reducible assumption) | (go_simp; done) | (exact cell_later (by assumption) (by go_simp))
        clear hK
        refine takeYes (i := 6) (d := 30) (v := ?_) rfl rfl (by kernel_rfl) (by kernel_rfl) (by kernel_rfl) (fun _ _ _ h => h) (by rfl) (by assumption) ?_ ?_
        rotate_left
        · intro w' hSw; (try dsimp only at hSw); go_simp; try exact rfl
        try simp only [List.setIfInBounds_toArray, List.set_cons_zero, List.set_cons_succ]
        refine takeYes (i := 7) (d := 31) (v := ?_) rfl rfl (by kernel_rfl) (by kernel_rfl) (by kernel_rfl) (fun _ _ _ h => h) (by rfl) (by assumption) ?_ ?_
        rotate_left
        · intro w' hSw; (try dsimp only at hSw); go_simp; try exact rfl
        try simp only [List.setIfInBounds_toArray, List.set_cons_zero, List.set_cons_succ]
        refine takeNo (i := 8) (d := 32) rfl rfl (by kernel_rfl) (by kernel_rfl) (by kernel_rfl) (fun _ _ _ h => h) (by rfl) (by assumption) ?_
        try simp only [List.setIfInBounds_toArray, List.set_cons_zero, List.set_cons_succ]
        refine takeYes (i := 9) (d := 33) (v := ?_) rfl rfl (by kernel_rfl) (by kernel_rfl) (by kernel_rfl) (fun _ _ _ h => h) (by rfl) (by assumption) ?_ ?_
        rotate_left
        · intro w' hSw; (try dsimp only at hSw); go_simp; try exact rfl
        try simp only [List.setIfInBounds_toArray, List.set_cons_zero, List.set_cons_succ]
        refine takeYes (i := 10) (d := 34) (v := ?_) rfl rfl (by kernel_rfl) (by kernel_rfl) (by kernel_rfl) (fun _ _ _ h => h) (by rfl) (by assumption) ?_ ?_
        rotate_left
        · intro w' hSw; (try dsimp only at hSw); go_simp; try exact rfl
        try simp only [List.setIfInBounds_toArray, List.set_cons_zero, List.set_cons_succ]
        refine takeNo (i := 11) (d := 35) rfl rfl (by kernel_rfl) (by kernel_rfl) (by kernel_rfl) (fun _ _ _ h => h) (by rfl) (by assumption) ?_
        try simp only [List.setIfInBounds_toArray, List.set_cons_zero, List.set_cons_succ]
        refine takeNo (i := 12) (d := 36) rfl rfl (by kernel_rfl) (by kernel_rfl) (by kernel_rfl) (fun _ _ _ h => h) (by rfl) (by assumption) ?_
        try simp only [List.setIfInBounds_toArray, List.set_cons_zero, List.set_cons_succ]
        refine takeNo (i := 13) (d := 37) rfl rfl (by kernel_rfl) (by kernel_rfl) (by kernel_rfl) (fun _ _ _ h => h) (by rfl) (by assumption) ?_
        try simp only [List.setIfInBounds_toArray, List.set_cons_zero, List.set_cons_succ]
        refine takeNo (i := 14) (d := 38) rfl rfl (by kernel_rfl) (by kernel_rfl) (by kernel_rfl) (fun _ _ _ h => h) (by rfl) (by assumption) ?_
        try simp only [List.setIfInBounds_toArray, List.set_cons_zero, List.set_cons_succ]
        refine takeNo (i := 15) (d := 39) rfl rfl (by kernel_rfl) (by kernel_rfl) (by kernel_rfl) (fun _ _ _ h => h) (by rfl) (by assumption) ?_
        try simp only [List.setIfInBounds_toArray, List.set_cons_zero, List.set_cons_succ]
        refine takeNo (i := 16) (d := 40) rfl rfl (by kernel_rfl) (by kernel_rfl) (by kernel_rfl) (fun _ _ _ h => h) (by rfl) (by assumption) ?_
        try simp only [List.setIfInBounds_toArray, List.set_cons_zero, List.set_cons_succ]
        refine wpAnyH_ready (rs := [17]) (by kernel_rfl) (by simp) ?_
        refine AllReadyH.cons rfl (fun K hK => ?_) AllReadyH.nil
        go_simp
        refine hK.out _ _ ?_ (fun hHeld17 => ?_)
        · (try dsimp only); refine ⟨?_, ?_, ?_, ?_, ?_, ?_, ?_, ?_, ?_, ?_, ?_, ?_, ?_⟩ <;> first | (with_reducible assumption) | (go_simp; done) | (exact cell_later (by assumption) (by go_simp))
        clear hK
        refine takeNo (i := 18) (d := 42) rfl rfl (by kernel_rfl) (by kernel_rfl) (by kernel_rfl) (fun _ _ _ h => h) (by rfl) (by assumption) ?_
        try simp only [List.setIfInBounds_toArray, List.set_cons_zero, List.set_cons_succ]
        refine takeYes (i := 19) (d := 43) (v := ?_) rfl rfl (by kernel_rfl) (by kernel_rfl) (by kernel_rfl) (fun _ _ _ h => h) (by rfl) (by assumption) ?_ ?_
        rotate_left
        · intro w' hSw; (try dsimp only at hSw); go_simp; try exact rfl
        try simp only [List.setIfInBounds_toArray, List.set_cons_zero, List.set_cons_succ]
        refine takeYes (i := 20) (d := 44) (v := ?_) rfl rfl (by kernel_rfl) (by kernel_rfl) (by kernel_rfl) (fun _ _ _ h => h) (by rfl) (by assumption) ?_ ?_
        rotate_left
        · intro w' hSw; (try dsimp only at hSw); go_simp; try exact rfl
        try simp only [List.setIfInBounds_toArray, List.set_cons_zero, List.set_cons_succ]
        refine takeNo (i := 21) (d := 45) rfl rfl (by kernel_rfl) (by kernel_rfl) (by kernel_rfl) (fun _ _ _ h => h) (by rfl) (by assumption) ?_
        try simp only [List.setIfInBounds_toArray, List.set_cons_zero, List.set_cons_succ]
        refine takeNo (i := 22) (d := 46) rfl rfl (by kernel_rfl) (by kernel_rfl) (by kernel_rfl) (fun _ _ _ h => h) (by rfl) (by assumption) ?_
        try simp only [List.setIfInBounds_toArray, List.set_cons_zero, List.set_cons_succ]
        refine takeNo (i := 23) (d := 47) rfl rfl (by kernel_rfl) (by kernel_rfl) (by kernel_rfl) (fun _ _ _ h => h) (by rfl) (by assumption) ?_
        try simp only [List.setIfInBounds_toArray, List.set_cons_zero, List.set_cons_succ]
        refine takeNo (i := 24) (d := 48) rfl rfl (by kernel_rfl) (by kernel_rfl) (by kernel_rfl) (fun _ _ _ h => h) (by rfl) (by assumption) ?_
        try simp only [List.setIfInBounds_toArray, List.set_cons_zero, List.set_cons_succ]
        refine takeNo (i := 25) (d := 49) rfl rfl (by kernel_rfl) (by kernel_rfl) (by kernel_rfl) (fun _ _ _ h => h) (by rfl) (by assumption) ?_
        try simp only [List.setIfInBounds_toArray, List.set_cons_zero, List.set_cons_succ]
        refine takeNo (i := 26) (d := 50) rfl rfl (by kernel_rfl) (by kernel_rfl) (by kernel_rfl) (fun _ _ _ h => h) (by rfl) (by assumption) ?_
        try simp only [List.setIfInBounds_toArray, List.set_cons_zero, List.set_cons_succ]
        refine takeNo (i := 27) (d := 51) rfl rfl (by kernel_rfl) (by kernel_rfl) (by kernel_rfl) (fun _ _ _ h => h) (by rfl) (by assumption) ?_
        try simp only [List.setIfInBounds_toArray, List.set_cons_zero, List.set_cons_succ]
        refine takeNo (i := 28) (d := 52) rfl rfl (by kernel_rfl) (by kernel_rfl) (by kernel_rfl) (fun _ _ _ h => h) (by rfl) (by assumption) ?_
        try simp only [List.setIfInBounds_toArray, List.set_cons_zero, List.set_cons_succ]
        refine takeNo (i := 29) (d := 53) rfl rfl (by kernel_rfl) (by kernel_rfl) (by kernel_rfl) (fun _ _ _ h => h) (by rfl) (by assumption) ?_
        try simp only [List.setIfInBounds_toArray, List.set_cons_zero, List.set_cons_succ]
        refine takeNo (i := 30) (d := 54) rfl rfl (by kernel_rfl) (by kernel_rfl) (by kernel_rfl) (fun _ _ _ h => h) (by rfl) (by assumption) ?_
        try simp only [List.setIfInBounds_toArray, List.set_cons_zero, List.set_cons_succ]
        refine takeNo (i := 31) (d := 55) rfl rfl (by kernel_rfl) (by kernel_rfl) (by kernel_rfl) (fun _ _ _ h => h) (by rfl) (by assumption) ?_
        try simp only [List.setIfInBounds_toArray, List.set_cons_zero, List.set_cons_succ]
        refine takeNo (i := 32) (d := 56) rfl rfl (by kernel_rfl) (by kernel_rfl) (by kernel_rfl) (fun _ _ _ h => h) (by rfl) (by assumption) ?_
        try simp only [List.setIfInBounds_toArray, List.set_cons_zero, List.set_cons_succ]
        refine takeNo (i := 33) (d := 57) rfl rfl (by kernel_rfl) (by kernel_rfl) (by kernel_rfl) (fun _ _ _ h => h) (by rfl) (by assumption) ?_
        try simp only [List.setIfInBounds_toArray, List.set_cons_zero, List.set_cons_succ]
        refine takeNo (i := 34) (d := 58) rfl rfl (by kernel_rfl) (by kernel_rfl) (by kernel_rfl) (fun _ _ _ h => h) (by rfl) (by assumption) ?_
        try simp only [List.setIfInBounds_toArray, List.set_cons_zero, List.set_cons_succ]
        refine takeNo (i := 35) (d := 59) rfl rfl (by kernel_rfl) (by kernel_rfl) (by kernel_rfl) (fun _ _ _ h => h) (by rfl) (by assumption) ?_
        try simp only [List.setIfInBounds_toArray, List.set_cons_zero, List.set_cons_succ]
        refine takeNo (i := 36) (d := 60) rfl rfl (by kernel_rfl) (by kernel_rfl) (by kernel_rfl) (fun _ _ _ h => h) (by rfl) (by assumption) ?_
        try simp only [List.setIfInBounds_toArray, List.set_cons_zero, List.set_cons_succ]
        refine takeYes (i := 37) (d := 61) (v := ?_) rfl rfl (by kernel_rfl) (by kernel_rfl) (by kernel_rfl) (fun _ _ _ h => h) (by rfl) (by assumption) ?_ ?_
        rotate_left
        · intro w' hSw; (try dsimp only at hSw); go_simp; try exact rfl
        try simp only [List.setIfInBounds_toArray, List.set_cons_zero, List.set_cons_succ]
        refine wpAnyH_done (by kernel_rfl) ?_ _
        go_wp2
        go_returns
        refine ⟨ret_bool ?_, by repeat (first | (with_reducible exact Below.refl _ _) | (with_reducible refine Below.drew ?_) | (with_reducible refine Below.alloc ?_ ?hh _; case hh => first | (simp; done) | (simp; omega) | omega) | (with_reducible refine Below.setCell ?_ ?hh _; case hh => first | (simp; done) | (simp; omega) | omega) | refine bstep (by assumption) (by first | (simp; done) | (simp; omega) | omega) ?_)⟩
        unfold viewsP
        rw [HE.out, HS.out]
        unfold okVw
        rw [HNM.out]
        simp
      | true =>
        cases tk with
        | true =>
          clear ha hL hcl
          subst hq
          go_wp2_with fail
          refine Calls.mono hRl ?_
          rintro z w1 ⟨⟨W1, u1, rfl, ⟨a1, l1, cc1, rfl⟩, _⟩, hb1⟩
          have hz1 := hb1.size
          have hbl := hb1.block b hbr
          have hb1' : b < w1.heap.size := by omega
          replace c0 := (cell_blk hbl).trans c0
          replace c1 := (cell_blk hbl).trans c1
          replace c2 := (cell_blk hbl).trans c2
          replace c3 := (cell_blk hbl).trans c3
          replace c4 := (cell_blk hbl).trans c4
          replace c5 := (cell_blk hbl).trans c5
          replace c6 := (cell_blk hbl).trans c6
          replace c7 := (cell_blk hbl).trans c7
          replace c8 := (cell_blk hbl).trans c8
          replace c9 := (cell_blk hbl).trans c9
          replace c10 := (cell_blk hbl).trans c10
          replace c11 := (cell_blk hbl).trans c11
          replace c12 := (cell_blk hbl).trans c12
          clear hRl
          go_wp2_with fail
          refine wp_region_held_drew (S := (fun w' => w'.cell? ⟨b, o + k * 15, none⟩ = some (.string x.s) ∧ w'.cell? ⟨b, o + k * 15 + 1, none⟩ = some (.int .i64 x.p.k) ∧ w'.cell? ⟨b, o + k * 15 + 2, none⟩ = some (.string x.p.s) ∧ w'.cell? ⟨b, o + k * 15 + 3, none⟩ = some (.int .i64 x.p.e.k) ∧ w'.cell? ⟨b, o + k * 15 + 4, none⟩ = some (.int .i64 x.p.e.n) ∧ w'.cell? ⟨b, o + k * 15 + 5, none⟩ = some (.int .i64 x.p.e.v.k) ∧ w'.cell? ⟨b, o + k * 15 + 6, none⟩ = some (.int .i64 x.p.e.v.n) ∧ w'.cell? ⟨b, o + k * 15 + 7, none⟩ = some (.string x.p.e.v.s) ∧ w'.cell? ⟨b, o + k * 15 + 8, none⟩ = some (.string x.p.e.p) ∧ w'.cell? ⟨b, o + k * 15 + 9, none⟩ = some (.slice ae x.p.e.ks.length ce) ∧ w'.cell? ⟨b, o + k * 15 + 10, none⟩ = some (.slice ak x.p.es.length ck) ∧ w'.cell? ⟨b, o + k * 15 + 11, none⟩ = some (.int .i64 x.p.n) ∧ w'.cell? ⟨b, o + k * 15 + 12, none⟩ = some (.slice aq x.p.ks.length cq))) (by kernel_rfl) ?_ (fun hHeld => ?_)
          · (try dsimp only); refine ⟨?_, ?_, ?_, ?_, ?_, ?_, ?_, ?_, ?_, ?_, ?_, ?_, ?_⟩ <;> first | (with_reducible assumption) | (go_simp; done) | (exact cell_later (by assumption) (by go_simp))
          refine takeYes (i := 0) (d := 24) (v := ?_) rfl rfl (by kernel_rfl) (by kernel_rfl) (by kernel_rfl) (fun _ _ _ h => h) (by rfl) (by assumption) ?_ ?_
          rotate_left
          · intro w' hSw; (try dsimp only at hSw); go_simp; try exact rfl
          try simp only [List.setIfInBounds_toArray, List.set_cons_zero, List.set_cons_succ]
          refine takeYes (i := 1) (d := 25) (v := ?_) rfl rfl (by kernel_rfl) (by kernel_rfl) (by kernel_rfl) (fun _ _ _ h => h) (by rfl) (by assumption) ?_ ?_
          rotate_left
          · intro w' hSw; (try dsimp only at hSw); go_simp; try exact rfl
          try simp only [List.setIfInBounds_toArray, List.set_cons_zero, List.set_cons_succ]
          refine takeYes (i := 2) (d := 26) (v := ?_) rfl rfl (by kernel_rfl) (by kernel_rfl) (by kernel_rfl) (fun _ _ _ h => h) (by rfl) (by assumption) ?_ ?_
          rotate_left
          · intro w' hSw; (try dsimp only at hSw); go_simp; try exact rfl
          try simp only [List.setIfInBounds_toArray, List.set_cons_zero, List.set_cons_succ]
          refine takeYes (i := 3) (d := 27) (v := ?_) rfl rfl (by kernel_rfl) (by kernel_rfl) (by kernel_rfl) (fun _ _ _ h => h) (by rfl) (by assumption) ?_ ?_
          rotate_left
          · intro w' hSw; (try dsimp only at hSw); go_simp; try exact rfl
          try simp only [List.setIfInBounds_toArray, List.set_cons_zero, List.set_cons_succ]
          refine takeYes (i := 4) (d := 28) (v := ?_) rfl rfl (by kernel_rfl) (by kernel_rfl) (by kernel_rfl) (fun _ _ _ h => h) (by rfl) (by assumption) ?_ ?_
          rotate_left
          · intro w' hSw; (try dsimp only at hSw); go_simp; try exact rfl
          try simp only [List.setIfInBounds_toArray, List.set_cons_zero, List.set_cons_succ]
          refine wpAnyH_ready (rs := [5]) (by kernel_rfl) (by simp) ?_
          refine AllReadyH.cons rfl (fun K hK => ?_) AllReadyH.nil
          go_simp
          go_at_call 15
          refine Calls.mono (hNm _) ?_
          rintro e w2 ⟨rfl, rfl⟩
          try go_wp2_with fail
          refine hK.out _ _ ?_ (fun hHeld5 => ?_)
          · (try dsimp only); refine ⟨?_, ?_, ?_, ?_, ?_, ?_, ?_, ?_, ?_, ?_, ?_, ?_, ?_⟩ <;> first | (with_reducible assumption) | (go_simp; done) | (exact cell_later (by assumption) (by go_simp))
          clear hK
          refine takeYes (i := 6) (d := 30) (v := ?_) rfl rfl (by kernel_rfl) (by kernel_rfl) (by kernel_rfl) (fun _ _ _ h => h) (by rfl) (by assumption) ?_ ?_
          rotate_left
          · intro w' hSw; (try dsimp only at hSw); go_simp; try exact rfl
          try simp only [List.setIfInBounds_toArray, List.set_cons_zero, List.set_cons_succ]
          refine takeYes (i := 7) (d := 31) (v := ?_) rfl rfl (by kernel_rfl) (by kernel_rfl) (by kernel_rfl) (fun _ _ _ h => h) (by rfl) (by assumption) ?_ ?_
          rotate_left
          · intro w' hSw; (try dsimp only at hSw); go_simp; try exact rfl
          try simp only [List.setIfInBounds_toArray, List.set_cons_zero, List.set_cons_succ]
          refine takeYes (i := 8) (d := 32) (v := ?_) rfl rfl (by kernel_rfl) (by kernel_rfl) (by kernel_rfl) (fun _ _ _ h => h) (by rfl) (by assumption) ?_ ?_
          rotate_left
          · intro w' hSw; (try dsimp only at hSw); go_simp; try exact rfl
          try simp only [List.setIfInBounds_toArray, List.set_cons_zero, List.set_cons_succ]
          refine takeYes (i := 9) (d := 33) (v := ?_) rfl rfl (by kernel_rfl) (by kernel_rfl) (by kernel_rfl) (fun _ _ _ h => h) (by rfl) (by assumption) ?_ ?_
          rotate_left
          · intro w' hSw; (try dsimp only at hSw); go_simp; try exact rfl
          try simp only [List.setIfInBounds_toArray, List.set_cons_zero, List.set_cons_succ]
          refine takeYes (i := 10) (d := 34) (v := ?_) rfl rfl (by kernel_rfl) (by kernel_rfl) (by kernel_rfl) (fun _ _ _ h => h) (by rfl) (by assumption) ?_ ?_
          rotate_left
          · intro w' hSw; (try dsimp only at hSw); go_simp; try exact rfl
          try simp only [List.setIfInBounds_toArray, List.set_cons_zero, List.set_cons_succ]
          refine takeNo (i := 11) (d := 35) rfl rfl (by kernel_rfl) (by kernel_rfl) (by kernel_rfl) (fun _ _ _ h => h) (by rfl) (by assumption) ?_
          try simp only [List.setIfInBounds_toArray, List.set_cons_zero, List.set_cons_succ]
          refine takeNo (i := 12) (d := 36) rfl rfl (by kernel_rfl) (by kernel_rfl) (by kernel_rfl) (fun _ _ _ h => h) (by rfl) (by assumption) ?_
          try simp only [List.setIfInBounds_toArray, List.set_cons_zero, List.set_cons_succ]
          refine takeNo (i := 13) (d := 37) rfl rfl (by kernel_rfl) (by kernel_rfl) (by kernel_rfl) (fun _ _ _ h => h) (by rfl) (by assumption) ?_
          try simp only [List.setIfInBounds_toArray, List.set_cons_zero, List.set_cons_succ]
          refine takeNo (i := 14) (d := 38) rfl rfl (by kernel_rfl) (by kernel_rfl) (by kernel_rfl) (fun _ _ _ h => h) (by rfl) (by assumption) ?_
          try simp only [List.setIfInBounds_toArray, List.set_cons_zero, List.set_cons_succ]
          refine takeNo (i := 15) (d := 39) rfl rfl (by kernel_rfl) (by kernel_rfl) (by kernel_rfl) (fun _ _ _ h => h) (by rfl) (by assumption) ?_
          try simp only [List.setIfInBounds_toArray, List.set_cons_zero, List.set_cons_succ]
          refine takeNo (i := 16) (d := 40) rfl rfl (by kernel_rfl) (by kernel_rfl) (by kernel_rfl) (fun _ _ _ h => h) (by rfl) (by assumption) ?_
          try simp only [List.setIfInBounds_toArray, List.set_cons_zero, List.set_cons_succ]
          refine wpAnyH_ready (rs := [17]) (by kernel_rfl) (by simp) ?_
          refine AllReadyH.cons rfl (fun K hK => ?_) AllReadyH.nil
          go_simp
          refine hK.out _ _ ?_ (fun hHeld17 => ?_)
          · (try dsimp only); refine ⟨?_, ?_, ?_, ?_, ?_, ?_, ?_, ?_, ?_, ?_, ?_, ?_, ?_⟩ <;> first | (with_reducible assumption) | (go_simp; done) | (exact cell_later (by assumption) (by go_simp))
          clear hK
          refine takeNo (i := 18) (d := 42) rfl rfl (by kernel_rfl) (by kernel_rfl) (by kernel_rfl) (fun _ _ _ h => h) (by rfl) (by assumption) ?_
          try simp only [List.setIfInBounds_toArray, List.set_cons_zero, List.set_cons_succ]
          refine takeYes (i := 19) (d := 43) (v := ?_) rfl rfl (by kernel_rfl) (by kernel_rfl) (by kernel_rfl) (fun _ _ _ h => h) (by rfl) (by assumption) ?_ ?_
          rotate_left
          · intro w' hSw; (try dsimp only at hSw); go_simp; try exact rfl
          try simp only [List.setIfInBounds_toArray, List.set_cons_zero, List.set_cons_succ]
          refine takeYes (i := 20) (d := 44) (v := ?_) rfl rfl (by kernel_rfl) (by kernel_rfl) (by kernel_rfl) (fun _ _ _ h => h) (by rfl) (by assumption) ?_ ?_
          rotate_left
          · intro w' hSw; (try dsimp only at hSw); go_simp; try exact rfl
          try simp only [List.setIfInBounds_toArray, List.set_cons_zero, List.set_cons_succ]
          refine takeNo (i := 21) (d := 45) rfl rfl (by kernel_rfl) (by kernel_rfl) (by kernel_rfl) (fun _ _ _ h => h) (by rfl) (by assumption) ?_
          try simp only [List.setIfInBounds_toArray, List.set_cons_zero, List.set_cons_succ]
          refine takeNo (i := 22) (d := 46) rfl rfl (by kernel_rfl) (by kernel_rfl) (by kernel_rfl) (fun _ _ _ h => h) (by rfl) (by assumption) ?_
          try simp only [List.setIfInBounds_toArray, List.set_cons_zero, List.set_cons_succ]
          refine takeNo (i := 23) (d := 47) rfl rfl (by kernel_rfl) (by kernel_rfl) (by kernel_rfl) (fun _ _ _ h => h) (by rfl) (by assumption) ?_
          try simp only [List.setIfInBounds_toArray, List.set_cons_zero, List.set_cons_succ]
          refine takeNo (i := 24) (d := 48) rfl rfl (by kernel_rfl) (by kernel_rfl) (by kernel_rfl) (fun _ _ _ h => h) (by rfl) (by assumption) ?_
          try simp only [List.setIfInBounds_toArray, List.set_cons_zero, List.set_cons_succ]
          refine takeNo (i := 25) (d := 49) rfl rfl (by kernel_rfl) (by kernel_rfl) (by kernel_rfl) (fun _ _ _ h => h) (by rfl) (by assumption) ?_
          try simp only [List.setIfInBounds_toArray, List.set_cons_zero, List.set_cons_succ]
          refine takeNo (i := 26) (d := 50) rfl rfl (by kernel_rfl) (by kernel_rfl) (by kernel_rfl) (fun _ _ _ h => h) (by rfl) (by assumption) ?_
          try simp only [List.setIfInBounds_toArray, List.set_cons_zero, List.set_cons_succ]
          refine takeNo (i := 27) (d := 51) rfl rfl (by kernel_rfl) (by kernel_rfl) (by kernel_rfl) (fun _ _ _ h => h) (by rfl) (by assumption) ?_
          try simp only [List.setIfInBounds_toArray, List.set_cons_zero, List.set_cons_succ]
          refine takeNo (i := 28) (d := 52) rfl rfl (by kernel_rfl) (by kernel_rfl) (by kernel_rfl) (fun _ _ _ h => h) (by rfl) (by assumption) ?_
          try simp only [List.setIfInBounds_toArray, List.set_cons_zero, List.set_cons_succ]
          refine takeNo (i := 29) (d := 53) rfl rfl (by kernel_rfl) (by kernel_rfl) (by kernel_rfl) (fun _ _ _ h => h) (by rfl) (by assumption) ?_
          try simp only [List.setIfInBounds_toArray, List.set_cons_zero, List.set_cons_succ]
          refine takeNo (i := 30) (d := 54) rfl rfl (by kernel_rfl) (by kernel_rfl) (by kernel_rfl) (fun _ _ _ h => h) (by rfl) (by assumption) ?_
          try simp only [List.setIfInBounds_toArray, List.set_cons_zero, List.set_cons_succ]
          refine takeNo (i := 31) (d := 55) rfl rfl (by kernel_rfl) (by kernel_rfl) (by kernel_rfl) (fun _ _ _ h => h) (by rfl) (by assumption) ?_
          try simp only [List.setIfInBounds_toArray, List.set_cons_zero, List.set_cons_succ]
          refine takeNo (i := 32) (d := 56) rfl rfl (by kernel_rfl) (by kernel_rfl) (by kernel_rfl) (fun _ _ _ h => h) (by rfl) (by assumption) ?_
          try simp only [List.setIfInBounds_toArray, List.set_cons_zero, List.set_cons_succ]
          refine takeNo (i := 33) (d := 57) rfl rfl (by kernel_rfl) (by kernel_rfl) (by kernel_rfl) (fun _ _ _ h => h) (by rfl) (by assumption) ?_
          try simp only [List.setIfInBounds_toArray, List.set_cons_zero, List.set_cons_succ]
          refine takeNo (i := 34) (d := 58) rfl rfl (by kernel_rfl) (by kernel_rfl) (by kernel_rfl) (fun _ _ _ h => h) (by rfl) (by assumption) ?_
          try simp only [List.setIfInBounds_toArray, List.set_cons_zero, List.set_cons_succ]
          refine takeNo (i := 35) (d := 59) rfl rfl (by kernel_rfl) (by kernel_rfl) (by kernel_rfl) (fun _ _ _ h => h) (by rfl) (by assumption) ?_
          try simp only [List.setIfInBounds_toArray, List.set_cons_zero, List.set_cons_succ]
          refine takeNo (i := 36) (d := 60) rfl rfl (by kernel_rfl) (by kernel_rfl) (by kernel_rfl) (fun _ _ _ h => h) (by rfl) (by assumption) ?_
          try simp only [List.setIfInBounds_toArray, List.set_cons_zero, List.set_cons_succ]
          refine takeYes (i := 37) (d := 61) (v := ?_) rfl rfl (by kernel_rfl) (by kernel_rfl) (by kernel_rfl) (fun _ _ _ h => h) (by rfl) (by assumption) ?_ ?_
          rotate_left
          · intro w' hSw; (try dsimp only at hSw); go_simp; try exact rfl
          try simp only [List.setIfInBounds_toArray, List.set_cons_zero, List.set_cons_succ]
          refine wpAnyH_done (by kernel_rfl) ?_ _
          go_wp2
          go_returns
          refine ⟨ret_bool ?_, by repeat (first | (with_reducible exact Below.refl _ _) | (with_reducible refine Below.drew ?_) | (with_reducible refine Below.alloc ?_ ?hh _; case hh => first | (simp; done) | (simp; omega) | omega) | (with_reducible refine Below.setCell ?_ ?hh _; case hh => first | (simp; done) | (simp; omega) | omega) | refine bstep (by assumption) (by first | (simp; done) | (simp; omega) | omega) ?_)⟩
          unfold viewsP
          rw [HE.out, HS.out]
          unfold okVw
          rw [HNO.out]
          simp
        | false =>
          by_cases hw0 : wd < 0
          · have hd : decide (wd < 0) = true := decide_eq_true hw0
            have HF : Hid (decide (0 ≤ widthP rs 9 x.p) = false) := by show _ = _; rw [HWD.out]; exact decide_eq_false (by omega)
            clear ha hL hcl
            subst hq
            go_wp2_with fail
            refine Calls.mono hRl ?_
            rintro z w1 ⟨⟨W1, u1, rfl, ⟨a1, l1, cc1, rfl⟩, _⟩, hb1⟩
            have hz1 := hb1.size
            have hbl := hb1.block b hbr
            have hb1' : b < w1.heap.size := by omega
            replace c0 := (cell_blk hbl).trans c0
            replace c1 := (cell_blk hbl).trans c1
            replace c2 := (cell_blk hbl).trans c2
            replace c3 := (cell_blk hbl).trans c3
            replace c4 := (cell_blk hbl).trans c4
            replace c5 := (cell_blk hbl).trans c5
            replace c6 := (cell_blk hbl).trans c6
            replace c7 := (cell_blk hbl).trans c7
            replace c8 := (cell_blk hbl).trans c8
            replace c9 := (cell_blk hbl).trans c9
            replace c10 := (cell_blk hbl).trans c10
            replace c11 := (cell_blk hbl).trans c11
            replace c12 := (cell_blk hbl).trans c12
            clear hRl
            go_wp2_with fail
            refine wp_region_held_drew (S := (fun w' => w'.cell? ⟨b, o + k * 15, none⟩ = some (.string x.s) ∧ w'.cell? ⟨b, o + k * 15 + 1, none⟩ = some (.int .i64 x.p.k) ∧ w'.cell? ⟨b, o + k * 15 + 2, none⟩ = some (.string x.p.s) ∧ w'.cell? ⟨b, o + k * 15 + 3, none⟩ = some (.int .i64 x.p.e.k) ∧ w'.cell? ⟨b, o + k * 15 + 4, none⟩ = some (.int .i64 x.p.e.n) ∧ w'.cell? ⟨b, o + k * 15 + 5, none⟩ = some (.int .i64 x.p.e.v.k) ∧ w'.cell? ⟨b, o + k * 15 + 6, none⟩ = some (.int .i64 x.p.e.v.n) ∧ w'.cell? ⟨b, o + k * 15 + 7, none⟩ = some (.string x.p.e.v.s) ∧ w'.cell? ⟨b, o + k * 15 + 8, none⟩ = some (.string x.p.e.p) ∧ w'.cell? ⟨b, o + k * 15 + 9, none⟩ = some (.slice ae x.p.e.ks.length ce) ∧ w'.cell? ⟨b, o + k * 15 + 10, none⟩ = some (.slice ak x.p.es.length ck) ∧ w'.cell? ⟨b, o + k * 15 + 11, none⟩ = some (.int .i64 x.p.n) ∧ w'.cell? ⟨b, o + k * 15 + 12, none⟩ = some (.slice aq x.p.ks.length cq))) (by kernel_rfl) ?_ (fun hHeld => ?_)
            · (try dsimp only); refine ⟨?_, ?_, ?_, ?_, ?_, ?_, ?_, ?_, ?_, ?_, ?_, ?_, ?_⟩ <;> first | (with_reducible assumption) | (go_simp; done) | (exact cell_later (by assumption) (by go_simp))
            refine takeYes (i := 0) (d := 24) (v := ?_) rfl rfl (by kernel_rfl) (by kernel_rfl) (by kernel_rfl) (fun _ _ _ h => h) (by rfl) (by assumption) ?_ ?_
            rotate_left
            · intro w' hSw; (try dsimp only at hSw); go_simp; try exact rfl
            try simp only [List.setIfInBounds_toArray, List.set_cons_zero, List.set_cons_succ]
            refine takeYes (i := 1) (d := 25) (v := ?_) rfl rfl (by kernel_rfl) (by kernel_rfl) (by kernel_rfl) (fun _ _ _ h => h) (by rfl) (by assumption) ?_ ?_
            rotate_left
            · intro w' hSw; (try dsimp only at hSw); go_simp; try exact rfl
            try simp only [List.setIfInBounds_toArray, List.set_cons_zero, List.set_cons_succ]
            refine takeYes (i := 2) (d := 26) (v := ?_) rfl rfl (by kernel_rfl) (by kernel_rfl) (by kernel_rfl) (fun _ _ _ h => h) (by rfl) (by assumption) ?_ ?_
            rotate_left
            · intro w' hSw; (try dsimp only at hSw); go_simp; try exact rfl
            try simp only [List.setIfInBounds_toArray, List.set_cons_zero, List.set_cons_succ]
            refine takeYes (i := 3) (d := 27) (v := ?_) rfl rfl (by kernel_rfl) (by kernel_rfl) (by kernel_rfl) (fun _ _ _ h => h) (by rfl) (by assumption) ?_ ?_
            rotate_left
            · intro w' hSw; (try dsimp only at hSw); go_simp; try exact rfl
            try simp only [List.setIfInBounds_toArray, List.set_cons_zero, List.set_cons_succ]
            refine takeYes (i := 4) (d := 28) (v := ?_) rfl rfl (by kernel_rfl) (by kernel_rfl) (by kernel_rfl) (fun _ _ _ h => h) (by rfl) (by assumption) ?_ ?_
            rotate_left
            · intro w' hSw; (try dsimp only at hSw); go_simp; try exact rfl
            try simp only [List.setIfInBounds_toArray, List.set_cons_zero, List.set_cons_succ]
            refine wpAnyH_ready (rs := [5]) (by kernel_rfl) (by simp) ?_
            refine AllReadyH.cons rfl (fun K hK => ?_) AllReadyH.nil
            go_simp
            go_at_call 15
            refine Calls.mono (hNm _) ?_
            rintro e w2 ⟨rfl, rfl⟩
            try go_wp2_with fail
            refine hK.out _ _ ?_ (fun hHeld5 => ?_)
            · (try dsimp only); refine ⟨?_, ?_, ?_, ?_, ?_, ?_, ?_, ?_, ?_, ?_, ?_, ?_, ?_⟩ <;> first | (with_reducible assumption) | (go_simp; done) | (exact cell_later (by assumption) (by go_simp))
            clear hK
            refine takeYes (i := 6) (d := 30) (v := ?_) rfl rfl (by kernel_rfl) (by kernel_rfl) (by kernel_rfl) (fun _ _ _ h => h) (by rfl) (by assumption) ?_ ?_
            rotate_left
            · intro w' hSw; (try dsimp only at hSw); go_simp; try exact rfl
            try simp only [List.setIfInBounds_toArray, List.set_cons_zero, List.set_cons_succ]
            refine takeYes (i := 7) (d := 31) (v := ?_) rfl rfl (by kernel_rfl) (by kernel_rfl) (by kernel_rfl) (fun _ _ _ h => h) (by rfl) (by assumption) ?_ ?_
            rotate_left
            · intro w' hSw; (try dsimp only at hSw); go_simp; try exact rfl
            try simp only [List.setIfInBounds_toArray, List.set_cons_zero, List.set_cons_succ]
            refine takeYes (i := 8) (d := 32) (v := ?_) rfl rfl (by kernel_rfl) (by kernel_rfl) (by kernel_rfl) (fun _ _ _ h => h) (by rfl) (by assumption) ?_ ?_
            rotate_left
            · intro w' hSw; (try dsimp only at hSw); go_simp; try exact rfl
            try simp only [List.setIfInBounds_toArray, List.set_cons_zero, List.set_cons_succ]
            refine takeYes (i := 9) (d := 33) (v := ?_) rfl rfl (by kernel_rfl) (by kernel_rfl) (by kernel_rfl) (fun _ _ _ h => h) (by rfl) (by assumption) ?_ ?_
            rotate_left
            · intro w' hSw; (try dsimp only at hSw); go_simp; try exact rfl
            try simp only [List.setIfInBounds_toArray, List.set_cons_zero, List.set_cons_succ]
            refine takeYes (i := 10) (d := 34) (v := ?_) rfl rfl (by kernel_rfl) (by kernel_rfl) (by kernel_rfl) (fun _ _ _ h => h) (by rfl) (by assumption) ?_ ?_
            rotate_left
            · intro w' hSw; (try dsimp only at hSw); go_simp; try exact rfl
            try simp only [List.setIfInBounds_toArray, List.set_cons_zero, List.set_cons_succ]
            refine takeYes (i := 11) (d := 35) (v := ?_) rfl rfl (by kernel_rfl) (by kernel_rfl) (by kernel_rfl) (fun _ _ _ h => h) (by rfl) (by assumption) ?_ ?_
            rotate_left
            · intro w' hSw; (try dsimp only at hSw); go_simp; try exact rfl
            try simp only [List.setIfInBounds_toArray, List.set_cons_zero, List.set_cons_succ]
            refine takeYes (i := 12) (d := 36) (v := ?_) rfl rfl (by kernel_rfl) (by kernel_rfl) (by kernel_rfl) (fun _ _ _ h => h) (by rfl) (by assumption) ?_ ?_
            rotate_left
            · intro w' hSw; (try dsimp only at hSw); go_simp; try exact rfl
            try simp only [List.setIfInBounds_toArray, List.set_cons_zero, List.set_cons_succ]
            refine takeYes (i := 13) (d := 37) (v := ?_) rfl rfl (by kernel_rfl) (by kernel_rfl) (by kernel_rfl) (fun _ _ _ h => h) (by rfl) (by assumption) ?_ ?_
            rotate_left
            · intro w' hSw; (try dsimp only at hSw); go_simp; try exact rfl
            try simp only [List.setIfInBounds_toArray, List.set_cons_zero, List.set_cons_succ]
            refine takeYes (i := 14) (d := 38) (v := ?_) rfl rfl (by kernel_rfl) (by kernel_rfl) (by kernel_rfl) (fun _ _ _ h => h) (by rfl) (by assumption) ?_ ?_
            rotate_left
            · intro w' hSw; (try dsimp only at hSw); go_simp; try exact rfl
            try simp only [List.setIfInBounds_toArray, List.set_cons_zero, List.set_cons_succ]
            refine takeYes (i := 15) (d := 39) (v := ?_) rfl rfl (by kernel_rfl) (by kernel_rfl) (by kernel_rfl) (fun _ _ _ h => h) (by rfl) (by assumption) ?_ ?_
            rotate_left
            · intro w' hSw; (try dsimp only at hSw); go_simp; try exact rfl
            try simp only [List.setIfInBounds_toArray, List.set_cons_zero, List.set_cons_succ]
            refine takeYes (i := 16) (d := 40) (v := ?_) rfl rfl (by kernel_rfl) (by kernel_rfl) (by kernel_rfl) (fun _ _ _ h => h) (by rfl) (by assumption) ?_ ?_
            rotate_left
            · intro w' hSw; (try dsimp only at hSw); go_simp; try exact rfl
            try simp only [List.setIfInBounds_toArray, List.set_cons_zero, List.set_cons_succ]
            refine wpAnyH_ready (rs := [17]) (by kernel_rfl) (by simp) ?_
            refine AllReadyH.cons rfl (fun K hK => ?_) AllReadyH.nil
            go_simp
            go_at_call 16
            refine Calls.mono (hWd _ (by repeat (first | (with_reducible exact Below.refl _ _) | (with_reducible refine Below.drew ?_) | (with_reducible refine Below.alloc ?_ ?hh _; case hh => first | (simp; done) | (simp; omega) | omega) | (with_reducible refine Below.setCell ?_ ?hh _; case hh => first | (simp; done) | (simp; omega) | omega) | refine bstep (by assumption) (by first | (simp; done) | (simp; omega) | omega) ?_))) ?_
            rintro e w3 ⟨rfl, hb3⟩
            have hz3 := hb3.size
            (try simp at hz3)
            try go_wp2_with fail
            refine hK.out _ _ ?_ (fun hHeld17 => ?_)
            · (try dsimp only); refine ⟨?_, ?_, ?_, ?_, ?_, ?_, ?_, ?_, ?_, ?_, ?_, ?_, ?_⟩ <;> first | (with_reducible assumption) | (go_simp; done) | (exact cell_later (by assumption) (by go_simp))
            clear hK
            refine takeYes (i := 18) (d := 42) (v := ?_) rfl rfl (by kernel_rfl) (by kernel_rfl) (by kernel_rfl) (fun _ _ _ h => h) (by rfl) (by assumption) ?_ ?_
            rotate_left
            · intro w' hSw; (try dsimp only at hSw); go_simp; try exact rfl
            try simp only [List.setIfInBounds_toArray, List.set_cons_zero, List.set_cons_succ]
            try simp only [hd]
            refine takeYes (i := 19) (d := 43) (v := ?_) rfl rfl (by kernel_rfl) (by kernel_rfl) (by kernel_rfl) (fun _ _ _ h => h) (by rfl) (by assumption) ?_ ?_
            rotate_left
            · intro w' hSw; (try dsimp only at hSw); go_simp; try exact rfl
            try simp only [List.setIfInBounds_toArray, List.set_cons_zero, List.set_cons_succ]
            refine takeYes (i := 20) (d := 44) (v := ?_) rfl rfl (by kernel_rfl) (by kernel_rfl) (by kernel_rfl) (fun _ _ _ h => h) (by rfl) (by assumption) ?_ ?_
            rotate_left
            · intro w' hSw; (try dsimp only at hSw); go_simp; try exact rfl
            try simp only [List.setIfInBounds_toArray, List.set_cons_zero, List.set_cons_succ]
            refine takeNo (i := 21) (d := 45) rfl rfl (by kernel_rfl) (by kernel_rfl) (by kernel_rfl) (fun _ _ _ h => h) (by rfl) (by assumption) ?_
            try simp only [List.setIfInBounds_toArray, List.set_cons_zero, List.set_cons_succ]
            refine takeNo (i := 22) (d := 46) rfl rfl (by kernel_rfl) (by kernel_rfl) (by kernel_rfl) (fun _ _ _ h => h) (by rfl) (by assumption) ?_
            try simp only [List.setIfInBounds_toArray, List.set_cons_zero, List.set_cons_succ]
            refine takeNo (i := 23) (d := 47) rfl rfl (by kernel_rfl) (by kernel_rfl) (by kernel_rfl) (fun _ _ _ h => h) (by rfl) (by assumption) ?_
            try simp only [List.setIfInBounds_toArray, List.set_cons_zero, List.set_cons_succ]
            refine takeNo (i := 24) (d := 48) rfl rfl (by kernel_rfl) (by kernel_rfl) (by kernel_rfl) (fun _ _ _ h => h) (by rfl) (by assumption) ?_
            try simp only [List.setIfInBounds_toArray, List.set_cons_zero, List.set_cons_succ]
            refine takeNo (i := 25) (d := 49) rfl rfl (by kernel_rfl) (by kernel_rfl) (by kernel_rfl) (fun _ _ _ h => h) (by rfl) (by assumption) ?_
            try simp only [List.setIfInBounds_toArray, List.set_cons_zero, List.set_cons_succ]
            refine takeNo (i := 26) (d := 50) rfl rfl (by kernel_rfl) (by kernel_rfl) (by kernel_rfl) (fun _ _ _ h => h) (by rfl) (by assumption) ?_
            try simp only [List.setIfInBounds_toArray, List.set_cons_zero, List.set_cons_succ]
            refine takeNo (i := 27) (d := 51) rfl rfl (by kernel_rfl) (by kernel_rfl) (by kernel_rfl) (fun _ _ _ h => h) (by rfl) (by assumption) ?_
            try simp only [List.setIfInBounds_toArray, List.set_cons_zero, List.set_cons_succ]
            refine takeNo (i := 28) (d := 52) rfl rfl (by kernel_rfl) (by kernel_rfl) (by kernel_rfl) (fun _ _ _ h => h) (by rfl) (by assumption) ?_
            try simp only [List.setIfInBounds_toArray, List.set_cons_zero, List.set_cons_succ]
            refine takeNo (i := 29) (d := 53) rfl rfl (by kernel_rfl) (by kernel_rfl) (by kernel_rfl) (fun _ _ _ h => h) (by rfl) (by assumption) ?_
            try simp only [List.setIfInBounds_toArray, List.set_cons_zero, List.set_cons_succ]
            refine takeNo (i := 30) (d := 54) rfl rfl (by kernel_rfl) (by kernel_rfl) (by kernel_rfl) (fun _ _ _ h => h) (by rfl) (by assumption) ?_
            try simp only [List.setIfInBounds_toArray, List.set_cons_zero, List.set_cons_succ]
            refine takeNo (i := 31) (d := 55) rfl rfl (by kernel_rfl) (by kernel_rfl) (by kernel_rfl) (fun _ _ _ h => h) (by rfl) (by assumption) ?_
            try simp only [List.setIfInBounds_toArray, List.set_cons_zero, List.set_cons_succ]
            refine takeNo (i := 32) (d := 56) rfl rfl (by kernel_rfl) (by kernel_rfl) (by kernel_rfl) (fun _ _ _ h => h) (by rfl) (by assumption) ?_
            try simp only [List.setIfInBounds_toArray, List.set_cons_zero, List.set_cons_succ]
            refine takeNo (i := 33) (d := 57) rfl rfl (by kernel_rfl) (by kernel_rfl) (by kernel_rfl) (fun _ _ _ h => h) (by rfl) (by assumption) ?_
            try simp only [List.setIfInBounds_toArray, List.set_cons_zero, List.set_cons_succ]
            refine takeNo (i := 34) (d := 58) rfl rfl (by kernel_rfl) (by kernel_rfl) (by kernel_rfl) (fun _ _ _ h => h) (by rfl) (by assumption) ?_
            try simp only [List.setIfInBounds_toArray, List.set_cons_zero, List.set_cons_succ]
            refine takeNo (i := 35) (d := 59) rfl rfl (by kernel_rfl) (by kernel_rfl) (by kernel_rfl) (fun _ _ _ h => h) (by rfl) (by assumption) ?_
            try simp only [List.setIfInBounds_toArray, List.set_cons_zero, List.set_cons_succ]
            refine takeNo (i := 36) (d := 60) rfl rfl (by kernel_rfl) (by kernel_rfl) (by kernel_rfl) (fun _ _ _ h => h) (by rfl) (by assumption) ?_
            try simp only [List.setIfInBounds_toArray, List.set_cons_zero, List.set_cons_succ]
            refine takeYes (i := 37) (d := 61) (v := ?_) rfl rfl (by kernel_rfl) (by kernel_rfl) (by kernel_rfl) (fun _ _ _ h => h) (by rfl) (by assumption) ?_ ?_
            rotate_left
            · intro w' hSw; (try dsimp only at hSw); go_simp; try exact rfl
            try simp only [List.setIfInBounds_toArray, List.set_cons_zero, List.set_cons_succ]
            refine wpAnyH_done (by kernel_rfl) ?_ _
            go_wp2
            go_returns
            refine ⟨ret_bool ?_, by repeat (first | (with_reducible exact Below.refl _ _) | (with_reducible refine Below.drew ?_) | (with_reducible refine Below.alloc ?_ ?hh _; case hh => first | (simp; done) | (simp; omega) | omega) | (with_reducible refine Below.setCell ?_ ?hh _; case hh => first | (simp; done) | (simp; omega) | omega) | refine bstep (by assumption) (by first | (simp; done) | (simp; omega) | omega) ?_)⟩
            unfold viewsP
            rw [HE.out, HS.out]
            unfold okVw
            rw [HF.out]
            simp
          · have hd : decide (wd < 0) = false := decide_eq_false hw0
            have HF : Hid (decide (0 ≤ widthP rs 9 x.p) = true) := by show _ = _; rw [HWD.out]; exact decide_eq_true (by omega)
            rcases Nat.eq_zero_or_pos k with hk0 | hk0
            · subst hk0
              obtain rfl : q = 0 := by simpa using hq
              rw [Nat.zero_mul, Nat.add_zero] at c0 c1 c2 c3 c4 c5 c6 c7 c8 c9 c10 c11 c12
              clear ha hL hcl hq
              go_wp2_with fail
              refine Calls.mono hRl ?_
              rintro z w1 ⟨⟨W1, u1, rfl, ⟨a1, l1, cc1, rfl⟩, _⟩, hb1⟩
              have hz1 := hb1.size
              have hbl := hb1.block b hbr
              have hb1' : b < w1.heap.size := by omega
              replace c0 := (cell_blk hbl).trans c0
              replace c1 := (cell_blk hbl).trans c1
              replace c2 := (cell_blk hbl).trans c2
              replace c3 := (cell_blk hbl).trans c3
              replace c4 := (cell_blk hbl).trans c4
              replace c5 := (cell_blk hbl).trans c5
              replace c6 := (cell_blk hbl).trans c6
              replace c7 := (cell_blk hbl).trans c7
              replace c8 := (cell_blk hbl).trans c8
              replace c9 := (cell_blk hbl).trans c9
              replace c10 := (cell_blk hbl).trans c10
              replace c11 := (cell_blk hbl).trans c11
              replace c12 := (cell_blk hbl).trans c12
              clear hRl
              go_wp2_with fail
              refine wp_region_held_drew (S := (fun w' => w'.cell? ⟨b, o, none⟩ = some (.string x.s) ∧ w'.cell? ⟨b, o + 1, none⟩ = some (.int .i64 x.p.k) ∧ w'.cell? ⟨b, o + 2, none⟩ = some (.string x.p.s) ∧ w'.cell? ⟨b, o + 3, none⟩ = some (.int .i64 x.p.e.k) ∧ w'.cell? ⟨b, o + 4, none⟩ = some (.int .i64 x.p.e.n) ∧ w'.cell? ⟨b, o + 5, none⟩ = some (.int .i64 x.p.e.v.k) ∧ w'.cell? ⟨b, o + 6, none⟩ = some (.int .i64 x.p.e.v.n) ∧ w'.cell? ⟨b, o + 7, none⟩ = some (.string x.p.e.v.s) ∧ w'.cell? ⟨b, o + 8, none⟩ = some (.string x.p.e.p) ∧ w'.cell? ⟨b, o + 9, none⟩ = some (.slice ae x.p.e.ks.length ce) ∧ w'.cell? ⟨b, o + 10, none⟩ = some (.slice ak x.p.es.length ck) ∧ w'.cell? ⟨b, o + 11, none⟩ = some (.int .i64 x.p.n) ∧ w'.cell? ⟨b, o + 12, none⟩ = some (.slice aq x.p.ks.length cq))) (by kernel_rfl) ?_ (fun hHeld => ?_)
              · (try dsimp only); refine ⟨?_, ?_, ?_, ?_, ?_, ?_, ?_, ?_, ?_, ?_, ?_, ?_, ?_⟩ <;> first | (with_reducible assumption) | (go_simp; done) | (exact cell_later (by assumption) (by go_simp))
              refine takeYes (i := 0) (d := 24) (v := ?_) rfl rfl (by kernel_rfl) (by kernel_rfl) (by kernel_rfl) (fun _ _ _ h => h) (by rfl) (by assumption) ?_ ?_
              rotate_left
              · intro w' hSw; (try dsimp only at hSw); go_simp; try exact rfl
              try simp only [List.setIfInBounds_toArray, List.set_cons_zero, List.set_cons_succ]
              refine takeYes (i := 1) (d := 25) (v := ?_) rfl rfl (by kernel_rfl) (by kernel_rfl) (by kernel_rfl) (fun _ _ _ h => h) (by rfl) (by assumption) ?_ ?_
              rotate_left
              · intro w' hSw; (try dsimp only at hSw); go_simp; try exact rfl
              try simp only [List.setIfInBounds_toArray, List.set_cons_zero, List.set_cons_succ]
              refine takeYes (i := 2) (d := 26) (v := ?_) rfl rfl (by kernel_rfl) (by kernel_rfl) (by kernel_rfl) (fun _ _ _ h => h) (by rfl) (by assumption) ?_ ?_
              rotate_left
              · intro w' hSw; (try dsimp only at hSw); go_simp; try exact rfl
              try simp only [List.setIfInBounds_toArray, List.set_cons_zero, List.set_cons_succ]
              refine takeYes (i := 3) (d := 27) (v := ?_) rfl rfl (by kernel_rfl) (by kernel_rfl) (by kernel_rfl) (fun _ _ _ h => h) (by rfl) (by assumption) ?_ ?_
              rotate_left
              · intro w' hSw; (try dsimp only at hSw); go_simp; try exact rfl
              try simp only [List.setIfInBounds_toArray, List.set_cons_zero, List.set_cons_succ]
              refine takeYes (i := 4) (d := 28) (v := ?_) rfl rfl (by kernel_rfl) (by kernel_rfl) (by kernel_rfl) (fun _ _ _ h => h) (by rfl) (by assumption) ?_ ?_
              rotate_left
              · intro w' hSw; (try dsimp only at hSw); go_simp; try exact rfl
              try simp only [List.setIfInBounds_toArray, List.set_cons_zero, List.set_cons_succ]
              refine wpAnyH_ready (rs := [5]) (by kernel_rfl) (by simp) ?_
              refine AllReadyH.cons rfl (fun K hK => ?_) AllReadyH.nil
              go_simp
              go_at_call 15
              refine Calls.mono (hNm _) ?_
              rintro e w2 ⟨rfl, rfl⟩
              try go_wp2_with fail
              refine hK.out _ _ ?_ (fun hHeld5 => ?_)
              · (try dsimp only); refine ⟨?_, ?_, ?_, ?_, ?_, ?_, ?_, ?_, ?_, ?_, ?_, ?_, ?_⟩ <;> first | (with_reducible assumption) | (go_simp; done) | (exact cell_later (by assumption) (by go_simp))
              clear hK
              refine takeYes (i := 6) (d := 30) (v := ?_) rfl rfl (by kernel_rfl) (by kernel_rfl) (by kernel_rfl) (fun _ _ _ h => h) (by rfl) (by assumption) ?_ ?_
              rotate_left
              · intro w' hSw; (try dsimp only at hSw); go_simp; try exact rfl
              try simp only [List.setIfInBounds_toArray, List.set_cons_zero, List.set_cons_succ]
              refine takeYes (i := 7) (d := 31) (v := ?_) rfl rfl (by kernel_rfl) (by kernel_rfl) (by kernel_rfl) (fun _ _ _ h => h) (by rfl) (by assumption) ?_ ?_
              rotate_left
              · intro w' hSw; (try dsimp only at hSw); go_simp; try exact rfl
              try simp only [List.setIfInBounds_toArray, List.set_cons_zero, List.set_cons_succ]
              refine takeYes (i := 8) (d := 32) (v := ?_) rfl rfl (by kernel_rfl) (by kernel_rfl) (by kernel_rfl) (fun _ _ _ h => h) (by rfl) (by assumption) ?_ ?_
              rotate_left
              · intro w' hSw; (try dsimp only at hSw); go_simp; try exact rfl
              try simp only [List.setIfInBounds_toArray, List.set_cons_zero, List.set_cons_succ]
              refine takeYes (i := 9) (d := 33) (v := ?_) rfl rfl (by kernel_rfl) (by kernel_rfl) (by kernel_rfl) (fun _ _ _ h => h) (by rfl) (by assumption) ?_ ?_
              rotate_left
              · intro w' hSw; (try dsimp only at hSw); go_simp; try exact rfl
              try simp only [List.setIfInBounds_toArray, List.set_cons_zero, List.set_cons_succ]
              refine takeYes (i := 10) (d := 34) (v := ?_) rfl rfl (by kernel_rfl) (by kernel_rfl) (by kernel_rfl) (fun _ _ _ h => h) (by rfl) (by assumption) ?_ ?_
              rotate_left
              · intro w' hSw; (try dsimp only at hSw); go_simp; try exact rfl
              try simp only [List.setIfInBounds_toArray, List.set_cons_zero, List.set_cons_succ]
              refine takeYes (i := 11) (d := 35) (v := ?_) rfl rfl (by kernel_rfl) (by kernel_rfl) (by kernel_rfl) (fun _ _ _ h => h) (by rfl) (by assumption) ?_ ?_
              rotate_left
              · intro w' hSw; (try dsimp only at hSw); go_simp; try exact rfl
              try simp only [List.setIfInBounds_toArray, List.set_cons_zero, List.set_cons_succ]
              refine takeYes (i := 12) (d := 36) (v := ?_) rfl rfl (by kernel_rfl) (by kernel_rfl) (by kernel_rfl) (fun _ _ _ h => h) (by rfl) (by assumption) ?_ ?_
              rotate_left
              · intro w' hSw; (try dsimp only at hSw); go_simp; try exact rfl
              try simp only [List.setIfInBounds_toArray, List.set_cons_zero, List.set_cons_succ]
              refine takeYes (i := 13) (d := 37) (v := ?_) rfl rfl (by kernel_rfl) (by kernel_rfl) (by kernel_rfl) (fun _ _ _ h => h) (by rfl) (by assumption) ?_ ?_
              rotate_left
              · intro w' hSw; (try dsimp only at hSw); go_simp; try exact rfl
              try simp only [List.setIfInBounds_toArray, List.set_cons_zero, List.set_cons_succ]
              refine takeYes (i := 14) (d := 38) (v := ?_) rfl rfl (by kernel_rfl) (by kernel_rfl) (by kernel_rfl) (fun _ _ _ h => h) (by rfl) (by assumption) ?_ ?_
              rotate_left
              · intro w' hSw; (try dsimp only at hSw); go_simp; try exact rfl
              try simp only [List.setIfInBounds_toArray, List.set_cons_zero, List.set_cons_succ]
              refine takeYes (i := 15) (d := 39) (v := ?_) rfl rfl (by kernel_rfl) (by kernel_rfl) (by kernel_rfl) (fun _ _ _ h => h) (by rfl) (by assumption) ?_ ?_
              rotate_left
              · intro w' hSw; (try dsimp only at hSw); go_simp; try exact rfl
              try simp only [List.setIfInBounds_toArray, List.set_cons_zero, List.set_cons_succ]
              refine takeYes (i := 16) (d := 40) (v := ?_) rfl rfl (by kernel_rfl) (by kernel_rfl) (by kernel_rfl) (fun _ _ _ h => h) (by rfl) (by assumption) ?_ ?_
              rotate_left
              · intro w' hSw; (try dsimp only at hSw); go_simp; try exact rfl
              try simp only [List.setIfInBounds_toArray, List.set_cons_zero, List.set_cons_succ]
              refine wpAnyH_ready (rs := [17]) (by kernel_rfl) (by simp) ?_
              refine AllReadyH.cons rfl (fun K hK => ?_) AllReadyH.nil
              go_simp
              go_at_call 16
              refine Calls.mono (hWd _ (by repeat (first | (with_reducible exact Below.refl _ _) | (with_reducible refine Below.drew ?_) | (with_reducible refine Below.alloc ?_ ?hh _; case hh => first | (simp; done) | (simp; omega) | omega) | (with_reducible refine Below.setCell ?_ ?hh _; case hh => first | (simp; done) | (simp; omega) | omega) | refine bstep (by assumption) (by first | (simp; done) | (simp; omega) | omega) ?_))) ?_
              rintro e w3 ⟨rfl, hb3⟩
              have hz3 := hb3.size
              (try simp at hz3)
              try go_wp2_with fail
              refine hK.out _ _ ?_ (fun hHeld17 => ?_)
              · (try dsimp only); refine ⟨?_, ?_, ?_, ?_, ?_, ?_, ?_, ?_, ?_, ?_, ?_, ?_, ?_⟩ <;> first | (with_reducible assumption) | (go_simp; done) | (exact cell_later (by assumption) (by go_simp))
              clear hK
              refine takeYes (i := 18) (d := 42) (v := ?_) rfl rfl (by kernel_rfl) (by kernel_rfl) (by kernel_rfl) (fun _ _ _ h => h) (by rfl) (by assumption) ?_ ?_
              rotate_left
              · intro w' hSw; (try dsimp only at hSw); go_simp; try exact rfl
              try simp only [List.setIfInBounds_toArray, List.set_cons_zero, List.set_cons_succ]
              try simp only [hd]
              refine takeYes (i := 19) (d := 43) (v := ?_) rfl rfl (by kernel_rfl) (by kernel_rfl) (by kernel_rfl) (fun _ _ _ h => h) (by rfl) (by assumption) ?_ ?_
              rotate_left
              · intro w' hSw; (try dsimp only at hSw); go_simp; try exact rfl
              try simp only [List.setIfInBounds_toArray, List.set_cons_zero, List.set_cons_succ]
              refine takeYes (i := 20) (d := 44) (v := ?_) rfl rfl (by kernel_rfl) (by kernel_rfl) (by kernel_rfl) (fun _ _ _ h => h) (by rfl) (by assumption) ?_ ?_
              rotate_left
              · intro w' hSw; (try dsimp only at hSw); go_simp; try exact rfl
              try simp only [List.setIfInBounds_toArray, List.set_cons_zero, List.set_cons_succ]
              refine takeYes (i := 21) (d := 45) (v := ?_) rfl rfl (by kernel_rfl) (by kernel_rfl) (by kernel_rfl) (fun _ _ _ h => h) (by rfl) (by assumption) ?_ ?_
              rotate_left
              · intro w' hSw; (try dsimp only at hSw); go_simp; try exact rfl
              try simp only [List.setIfInBounds_toArray, List.set_cons_zero, List.set_cons_succ]
              refine takeYes (i := 22) (d := 46) (v := ?_) rfl rfl (by kernel_rfl) (by kernel_rfl) (by kernel_rfl) (fun _ _ _ h => h) (by rfl) (by assumption) ?_ ?_
              rotate_left
              · intro w' hSw; (try dsimp only at hSw); go_simp; try exact rfl
              try simp only [List.setIfInBounds_toArray, List.set_cons_zero, List.set_cons_succ]
              refine takeYes (i := 23) (d := 47) (v := ?_) rfl rfl (by kernel_rfl) (by kernel_rfl) (by kernel_rfl) (fun _ _ _ h => h) (by rfl) (by assumption) ?_ ?_
              rotate_left
              · intro w' hSw; (try dsimp only at hSw); go_simp; try exact rfl
              try simp only [List.setIfInBounds_toArray, List.set_cons_zero, List.set_cons_succ]
              refine takeNo (i := 24) (d := 48) rfl rfl (by kernel_rfl) (by kernel_rfl) (by kernel_rfl) (fun _ _ _ h => h) (by rfl) (by assumption) ?_
              try simp only [List.setIfInBounds_toArray, List.set_cons_zero, List.set_cons_succ]
              refine takeNo (i := 25) (d := 49) rfl rfl (by kernel_rfl) (by kernel_rfl) (by kernel_rfl) (fun _ _ _ h => h) (by rfl) (by assumption) ?_
              try simp only [List.setIfInBounds_toArray, List.set_cons_zero, List.set_cons_succ]
              refine takeNo (i := 26) (d := 50) rfl rfl (by kernel_rfl) (by kernel_rfl) (by kernel_rfl) (fun _ _ _ h => h) (by rfl) (by assumption) ?_
              try simp only [List.setIfInBounds_toArray, List.set_cons_zero, List.set_cons_succ]
              refine takeNo (i := 27) (d := 51) rfl rfl (by kernel_rfl) (by kernel_rfl) (by kernel_rfl) (fun _ _ _ h => h) (by rfl) (by assumption) ?_
              try simp only [List.setIfInBounds_toArray, List.set_cons_zero, List.set_cons_succ]
              refine takeNo (i := 28) (d := 52) rfl rfl (by kernel_rfl) (by kernel_rfl) (by kernel_rfl) (fun _ _ _ h => h) (by rfl) (by assumption) ?_
              try simp only [List.setIfInBounds_toArray, List.set_cons_zero, List.set_cons_succ]
              refine takeNo (i := 29) (d := 53) rfl rfl (by kernel_rfl) (by kernel_rfl) (by kernel_rfl) (fun _ _ _ h => h) (by rfl) (by assumption) ?_
              try simp only [List.setIfInBounds_toArray, List.set_cons_zero, List.set_cons_succ]
              refine takeNo (i := 30) (d := 54) rfl rfl (by kernel_rfl) (by kernel_rfl) (by kernel_rfl) (fun _ _ _ h => h) (by rfl) (by assumption) ?_
              try simp only [List.setIfInBounds_toArray, List.set_cons_zero, List.set_cons_succ]
              refine takeNo (i := 31) (d := 55) rfl rfl (by kernel_rfl) (by kernel_rfl) (by kernel_rfl) (fun _ _ _ h => h) (by rfl) (by assumption) ?_
              try simp only [List.setIfInBounds_toArray, List.set_cons_zero, List.set_cons_succ]
              refine takeNo (i := 32) (d := 56) rfl rfl (by kernel_rfl) (by kernel_rfl) (by kernel_rfl) (fun _ _ _ h => h) (by rfl) (by assumption) ?_
              try simp only [List.setIfInBounds_toArray, List.set_cons_zero, List.set_cons_succ]
              refine takeNo (i := 33) (d := 57) rfl rfl (by kernel_rfl) (by kernel_rfl) (by kernel_rfl) (fun _ _ _ h => h) (by rfl) (by assumption) ?_
              try simp only [List.setIfInBounds_toArray, List.set_cons_zero, List.set_cons_succ]
              refine takeNo (i := 34) (d := 58) rfl rfl (by kernel_rfl) (by kernel_rfl) (by kernel_rfl) (fun _ _ _ h => h) (by rfl) (by assumption) ?_
              try simp only [List.setIfInBounds_toArray, List.set_cons_zero, List.set_cons_succ]
              refine takeNo (i := 35) (d := 59) rfl rfl (by kernel_rfl) (by kernel_rfl) (by kernel_rfl) (fun _ _ _ h => h) (by rfl) (by assumption) ?_
              try simp only [List.setIfInBounds_toArray, List.set_cons_zero, List.set_cons_succ]
              refine takeYes (i := 36) (d := 60) (v := ?_) rfl rfl (by kernel_rfl) (by kernel_rfl) (by kernel_rfl) (fun _ _ _ h => h) (by rfl) (by assumption) ?_ ?_
              rotate_left
              · intro w' hSw; (try dsimp only at hSw); go_simp; try exact rfl
              try simp only [List.setIfInBounds_toArray, List.set_cons_zero, List.set_cons_succ]
              refine takeYes (i := 37) (d := 61) (v := ?_) rfl rfl (by kernel_rfl) (by kernel_rfl) (by kernel_rfl) (fun _ _ _ h => h) (by rfl) (by assumption) ?_ ?_
              rotate_left
              · intro w' hSw; (try dsimp only at hSw); go_simp; try exact rfl
              try simp only [List.setIfInBounds_toArray, List.set_cons_zero, List.set_cons_succ]
              refine wpAnyH_done (by kernel_rfl) ?_ _
              go_wp2
              go_roundw
              case rel =>
                refine ⟨1, 1, hlt, rfl, by simp, by repeat (first | (with_reducible exact Below.refl _ _) | (with_reducible refine Below.drew ?_) | (with_reducible refine Below.alloc ?_ ?hh _; case hh => first | (simp; done) | (simp; omega) | omega) | (with_reducible refine Below.setCell ?_ ?hh _; case hh => first | (simp; done) | (simp; omega) | omega) | refine bstep (by assumption) (by first | (simp; done) | (simp; omega) | omega) ?_), ?_⟩
                rw [HE.out, HS.out]
                unfold okVw
                rw [HNM.out, HNO.out, HF.out, prevV_zero]
                simp [okPrevV]
              case measure => simp [intOf]; omega
            · obtain ⟨j, rfl⟩ : ∃ j, k = j + 1 := ⟨k - 1, by omega⟩
              obtain rfl : q = (j : Int) + 1 := by omega
              obtain ⟨y, _, _, _, _, _, hy, _, _, ⟨d0, _⟩, _, _, _⟩ := hL.at hG hblt hb (show j < vs.length by omega)
              have HP : Hid (prevV vs (j + 1) = some y) := prevV_succ hy
              have HQ : Hid (okPrevV (prevV vs (j + 1)) x = Op.bytesLess y.s.toList x.s.toList) := by rw [HP.out]; rfl
              have hw1 : IntKind.i64.wrap (j : Int) = j := by rw [IntKind.wrap_i64]; omega
              have hw2 : IntKind.i64.wrap ((j : Int) + 1 - 1) = j := by rw [IntKind.wrap_i64]; omega
              have hi0 : (0 : Int) ≤ j := by omega
              have hi1 : (j : Int) < vs.length := by omega
              have hi2 : (0 : Int) < (j : Int) + 1 := by omega
              clear ha hL hcl hy hq
              go_wp2_with fail
              refine Calls.mono hRl ?_
              rintro z w1 ⟨⟨W1, u1, rfl, ⟨a1, l1, cc1, rfl⟩, _⟩, hb1⟩
              have hz1 := hb1.size
              have hbl := hb1.block b hbr
              have hb1' : b < w1.heap.size := by omega
              replace c0 := (cell_blk hbl).trans c0
              replace c1 := (cell_blk hbl).trans c1
              replace c2 := (cell_blk hbl).trans c2
              replace c3 := (cell_blk hbl).trans c3
              replace c4 := (cell_blk hbl).trans c4
              replace c5 := (cell_blk hbl).trans c5
              replace c6 := (cell_blk hbl).trans c6
              replace c7 := (cell_blk hbl).trans c7
              replace c8 := (cell_blk hbl).trans c8
              replace c9 := (cell_blk hbl).trans c9
              replace c10 := (cell_blk hbl).trans c10
              replace c11 := (cell_blk hbl).trans c11
              replace c12 := (cell_blk hbl).trans c12
              replace d0 := (cell_blk hbl).trans d0
              clear hRl
              go_wp2_with fail
              refine wp_region_held_drew (S := (fun w' => w'.cell? ⟨b, o + (j + 1) * 15, none⟩ = some (.string x.s) ∧ w'.cell? ⟨b, o + (j + 1) * 15 + 1, none⟩ = some (.int .i64 x.p.k) ∧ w'.cell? ⟨b, o + (j + 1) * 15 + 2, none⟩ = some (.string x.p.s) ∧ w'.cell? ⟨b, o + (j + 1) * 15 + 3, none⟩ = some (.int .i64 x.p.e.k) ∧ w'.cell? ⟨b, o + (j + 1) * 15 + 4, none⟩ = some (.int .i64 x.p.e.n) ∧ w'.cell? ⟨b, o + (j + 1) * 15 + 5, none⟩ = some (.int .i64 x.p.e.v.k) ∧ w'.cell? ⟨b, o + (j + 1) * 15 + 6, none⟩ = some (.int .i64 x.p.e.v.n) ∧ w'.cell? ⟨b, o + (j + 1) * 15 + 7, none⟩ = some (.string x.p.e.v.s) ∧ w'.cell? ⟨b, o + (j + 1) * 15 + 8, none⟩ = some (.string x.p.e.p) ∧ w'.cell? ⟨b, o + (j + 1) * 15 + 9, none⟩ = some (.slice ae x.p.e.ks.length ce) ∧ w'.cell? ⟨b, o + (j + 1) * 15 + 10, none⟩ = some (.slice ak x.p.es.length ck) ∧ w'.cell? ⟨b, o + (j + 1) * 15 + 11, none⟩ = some (.int .i64 x.p.n) ∧ w'.cell? ⟨b, o + (j + 1) * 15 + 12, none⟩ = some (.slice aq x.p.ks.length cq) ∧ w'.cell? ⟨b, o + j * 15, none⟩ = some (.string y.s))) (by kernel_rfl) ?_ (fun hHeld => ?_)
              · (try dsimp only); refine ⟨?_, ?_, ?_, ?_, ?_, ?_, ?_, ?_, ?_, ?_, ?_, ?_, ?_, ?_⟩ <;> first | (with_reducible assumption) | (go_simp; done) | (exact cell_later (by assumption) (by go_simp))
              refine takeYes (i := 0) (d := 24) (v := ?_) rfl rfl (by kernel_rfl) (by kernel_rfl) (by kernel_rfl) (fun _ _ _ h => h) (by rfl) (by assumption) ?_ ?_
              rotate_left
              · intro w' hSw; (try dsimp only at hSw); go_simp; try exact rfl
              try simp only [List.setIfInBounds_toArray, List.set_cons_zero, List.set_cons_succ]
              refine takeYes (i := 1) (d := 25) (v := ?_) rfl rfl (by kernel_rfl) (by kernel_rfl) (by kernel_rfl) (fun _ _ _ h => h) (by rfl) (by assumption) ?_ ?_
              rotate_left
              · intro w' hSw; (try dsimp only at hSw); go_simp; try exact rfl
              try simp only [List.setIfInBounds_toArray, List.set_cons_zero, List.set_cons_succ]
              refine takeYes (i := 2) (d := 26) (v := ?_) rfl rfl (by kernel_rfl) (by kernel_rfl) (by kernel_rfl) (fun _ _ _ h => h) (by rfl) (by assumption) ?_ ?_
              rotate_left
              · intro w' hSw; (try dsimp only at hSw); go_simp; try exact rfl
              try simp only [List.setIfInBounds_toArray, List.set_cons_zero, List.set_cons_succ]
              refine takeYes (i := 3) (d := 27) (v := ?_) rfl rfl (by kernel_rfl) (by kernel_rfl) (by kernel_rfl) (fun _ _ _ h => h) (by rfl) (by assumption) ?_ ?_
              rotate_left
              · intro w' hSw; (try dsimp only at hSw); go_simp; try exact rfl
              try simp only [List.setIfInBounds_toArray, List.set_cons_zero, List.set_cons_succ]
              refine takeYes (i := 4) (d := 28) (v := ?_) rfl rfl (by kernel_rfl) (by kernel_rfl) (by kernel_rfl) (fun _ _ _ h => h) (by rfl) (by assumption) ?_ ?_
              rotate_left
              · intro w' hSw; (try dsimp only at hSw); go_simp; try exact rfl
              try simp only [List.setIfInBounds_toArray, List.set_cons_zero, List.set_cons_succ]
              refine wpAnyH_ready (rs := [5]) (by kernel_rfl) (by simp) ?_
              refine AllReadyH.cons rfl (fun K hK => ?_) AllReadyH.nil
              go_simp
              go_at_call 15
              refine Calls.mono (hNm _) ?_
              rintro e w2 ⟨rfl, rfl⟩
              try go_wp2_with fail
              refine hK.out _ _ ?_ (fun hHeld5 => ?_)
              · (try dsimp only); refine ⟨?_, ?_, ?_, ?_, ?_, ?_, ?_, ?_, ?_, ?_, ?_, ?_, ?_, ?_⟩ <;> first | (with_reducible assumption) | (go_simp; done) | (exact cell_later (by assumption) (by go_simp))
              clear hK
              refine takeYes (i := 6) (d := 30) (v := ?_) rfl rfl (by kernel_rfl) (by kernel_rfl) (by kernel_rfl) (fun _ _ _ h => h) (by rfl) (by assumption) ?_ ?_
              rotate_left
              · intro w' hSw; (try dsimp only at hSw); go_simp; try exact rfl
              try simp only [List.setIfInBounds_toArray, List.set_cons_zero, List.set_cons_succ]
              refine takeYes (i := 7) (d := 31) (v := ?_) rfl rfl (by kernel_rfl) (by kernel_rfl) (by kernel_rfl) (fun _ _ _ h => h) (by rfl) (by assumption) ?_ ?_
              rotate_left
              · intro w' hSw; (try dsimp only at hSw); go_simp; try exact rfl
              try simp only [List.setIfInBounds_toArray, List.set_cons_zero, List.set_cons_succ]
              refine takeYes (i := 8) (d := 32) (v := ?_) rfl rfl (by kernel_rfl) (by kernel_rfl) (by kernel_rfl) (fun _ _ _ h => h) (by rfl) (by assumption) ?_ ?_
              rotate_left
              · intro w' hSw; (try dsimp only at hSw); go_simp; try exact rfl
              try simp only [List.setIfInBounds_toArray, List.set_cons_zero, List.set_cons_succ]
              refine takeYes (i := 9) (d := 33) (v := ?_) rfl rfl (by kernel_rfl) (by kernel_rfl) (by kernel_rfl) (fun _ _ _ h => h) (by rfl) (by assumption) ?_ ?_
              rotate_left
              · intro w' hSw; (try dsimp only at hSw); go_simp; try exact rfl
              try simp only [List.setIfInBounds_toArray, List.set_cons_zero, List.set_cons_succ]
              refine takeYes (i := 10) (d := 34) (v := ?_) rfl rfl (by kernel_rfl) (by kernel_rfl) (by kernel_rfl) (fun _ _ _ h => h) (by rfl) (by assumption) ?_ ?_
              rotate_left
              · intro w' hSw; (try dsimp only at hSw); go_simp; try exact rfl
              try simp only [List.setIfInBounds_toArray, List.set_cons_zero, List.set_cons_succ]
              refine takeYes (i := 11) (d := 35) (v := ?_) rfl rfl (by kernel_rfl) (by kernel_rfl) (by kernel_rfl) (fun _ _ _ h => h) (by rfl) (by assumption) ?_ ?_
              rotate_left
              · intro w' hSw; (try dsimp only at hSw); go_simp; try exact rfl
              try simp only [List.setIfInBounds_toArray, List.set_cons_zero, List.set_cons_succ]
              refine takeYes (i := 12) (d := 36) (v := ?_) rfl rfl (by kernel_rfl) (by kernel_rfl) (by kernel_rfl) (fun _ _ _ h => h) (by rfl) (by assumption) ?_ ?_
              rotate_left
              · intro w' hSw; (try dsimp only at hSw); go_simp; try exact rfl
              try simp only [List.setIfInBounds_toArray, List.set_cons_zero, List.set_cons_succ]
              refine takeYes (i := 13) (d := 37) (v := ?_) rfl rfl (by kernel_rfl) (by kernel_rfl) (by kernel_rfl) (fun _ _ _ h => h) (by rfl) (by assumption) ?_ ?_
              rotate_left
              · intro w' hSw; (try dsimp only at hSw); go_simp; try exact rfl
              try simp only [List.setIfInBounds_toArray, List.set_cons_zero, List.set_cons_succ]
              refine takeYes (i := 14) (d := 38) (v := ?_) rfl rfl (by kernel_rfl) (by kernel_rfl) (by kernel_rfl) (fun _ _ _ h => h) (by rfl) (by assumption) ?_ ?_
              rotate_left
              · intro w' hSw; (try dsimp only at hSw); go_simp; try exact rfl
              try simp only [List.setIfInBounds_toArray, List.set_cons_zero, List.set_cons_succ]
              refine takeYes (i := 15) (d := 39) (v := ?_) rfl rfl (by kernel_rfl) (by kernel_rfl) (by kernel_rfl) (fun _ _ _ h => h) (by rfl) (by assumption) ?_ ?_
              rotate_left
              · intro w' hSw; (try dsimp only at hSw); go_simp; try exact rfl
              try simp only [List.setIfInBounds_toArray, List.set_cons_zero, List.set_cons_succ]
              refine takeYes (i := 16) (d := 40) (v := ?_) rfl rfl (by kernel_rfl) (by kernel_rfl) (by kernel_rfl) (fun _ _ _ h => h) (by rfl) (by assumption) ?_ ?_
              rotate_left
              · intro w' hSw; (try dsimp only at hSw); go_simp; try exact rfl
              try simp only [List.setIfInBounds_toArray, List.set_cons_zero, List.set_cons_succ]
              refine wpAnyH_ready (rs := [17]) (by kernel_rfl) (by simp) ?_
              refine AllReadyH.cons rfl (fun K hK => ?_) AllReadyH.nil
              go_simp
              go_at_call 16
              refine Calls.mono (hWd _ (by repeat (first | (with_reducible exact Below.refl _ _) | (with_reducible refine Below.drew ?_) | (with_reducible refine Below.alloc ?_ ?hh _; case hh => first | (simp; done) | (simp; omega) | omega) | (with_reducible refine Below.setCell ?_ ?hh _; case hh => first | (simp; done) | (simp; omega) | omega) | refine bstep (by assumption) (by first | (simp; done) | (simp; omega) | omega) ?_))) ?_
              rintro e w3 ⟨rfl, hb3⟩
              have hz3 := hb3.size
              (try simp at hz3)
              try go_wp2_with fail
              refine hK.out _ _ ?_ (fun hHeld17 => ?_)
              · (try dsimp only); refine ⟨?_, ?_, ?_, ?_, ?_, ?_, ?_, ?_, ?_, ?_, ?_, ?_, ?_, ?_⟩ <;> first | (with_reducible assumption) | (go_simp; done) | (exact cell_later (by assumption) (by go_simp))
              clear hK
              refine takeYes (i := 18) (d := 42) (v := ?_) rfl rfl (by kernel_rfl) (by kernel_rfl) (by kernel_rfl) (fun _ _ _ h => h) (by rfl) (by assumption) ?_ ?_
              rotate_left
              · intro w' hSw; (try dsimp only at hSw); go_simp; try exact rfl
              try simp only [List.setIfInBounds_toArray, List.set_cons_zero, List.set_cons_succ]
              try simp only [hd]
              refine takeYes (i := 19) (d := 43) (v := ?_) rfl rfl (by kernel_rfl) (by kernel_rfl) (by kernel_rfl) (fun _ _ _ h => h) (by rfl) (by assumption) ?_ ?_
              rotate_left
              · intro w' hSw; (try dsimp only at hSw); go_simp; try exact rfl
              try simp only [List.setIfInBounds_toArray, List.set_cons_zero, List.set_cons_succ]
              refine takeYes (i := 20) (d := 44) (v := ?_) rfl rfl (by kernel_rfl) (by kernel_rfl) (by kernel_rfl) (fun _ _ _ h => h) (by rfl) (by assumption) ?_ ?_
              rotate_left
              · intro w' hSw; (try dsimp only at hSw); go_simp; try exact rfl
              try simp only [List.setIfInBounds_toArray, List.set_cons_zero, List.set_cons_succ]
              refine takeYes (i := 21) (d := 45) (v := ?_) rfl rfl (by kernel_rfl) (by kernel_rfl) (by kernel_rfl) (fun _ _ _ h => h) (by rfl) (by assumption) ?_ ?_
              rotate_left
              · intro w' hSw; (try dsimp only at hSw); go_simp; try exact rfl
              try simp only [List.setIfInBounds_toArray, List.set_cons_zero, List.set_cons_succ]
              refine takeYes (i := 22) (d := 46) (v := ?_) rfl rfl (by kernel_rfl) (by kernel_rfl) (by kernel_rfl) (fun _ _ _ h => h) (by rfl) (by assumption) ?_ ?_
              rotate_left
              · intro w' hSw; (try dsimp only at hSw); go_simp; try exact rfl
              try simp only [List.setIfInBounds_toArray, List.set_cons_zero, List.set_cons_succ]
              refine takeYes (i := 23) (d := 47) (v := ?_) rfl rfl (by kernel_rfl) (by kernel_rfl) (by kernel_rfl) (fun _ _ _ h => h) (by rfl) (by assumption) ?_ ?_
              rotate_left
              · intro w' hSw; (try dsimp only at hSw); go_simp; try exact rfl
              try simp only [List.setIfInBounds_toArray, List.set_cons_zero, List.set_cons_succ]
              refine takeYes (i := 24) (d := 48) (v := ?_) rfl rfl (by kernel_rfl) (by kernel_rfl) (by kernel_rfl) (fun _ _ _ h => h) (by rfl) (by assumption) ?_ ?_
              rotate_left
              · intro w' hSw; (try dsimp only at hSw); go_simp; try exact rfl
              try simp only [List.setIfInBounds_toArray, List.set_cons_zero, List.set_cons_succ]
              refine takeYes (i := 25) (d := 49) (v := ?_) rfl rfl (by kernel_rfl) (by kernel_rfl) (by kernel_rfl) (fun _ _ _ h => h) (by rfl) (by assumption) ?_ ?_
              rotate_left
              · intro w' hSw; (try dsimp only at hSw); go_simp; try exact rfl
              try simp only [List.setIfInBounds_toArray, List.set_cons_zero, List.set_cons_succ]
              refine takeYes (i := 26) (d := 50) (v := ?_) rfl rfl (by kernel_rfl) (by kernel_rfl) (by kernel_rfl) (fun _ _ _ h => h) (by rfl) (by assumption) ?_ ?_
              rotate_left
              · intro w' hSw; (try dsimp only at hSw); go_simp; try exact rfl
              try simp only [List.setIfInBounds_toArray, List.set_cons_zero, List.set_cons_succ]
              refine takeYes (i := 27) (d := 51) (v := ?_) rfl rfl (by kernel_rfl) (by kernel_rfl) (by kernel_rfl) (fun _ _ _ h => h) (by rfl) (by assumption) ?_ ?_
              rotate_left
              · intro w' hSw; (try dsimp only at hSw); go_simp; try exact rfl
              try simp only [List.setIfInBounds_toArray, List.set_cons_zero, List.set_cons_succ]
              refine takeYes (i := 28) (d := 52) (v := ?_) rfl rfl (by kernel_rfl) (by kernel_rfl) (by kernel_rfl) (fun _ _ _ h => h) (by rfl) (by assumption) ?_ ?_
              rotate_left
              · intro w' hSw; (try dsimp only at hSw); go_simp; try exact rfl
              try simp only [List.setIfInBounds_toArray, List.set_cons_zero, List.set_cons_succ]
              refine takeYes (i := 29) (d := 53) (v := ?_) rfl rfl (by kernel_rfl) (by kernel_rfl) (by kernel_rfl) (fun _ _ _ h => h) (by rfl) (by assumption) ?_ ?_
              rotate_left
              · intro w' hSw; (try dsimp only at hSw); go_simp; try exact rfl
              try simp only [List.setIfInBounds_toArray, List.set_cons_zero, List.set_cons_succ]
              refine takeYes (i := 30) (d := 54) (v := ?_) rfl rfl (by kernel_rfl) (by kernel_rfl) (by kernel_rfl) (fun _ _ _ h => h) (by rfl) (by assumption) ?_ ?_
              rotate_left
              · intro w' hSw; (try dsimp only at hSw); go_simp; try exact rfl
              try simp only [List.setIfInBounds_toArray, List.set_cons_zero, List.set_cons_succ]
              refine takeYes (i := 31) (d := 55) (v := ?_) rfl rfl (by kernel_rfl) (by kernel_rfl) (by kernel_rfl) (fun _ _ _ h => h) (by rfl) (by assumption) ?_ ?_
              rotate_left
              · intro w' hSw; (try dsimp only at hSw); go_simp; try exact rfl
              try simp only [List.setIfInBounds_toArray, List.set_cons_zero, List.set_cons_succ]
              refine takeYes (i := 32) (d := 56) (v := ?_) rfl rfl (by kernel_rfl) (by kernel_rfl) (by kernel_rfl) (fun _ _ _ h => h) (by rfl) (by assumption) ?_ ?_
              rotate_left
              · intro w' hSw; (try dsimp only at hSw); go_simp; try exact rfl
              try simp only [List.setIfInBounds_toArray, List.set_cons_zero, List.set_cons_succ]
              refine takeYes (i := 33) (d := 57) (v := ?_) rfl rfl (by kernel_rfl) (by kernel_rfl) (by kernel_rfl) (fun _ _ _ h => h) (by rfl) (by assumption) ?_ ?_
              rotate_left
              · intro w' hSw; (try dsimp only at hSw); go_simp; try exact rfl
              try simp only [List.setIfInBounds_toArray, List.set_cons_zero, List.set_cons_succ]
              refine takeYes (i := 34) (d := 58) (v := ?_) rfl rfl (by kernel_rfl) (by kernel_rfl) (by kernel_rfl) (fun _ _ _ h => h) (by rfl) (by assumption) ?_ ?_
              rotate_left
              · intro w' hSw; (try dsimp only at hSw); go_simp; try exact rfl
              try simp only [List.setIfInBounds_toArray, List.set_cons_zero, List.set_cons_succ]
              refine takeYes (i := 35) (d := 59) (v := ?_) rfl rfl (by kernel_rfl) (by kernel_rfl) (by kernel_rfl) (fun _ _ _ h => h) (by rfl) (by assumption) ?_ ?_
              rotate_left
              · intro w' hSw; (try dsimp only at hSw); go_simp; try exact rfl
              try simp only [List.setIfInBounds_toArray, List.set_cons_zero, List.set_cons_succ]
              refine takeYes (i := 36) (d := 60) (v := ?_) rfl rfl (by kernel_rfl) (by kernel_rfl) (by kernel_rfl) (fun _ _ _ h => h) (by rfl) (by assumption) ?_ ?_
              rotate_left
              · intro w' hSw; (try dsimp only at hSw); go_simp; try exact rfl
              try simp only [List.setIfInBounds_toArray, List.set_cons_zero, List.set_cons_succ]
              refine takeYes (i := 37) (d := 61) (v := ?_) rfl rfl (by kernel_rfl) (by kernel_rfl) (by kernel_rfl) (fun _ _ _ h => h) (by rfl) (by assumption) ?_ ?_
              rotate_left
              · intro w' hSw; (try dsimp only at hSw); go_simp; try exact rfl
              try simp only [List.setIfInBounds_toArray, List.set_cons_zero, List.set_cons_succ]
              refine wpAnyH_done (by kernel_rfl) ?_ _
              go_wp2
              · have hcf : Op.bytesLess y.s.toList x.s.toList = false := by
                  have h9 : Op.bytesLess x.s.toList y.s.toList = true ∨ (x.s.toList == y.s.toList) = true := by assumption
                  rcases h9 with h9 | h9
                  · exact bless_asymm h9
                  · rw [beq_iff_eq] at h9; rw [h9]; exact bless_irrefl _
                go_returns
                refine ⟨ret_bool ?_, by repeat (first | (with_reducible exact Below.refl _ _) | (with_reducible refine Below.drew ?_) | (with_reducible refine Below.alloc ?_ ?hh _; case hh => first | (simp; done) | (simp; omega) | omega) | (with_reducible refine Below.setCell ?_ ?hh _; case hh => first | (simp; done) | (simp; omega) | omega) | refine bstep (by assumption) (by first | (simp; done) | (simp; omega) | omega) ?_)⟩
                unfold viewsP
                rw [HE.out, HS.out]
                unfold okVw
                rw [HQ.out, hcf]
                simp
              · have hcmp : Op.bytesLess y.s.toList x.s.toList = true := by
                  have h9 : Op.bytesLess x.s.toList y.s.toList = false ∧ (x.s.toList == y.s.toList) = false := by assumption
                  exact bless_total h9.1 (by simpa using h9.2)
                refine ⟨⟨j + 1 + 1, (j : Int) + 1 + 1, hlt, by omega, rfl, by repeat (first | (with_reducible exact Below.refl _ _) | (with_reducible refine Below.drew ?_) | (with_reducible refine Below.alloc ?_ ?hh _; case hh => first | (simp; done) | (simp; omega) | omega) | (with_reducible refine Below.setCell ?_ ?hh _; case hh => first | (simp; done) | (simp; omega) | omega) | refine bstep (by assumption) (by first | (simp; done) | (simp; omega) | omega) ?_), ?_⟩, by simp [intOf]; omega⟩
                rw [HE.out, HS.out]
                unfold okVw
                rw [HNM.out, HNO.out, HF.out, HQ.out, hcmp]
                simp
    · have HN : Hid (okVs rs none vs = true) := by show _ = _; rw [HE.out, List.drop_eq_nil_of_le (by omega)]; rfl
      have HP : Hid (viewsP rs vs = (okDb rs && decide (vs.length ≤ 10))) := by show _ = _; unfold viewsP; rw [HN.out, Bool.and_true]
      obtain ⟨bo, HBO⟩ : ∃ q, Hid (okDb rs = q) := ⟨_, rfl⟩
      rw [HBO.out] at hDb
      clear ha
      cases bo with
      | false =>
        go_wp2_with (first | (go_at_call 17; refine Calls.mono (hDb _ (by first | exact hb | repeat (first | (with_reducible exact Below.refl _ _) | (with_reducible refine Below.drew ?_) | (with_reducible refine Below.alloc ?_ ?hh _; case hh => first | (simp; done) | (simp; omega) | omega) | (with_reducible refine Below.setCell ?_ ?hh _; case hh => first | (simp; done) | (simp; omega) | omega) | refine bstep (by assumption) (by first | (simp; done) | (simp; omega) | omega) ?_))) ?_; rintro z w1 ⟨rfl, hb1⟩) | fail)
        go_returns
        refine ⟨ret_bool ?_, hb.trans (hb1.mono hzb)⟩
        rw [HP.out, HBO.out]
        rfl
      | true =>
        go_wp2_with (first | (go_at_call 17; refine Calls.mono (hDb _ (by first | exact hb | repeat (first | (with_reducible exact Below.refl _ _) | (with_reducible refine Below.drew ?_) | (with_reducible refine Below.alloc ?_ ?hh _; case hh => first | (simp; done) | (simp; omega) | omega) | (with_reducible refine Below.setCell ?_ ?hh _; case hh => first | (simp; done) | (simp; omega) | omega) | refine bstep (by assumption) (by first | (simp; done) | (simp; omega) | omega) ?_))) ?_; rintro z w1 ⟨rfl, hb1⟩) | fail)
        go_returns
        refine ⟨ret_bool ?_, hb.trans (hb1.mono hzb)⟩
        rw [HP.out, HBO.out, Bool.true_and]
        first | rfl | (rw [Bool.eq_iff_iff]; simp; omega) | (simp; omega)
end Go.Proofs.YtaeibfipcenhaaaGreatDoor
namespace Go.Proofs.YtaeibfipcenhaaaGreatDoor
open Go.RowKit
set_option linter.unusedVariables false
set_option linter.unusedSimpArgs false
set_option maxHeartbeats 2000000 in
theorem viewFn_any (s : ByteArray) (nb : Nat) (u : Value) (x : R3) (w : World) (hv : w.cell? ⟨nb, 0, none⟩ = some (.string s)) (hnb : nb < w.heap.size) (hR : RowsIs w u x.cs) :
    Calls Tryz.prog 24 #[.agg #[.string x.s, .int .i64 x.W, u], .pointer (some ⟨nb, 0, none⟩)] w fun e w' => e = .returned (.bool (x.s.toList == s.toList)) ∧ Below w.heap.size w w' := by
  obtain ⟨a, l, c, rfl⟩ := hR.shape
  go_enter Tryz.func24, Tryz.ntmps24
  go_wp2
  go_returns
  exact ⟨rfl, by repeat (first | (with_reducible exact Below.refl _ _) | (with_reducible refine Below.drew ?_) | (with_reducible refine Below.alloc ?_ ?hh _; case hh => first | (simp; done) | (simp; omega) | omega) | (with_reducible refine Below.setCell ?_ ?hh _; case hh => first | (simp; done) | (simp; omega) | omega) | refine bstep (by assumption) (by first | (simp; done) | (simp; omega) | omega) ?_)⟩
set_option maxHeartbeats 4000000 in
set_option maxRecDepth 100000 in
theorem indexVw_any (s : ByteArray) (nb : Nat) (v : Value) (rs : List R3) (w : World) (hv : w.cell? ⟨nb, 0, none⟩ = some (.string s)) (hnb : nb < w.heap.size) (hr : RelsIs w v rs) :
    Calls Tryz.prog 39 #[v, .func (.func 24) #[] #[.pointer (some ⟨nb, 0, none⟩)]] w fun e w' => (∃ z : Int, e = .returned (.int .i64 z) ∧ IdxOfT rs s z) ∧ Below w.heap.size w w' := by
  obtain ⟨a, c, b, o, rfl, hl, hc, ha⟩ := hr.pick
  unfold maxLen at hc
  clear hr
  go_enter Tryz.func39, Tryz.ntmps39
  go_wp2
  go_loopw [8] (fun i wr => ∃ k : Nat, k ≤ rs.length ∧ i = .int .i64 k ∧ Below w.heap.size w wr ∧ relOf rs s = relOf (rs.drop k) s) (fun i _ => rs.length - (intOf i).toNat)
  case atStart => exact ⟨0, Nat.zero_le _, rfl, by repeat (first | (with_reducible exact Below.refl _ _) | (with_reducible refine Below.drew ?_) | (with_reducible refine Below.alloc ?_ ?hh _; case hh => first | (simp; done) | (simp; omega) | omega) | (with_reducible refine Below.setCell ?_ ?hh _; case hh => first | (simp; done) | (simp; omega) | omega) | refine bstep (by assumption) (by first | (simp; done) | (simp; omega) | omega) ?_), by simp⟩
  case round =>
    obtain ⟨k, hk, rfl, hb, heq⟩ := hrel
    have HE : Hid (relOf rs s = relOf (rs.drop k) s) := heq
    have hzb := hb.size
    have hvr := ((bcell hb).1 _ _ hnb).trans hv
    clear heq
    by_cases hlt : k < rs.length
    · obtain ⟨rfl, hblt, hLr⟩ := ha k hlt
      obtain ⟨x, u, hx, c0, c1, c2, hR, hbr⟩ := hLr.at hblt hb hlt
      have HX : Hid (rs[k]? = some x) := hx
      have HS : Hid (relOf (rs.drop k) s = if (x.s.toList == s.toList) = true then some x else relOf (rs.drop (k + 1)) s) := relOf_step hx
      have hcall := viewFn_any s nb u x wr hvr (by omega) hR
      obtain ⟨au, cu, bu, ou, rfl, _, _, _⟩ := hR.pick
      clear ha hLr hx hR hvr
      cases hh : (x.s.toList == s.toList) with
      | true =>
        rw [hh] at hcall
        have HH : Hid ((x.s.toList == s.toList) = true) := hh
        clear hh
        go_wp2_with fail
        refine Calls.mono hcall ?_
        rintro q w2 ⟨rfl, hb2⟩
        have belE : Below w.heap.size w w2 := hb.trans (hb2.mono hzb)
        clear hcall
        go_wp2_with fail
        go_returns
        exact ⟨⟨k, rfl, .inr ⟨k, x, rfl, HX.out, by rw [HE.out, HS.out, HH.out]; rfl⟩⟩, belE⟩
      | false =>
        rw [hh] at hcall
        have HH : Hid ((x.s.toList == s.toList) = false) := hh
        clear hh
        go_wp2_with fail
        refine Calls.mono hcall ?_
        rintro q w2 ⟨rfl, hb2⟩
        have belE : Below w.heap.size w w2 := hb.trans (hb2.mono hzb)
        clear hcall
        go_wp2_with fail
        exact ⟨⟨k + 1, hlt, by simp, belE, by rw [HE.out, HS.out, HH.out]; rfl⟩, by simp [intOf]; omega⟩
    · obtain rfl : k = rs.length := by omega
      have HT : Hid (relOf rs s = none) := by show _ = _; rw [HE.out, List.drop_length]; rfl
      clear ha
      go_wp2
      go_returns
      exact ⟨⟨-1, rfl, .inl ⟨by omega, HT.out⟩⟩, hb⟩
set_option maxHeartbeats 4000000 in
set_option maxRecDepth 100000 in
theorem containsVw_any (s : ByteArray) (nb : Nat) (v : Value) (rs : List R3) (w : World) (hv : w.cell? ⟨nb, 0, none⟩ = some (.string s)) (hnb : nb < w.heap.size) (hr : RelsIs w v rs) :
    Calls Tryz.prog 23 #[v, .func (.func 24) #[] #[.pointer (some ⟨nb, 0, none⟩)]] w fun e w' => e = .returned (.bool (relOf rs s).isSome) ∧ Below w.heap.size w w' := by
  have hI := fun (w2 : World) (hb : Below w.heap.size w w2) => indexVw_any s nb v rs w2 (((bcell hb).1 _ _ hnb).trans hv) (Nat.lt_of_lt_of_le hnb hb.size) (hr.below hb)
  obtain ⟨a, c, b, o, rfl, _, _, _⟩ := hr.pick
  clear hr
  go_enter Tryz.func23, Tryz.ntmps23
  go_wp2_with fail
  refine Calls.mono (hI _ (by repeat (first | (with_reducible exact Below.refl _ _) | (with_reducible refine Below.drew ?_) | (with_reducible refine Below.alloc ?_ ?hh _; case hh => first | (simp; done) | (simp; omega) | omega) | (with_reducible refine Below.setCell ?_ ?hh _; case hh => first | (simp; done) | (simp; omega) | omega) | refine bstep (by assumption) (by first | (simp; done) | (simp; omega) | omega) ?_))) ?_
  rintro q w2 ⟨⟨z, rfl, hz⟩, hb2⟩
  have bel2 : Below w.heap.size w w2 := by repeat (first | (with_reducible exact Below.refl _ _) | (with_reducible refine Below.drew ?_) | (with_reducible refine Below.alloc ?_ ?hh _; case hh => first | (simp; done) | (simp; omega) | omega) | (with_reducible refine Below.setCell ?_ ?hh _; case hh => first | (simp; done) | (simp; omega) | omega) | refine bstep (by assumption) (by first | (simp; done) | (simp; omega) | omega) ?_)
  clear hI hb2
  rcases hz with ⟨hz, hn⟩ | ⟨k, x, rfl, _, hx⟩
  · go_wp2_with fail
    go_returns
    refine ⟨ret_bool ?_, bel2⟩
    rw [hn]
    simp
    omega
  · go_wp2_with fail
    go_returns
    refine ⟨ret_bool ?_, bel2⟩
    rw [hx]
    simp
set_option maxHeartbeats 16000000 in
set_option maxRecDepth 100000 in
theorem implViews_any (rs : List R3) (vd : Value) (Fd : List Nat) (vs : List V15) (D d N : Nat) (v : Value) (G : List (List Nat)) (w : World) (hrw : RsWf rs) (hR : RelsF w vd rs Fd) (hv : ViewsIs w D d v vs G) (hO : ∀ g ∈ G, Own w N g) (hn : wtV vs ≤ 1048576) (hE : ErrT w) :
    Calls Tryz.prog 9 #[vd, v] w fun x w' => x = .returned (.bool (viewsP rs vs)) ∧ Below w.heap.size w w' := by
  have hDb := fun (w2 : World) (hb : Below w.heap.size w w2) => implDbOk_any vd rs w2 hrw (hR.is.below hb)
  obtain ⟨ad, ld, cd, rfl⟩ := hR.is.shape
  obtain ⟨a, c, b, o, rfl, hl, hc, hG, ha⟩ := hv.pick
  unfold maxLen at hc
  have HP : Hid (viewsP rs vs = (okDb rs && decide (vs.length ≤ 10) && okVs rs none vs)) := rfl
  have HDB : Hid (okDb rs = true → okDb rs = true) := id
  obtain ⟨bo, HBO⟩ : ∃ q, Hid (okDb rs = q) := ⟨_, rfl⟩
  rw [HBO.out] at hDb
  cases bo with
  | false =>
    clear ha hv hO
    go_enter Tryz.func9, Tryz.ntmps9
    go_wp2_with (first | (go_at_call 20; refine Calls.mono (hDb _ (by repeat (first | (with_reducible exact Below.refl _ _) | (with_reducible refine Below.drew ?_) | (with_reducible refine Below.alloc ?_ ?hh _; case hh => first | (simp; done) | (simp; omega) | omega) | (with_reducible refine Below.setCell ?_ ?hh _; case hh => first | (simp; done) | (simp; omega) | omega) | refine bstep (by assumption) (by first | (simp; done) | (simp; omega) | omega) ?_))) ?_; rintro z w1 ⟨rfl, hb1⟩) | fail)
    go_returns
    refine ⟨ret_bool ?_, by repeat (first | (with_reducible exact Below.refl _ _) | (with_reducible refine Below.drew ?_) | (with_reducible refine Below.alloc ?_ ?hh _; case hh => first | (simp; done) | (simp; omega) | omega) | (with_reducible refine Below.setCell ?_ ?hh _; case hh => first | (simp; done) | (simp; omega) | omega) | refine bstep (by assumption) (by first | (simp; done) | (simp; omega) | omega) ?_)⟩
    rw [HP.out, HBO.out]
    rfl
  | true =>
    by_cases h10 : (vs.length : Int) > 10
    · clear ha hv hO
      go_enter Tryz.func9, Tryz.ntmps9
      go_wp2_with (first | (go_at_call 20; refine Calls.mono (hDb _ (by repeat (first | (with_reducible exact Below.refl _ _) | (with_reducible refine Below.drew ?_) | (with_reducible refine Below.alloc ?_ ?hh _; case hh => first | (simp; done) | (simp; omega) | omega) | (with_reducible refine Below.setCell ?_ ?hh _; case hh => first | (simp; done) | (simp; omega) | omega) | refine bstep (by assumption) (by first | (simp; done) | (simp; omega) | omega) ?_))) ?_; rintro z w1 ⟨rfl, hb1⟩) | fail)
      go_returns
      refine ⟨ret_bool ?_, by repeat (first | (with_reducible exact Below.refl _ _) | (with_reducible refine Below.drew ?_) | (with_reducible refine Below.alloc ?_ ?hh _; case hh => first | (simp; done) | (simp; omega) | omega) | (with_reducible refine Below.setCell ?_ ?hh _; case hh => first | (simp; done) | (simp; omega) | omega) | refine bstep (by assumption) (by first | (simp; done) | (simp; omega) | omega) ?_)⟩
      rw [HP.out, decide_eq_false (by omega)]
      simp
    have HB : Hid (viewsP rs vs = okVs rs none vs) := by show _ = _; rw [HP.out, HBO.out, decide_eq_true (by omega)]; rfl
    have hdb := HBO.out
    clear hv
    go_enter Tryz.func9, Tryz.ntmps9
    go_wp2_with (first | (go_at_call 20; refine Calls.mono (hDb _ (by repeat (first | (with_reducible exact Below.refl _ _) | (with_reducible refine Below.drew ?_) | (with_reducible refine Below.alloc ?_ ?hh _; case hh => first | (simp; done) | (simp; omega) | omega) | (with_reducible refine Below.setCell ?_ ?hh _; case hh => first | (simp; done) | (simp; omega) | omega) | refine bstep (by assumption) (by first | (simp; done) | (simp; omega) | omega) ?_))) ?_; rintro z w1 ⟨rfl, hb1⟩) | fail)
    have hb1z := hb1.size
    have belA : Below w.heap.size w w1 := by repeat (first | (with_reducible exact Below.refl _ _) | (with_reducible refine Below.drew ?_) | (with_reducible refine Below.alloc ?_ ?hh _; case hh => first | (simp; done) | (simp; omega) | omega) | (with_reducible refine Below.setCell ?_ ?hh _; case hh => first | (simp; done) | (simp; omega) | omega) | refine bstep (by assumption) (by first | (simp; done) | (simp; omega) | omega) ?_)
    clear hb1 hDb
    go_loopw [17] (fun i wr => ∃ (k : Nat) (q : Int), k ≤ vs.length ∧ q = k ∧ i = .int .i64 q ∧ Below w.heap.size w wr ∧ okVs rs none vs = okVs rs (prevV vs k) (vs.drop k)) (fun i _ => vs.length - (intOf i).toNat)
    case atStart => exact ⟨0, 0, Nat.zero_le _, rfl, rfl, belA, by simp [prevV]⟩
    case round =>
      obtain ⟨k, q, hk, hq, rfl, hb, heq⟩ := hrel
      have HE : Hid (okVs rs none vs = okVs rs (prevV vs k) (vs.drop k)) := heq
      have hzb := hb.size
      clear heq
      by_cases hlt : k < vs.length
      · obtain ⟨rfl, hblt, hL⟩ := ha k hlt
        obtain ⟨x, g, ue, us, u, t, hx, hg, hxw, hcl, hLx, hRx, _⟩ := hL.at hG hblt (Below.refl _ _) hlt
        have HS : Hid (okVs rs (prevV vs k) (vs.drop k) = (okVw rs (prevV vs k) x && okVs rs (prevV vs (k + 1)) (vs.drop (k + 1)))) := okVs_step hx
        have hxn : wtP x.p ≤ 1048576 := by have := wtv_mem (List.mem_of_getElem? hx); unfold wtV at hn; unfold wtv at this; omega
        have hOg := hO g (List.mem_of_getElem? hg)
        have hWd := fun (X : World) (hX : Below w.heap.size w X) => implWidth_any rs x.p ue us u g D d N (.slice ad ld cd) Fd w X hX hdb hxw.2.1 hLx hOg hxn hR hE
        have hNm := fun (X : World) => implName_any x.s X hxw.1
        have hCt := fun (nb : Nat) (X : World) (hX : Below w.heap.size w X) (hv : X.cell? ⟨nb, 0, none⟩ = some (.string x.s)) => containsVw_any x.s nb (.slice ad ld cd) rs X hv (World.block_lt_of_cell? _ _ hv) (hR.is.below hX)
        obtain ⟨nm, HNM⟩ : ∃ q, Hid (nameB x.s = q) := ⟨_, rfl⟩
        obtain ⟨tk, HTK⟩ : ∃ q, Hid ((relOf rs x.s).isSome = q) := ⟨_, rfl⟩
        obtain ⟨wd, HWD⟩ : ∃ q, Hid (widthP rs 9 x.p = q) := ⟨_, rfl⟩
        have HNO : Hid ((relOf rs x.s).isNone = !tk) := by show _ = _; rw [← HTK.out]; cases relOf rs x.s <;> rfl
        rw [HNM.out] at hNm
        rw [HTK.out] at hCt
        rw [HWD.out] at hWd
        obtain ⟨ae, ce, ak, ck, aq, cq, rfl, rfl, rfl, _, _, _, _, _, _⟩ := hLx.shape
        obtain ⟨ar, lr, cr, rfl⟩ := hRx.shape
        obtain ⟨c0, c1, c2, c3, c4, c5, c6, c7, c8, c9, c10, c11, c12, c13, c14⟩ := hcl.keep (hb.block b hblt)
        have hbr : b < wr.heap.size := by omega
        have hkI : (k : Int) < vs.length := by omega
        clear hx hLx hRx hg hxw hOg hcl
        cases nm with
        | false =>
          clear ha hL hWd hCt
          subst hq
          go_wp2_with (first | (go_at_call 21; refine Calls.mono (hNm _) ?_; rintro e w2 ⟨rfl, rfl⟩) | fail)
          go_returns
          refine ⟨ret_bool ?_, by repeat (first | (with_reducible exact Below.refl _ _) | (with_reducible refine Below.drew ?_) | (with_reducible refine Below.alloc ?_ ?hh _; case hh => first | (simp; done) | (simp; omega) | omega) | (with_reducible refine Below.setCell ?_ ?hh _; case hh => first | (simp; done) | (simp; omega) | omega) | refine bstep (by assumption) (by first | (simp; done) | (simp; omega) | omega) ?_)⟩
          rw [HB.out, HE.out, HS.out]
          unfold okVw
          rw [HNM.out]
          simp
        | true =>
          by_cases hw0 : wd < 0
          · have HF : Hid (decide (0 ≤ widthP rs 9 x.p) = false) := by show _ = _; rw [HWD.out]; exact decide_eq_false (by omega)
            clear ha hL hCt
            subst hq
            go_wp2_with (first | (go_at_call 21; refine Calls.mono (hNm _) ?_; rintro e w2 ⟨rfl, rfl⟩) | (go_at_call 22; refine Calls.mono (hWd _ (by repeat (first | (with_reducible exact Below.refl _ _) | (with_reducible refine Below.drew ?_) | (with_reducible refine Below.alloc ?_ ?hh _; case hh => first | (simp; done) | (simp; omega) | omega) | (with_reducible refine Below.setCell ?_ ?hh _; case hh => first | (simp; done) | (simp; omega) | omega) | refine bstep (by assumption) (by first | (simp; done) | (simp; omega) | omega) ?_))) ?_; rintro e w3 ⟨⟨z, rfl, _, hz⟩, hb3⟩; obtain rfl := hz hw0; have hz3 := hb3.size; (try simp at hz3)) | fail)
            go_returns
            refine ⟨ret_bool ?_, by repeat (first | (with_reducible exact Below.refl _ _) | (with_reducible refine Below.drew ?_) | (with_reducible refine Below.alloc ?_ ?hh _; case hh => first | (simp; done) | (simp; omega) | omega) | (with_reducible refine Below.setCell ?_ ?hh _; case hh => first | (simp; done) | (simp; omega) | omega) | refine bstep (by assumption) (by first | (simp; done) | (simp; omega) | omega) ?_)⟩
            rw [HB.out, HE.out, HS.out]
            unfold okVw
            rw [HF.out]
            simp
          have HF : Hid (decide (0 ≤ widthP rs 9 x.p) = true) := by show _ = _; rw [HWD.out]; exact decide_eq_true (by omega)
          rcases Nat.eq_zero_or_pos k with hk0 | hk0
          · subst hk0
            obtain rfl : q = 0 := by simpa using hq
            rw [Nat.zero_mul, Nat.add_zero] at c0 c1 c2 c3 c4 c5 c6 c7 c8 c9 c10 c11 c12 c13 c14
            clear ha hL hq
            go_wp2_with (first | (go_at_call 21; refine Calls.mono (hNm _) ?_; rintro e w2 ⟨rfl, rfl⟩) | (go_at_call 22; refine Calls.mono (hWd _ (by repeat (first | (with_reducible exact Below.refl _ _) | (with_reducible refine Below.drew ?_) | (with_reducible refine Below.alloc ?_ ?hh _; case hh => first | (simp; done) | (simp; omega) | omega) | (with_reducible refine Below.setCell ?_ ?hh _; case hh => first | (simp; done) | (simp; omega) | omega) | refine bstep (by assumption) (by first | (simp; done) | (simp; omega) | omega) ?_))) ?_; rintro e w3 ⟨⟨z, rfl, hz, _⟩, hb3⟩; obtain rfl := hz (by omega); have hz3 := hb3.size; (try simp at hz3); have n3 : w3.cell? ⟨wr.heap.size, 0, none⟩ = some (.string x.s) := cell_later hb3 (by go_simp); have bel3 : Below w.heap.size w w3 := by repeat (first | (with_reducible exact Below.refl _ _) | (with_reducible refine Below.drew ?_) | (with_reducible refine Below.alloc ?_ ?hh _; case hh => first | (simp; done) | (simp; omega) | omega) | (with_reducible refine Below.setCell ?_ ?hh _; case hh => first | (simp; done) | (simp; omega) | omega) | refine bstep (by assumption) (by first | (simp; done) | (simp; omega) | omega) ?_)) | fail)
            go_region
            have bel4 : Below w.heap.size w w3.drew := Below.drew bel3
            have n4 : w3.drew.cell? ⟨wr.heap.size, 0, none⟩ = some (.string x.s) := by first | exact n3 | (simpa using n3)
            have hCx := hCt _ _ bel4 n4
            clear hCt hWd hNm
            cases tk with
            | true =>
              go_wp2_with fail
              refine Calls.mono hCx ?_
              rintro e w4 ⟨rfl, hb4⟩
              go_wp2_with fail
              go_returns
              refine ⟨ret_bool ?_, bel4.trans (hb4.mono bel4.size)⟩
              rw [HB.out, HE.out, HS.out]
              unfold okVw
              rw [HNO.out]
              simp
            | false =>
              go_wp2_with fail
              refine Calls.mono hCx ?_
              rintro e w4 ⟨rfl, hb4⟩
              go_wp2_with fail
              refine ⟨⟨1, 1, hlt, rfl, by simp, bel4.trans (hb4.mono bel4.size), ?_⟩, by simp [intOf]; omega⟩
              rw [HE.out, HS.out]
              unfold okVw
              rw [HNM.out, HNO.out, HF.out, prevV_zero]
              simp [okPrevV]
          · obtain ⟨j, rfl⟩ : ∃ j, k = j + 1 := ⟨k - 1, by omega⟩
            obtain rfl : q = (j : Int) + 1 := by omega
            obtain ⟨y, _, _, _, _, _, hy, _, _, hd, _, _, _⟩ := hL.at hG hblt hb (show j < vs.length by omega)
            have d0 := hd.1
            have HPV : Hid (prevV vs (j + 1) = some y) := prevV_succ hy
            have HQ : Hid (okPrevV (prevV vs (j + 1)) x = Op.bytesLess y.s.toList x.s.toList) := by rw [HPV.out]; rfl
            clear ha hL hy hq hd
            go_wp2_with (first | (go_at_call 21; refine Calls.mono (hNm _) ?_; rintro e w2 ⟨rfl, rfl⟩) | (go_at_call 22; refine Calls.mono (hWd _ (by repeat (first | (with_reducible exact Below.refl _ _) | (with_reducible refine Below.drew ?_) | (with_reducible refine Below.alloc ?_ ?hh _; case hh => first | (simp; done) | (simp; omega) | omega) | (with_reducible refine Below.setCell ?_ ?hh _; case hh => first | (simp; done) | (simp; omega) | omega) | refine bstep (by assumption) (by first | (simp; done) | (simp; omega) | omega) ?_))) ?_; rintro e w3 ⟨⟨z, rfl, hz, _⟩, hb3⟩; obtain rfl := hz (by omega); have hz3 := hb3.size; (try simp at hz3); have n3 : w3.cell? ⟨wr.heap.size, 0, none⟩ = some (.string x.s) := cell_later hb3 (by go_simp); have d3 : w3.cell? ⟨b, o + j * 15, none⟩ = some (.string y.s) := cell_later hb3 (by go_simp); have bel3 : Below w.heap.size w w3 := by repeat (first | (with_reducible exact Below.refl _ _) | (with_reducible refine Below.drew ?_) | (with_reducible refine Below.alloc ?_ ?hh _; case hh => first | (simp; done) | (simp; omega) | omega) | (with_reducible refine Below.setCell ?_ ?hh _; case hh => first | (simp; done) | (simp; omega) | omega) | refine bstep (by assumption) (by first | (simp; done) | (simp; omega) | omega) ?_)) | fail)
            have hw1 : IntKind.i64.wrap (j : Int) = j := by rw [IntKind.wrap_i64]; omega
            have hw2 : IntKind.i64.wrap ((j : Int) + 1 - 1) = j := by rw [IntKind.wrap_i64]; omega
            have hi0 : (0 : Int) ≤ j := by omega
            have hi1 : (j : Int) < vs.length := by omega
            have hi2 : (0 : Int) < (j : Int) + 1 := by omega
            clear c0 c1 c2 c3 c4 c5 c6 c7 c8 c9 c10 c11 c12 c13 c14 d0 hb3
            go_region_held3 (fun w' => w'.cell? ⟨wr.heap.size, 0, none⟩ = some (.string x.s) ∧ w'.cell? ⟨b, o + j * 15, none⟩ = some (.string y.s)) (refine ⟨?_, ?_⟩ <;> first | (with_reducible assumption) | (go_simp; done) | (exact cell_later (by assumption) (by go_simp))) (fail)
            rename_i hHeld
            obtain ⟨n4, _⟩ := hHeld
            have bel4 : Below w.heap.size w w3.drew := Below.drew bel3
            have hCx := hCt _ _ bel4 n4
            clear hCt hWd hNm
            go_wp2_with fail
            · have hcf : Op.bytesLess y.s.toList x.s.toList = false := by
                have h9 : (!Op.bytesLess y.s.toList x.s.toList) = true := by assumption
                simpa using h9
              go_returns
              refine ⟨ret_bool ?_, bel4⟩
              rw [HB.out, HE.out, HS.out]
              unfold okVw
              rw [HQ.out, hcf]
              simp
            · have hcmp : Op.bytesLess y.s.toList x.s.toList = true := by
                have h9 : (!Op.bytesLess y.s.toList x.s.toList) = false := by assumption
                simpa using h9
              cases tk with
              | true =>
                try go_wp2_with fail
                refine Calls.mono hCx ?_
                rintro e w4 ⟨rfl, hb4⟩
                go_wp2_with fail
                go_returns
                refine ⟨ret_bool ?_, bel4.trans (hb4.mono bel4.size)⟩
                rw [HB.out, HE.out, HS.out]
                unfold okVw
                rw [HNO.out]
                simp
              | false =>
                try go_wp2_with fail
                refine Calls.mono hCx ?_
                rintro e w4 ⟨rfl, hb4⟩
                go_wp2_with fail
                refine ⟨⟨j + 1 + 1, (j : Int) + 1 + 1, hlt, by omega, by simp, bel4.trans (hb4.mono bel4.size), ?_⟩, by simp [intOf]; omega⟩
                rw [HE.out, HS.out]
                unfold okVw
                rw [HNM.out, HNO.out, HF.out, HQ.out, hcmp]
                simp
      · clear ha
        go_wp2
        go_returns
        refine ⟨ret_bool ?_, hb⟩
        rw [HB.out, HE.out, List.drop_eq_nil_of_le (by omega)]
        rfl
end Go.Proofs.YtaeibfipcenhaaaGreatDoor
namespace Go.Proofs.YtaeibfipcenhaaaGreatDoor.fnExactViewsOk
open Go.RowKit
set_option linter.unusedVariables false
set_option linter.unusedSimpArgs false
set_option maxHeartbeats 4000000 in
set_option maxRecDepth 100000 in
theorem walk (v : Value) (rs : List R3) (hwr : RsWf rs) (v' : Value) (vs : List V15) (D d : Nat) (G : List (List Nat)) (w : World) (hq : RelsIs w v rs) (hh : ViewsIs w D d v' vs G) (hE : ErrT w) :
    Calls Tryz.prog 3 #[v, v'] w fun x w' => x = .returned (.bool true) ∧ Below w.heap.size w w' := by
  obtain ⟨a, l, c, rfl⟩ := hq.shape
  obtain ⟨a', c', rfl, _⟩ := hh.shape
  obtain ⟨tb, hT⟩ : ∃ tb, Hid (viewsP rs vs = tb) := ⟨_, rfl⟩
  go_enter Tryz.func3, Tryz.ntmps3
  go_wp2_with fail
  refine Calls.mono (szRelS_any (.slice a l c) rs 1048576 w hq hwr (by decide) (by decide)) ?_
  rintro x w1 ⟨⟨z1, rfl, l1, g1, s1⟩, hbw⟩
  replace hq := hq.below hbw
  replace hh := hh.below hbw
  by_cases hn1 : z1 < 0
  · go_wp2_with fail
    go_returns
    exact ⟨rfl, hbw⟩
  have hnq : wtR rs ≤ 1048576 := by have := s1 (by omega); omega
  clear s1
  go_wp2_with fail
  refine Calls.mono (szViewS_any D d (.slice a' vs.length c') vs G z1 w1 hh (by omega) (by omega)) ?_
  rintro x w2 ⟨⟨z2, rfl, l2, g2, s2⟩, hb2⟩
  replace hq := hq.below hb2
  replace hh := hh.below hb2
  replace hbw : Below w.heap.size w w2 := hbw.trans (hb2.mono hbw.size)
  by_cases hn2 : z2 < 0
  · go_wp2_with fail
    go_returns
    exact ⟨rfl, hbw⟩
  have hnh : wtV vs ≤ 1048576 := by have := s2 (by omega); omega
  clear s2 hb2
  go_wp2_with fail
  refine Calls.mono (toRelS_F (.slice a l c) rs w2 hq hnq) ?_
  rintro x w3 ⟨⟨u3, F3, rfl, hU3, _⟩, hb3⟩
  replace hq := hq.below hb3
  replace hh := hh.below hb3
  replace hbw : Below w.heap.size w w3 := hbw.trans (hb3.mono hbw.size)
  clear hb3
  obtain ⟨a3, l3, c3, rfl⟩ := hU3.is.shape
  go_wp2_with fail
  refine Calls.mono (toViewS_any D d (.slice a' vs.length c') vs G w3 hh hnh) ?_
  rintro x w4 ⟨⟨u4, G4, rfl, hU4, _⟩, hb4⟩
  replace hq := hq.below hb4
  replace hh := hh.below hb4
  replace hbw : Below w.heap.size w w4 := hbw.trans (hb4.mono hbw.size)
  replace hU3 := hU3.below hb4
  clear hb4
  obtain ⟨a4, c4, rfl, _⟩ := hU4.shape
  go_wp2_with fail
  refine Calls.mono (specViews_any rs (.slice a3 l3 c3) F3 vs D d (.slice a4 vs.length c4) G4 w4 hwr hU3 hU4 hnh) ?_
  rw [hT.out]
  rintro x w5 ⟨rfl, hb5⟩
  replace hq := hq.below hb5
  replace hh := hh.below hb5
  replace hbw : Below w.heap.size w w5 := hbw.trans (hb5.mono hbw.size)
  clear hb5 hU3 hU4
  go_wp2_with fail
  refine Calls.mono (toRelS_F (.slice a l c) rs w5 hq hnq) ?_
  rintro x w6 ⟨⟨u6, F6, rfl, hU6, _⟩, hb6⟩
  replace hq := hq.below hb6
  replace hh := hh.below hb6
  replace hbw : Below w.heap.size w w6 := hbw.trans (hb6.mono hbw.size)
  clear hb6
  obtain ⟨a6, l6, c6, rfl⟩ := hU6.is.shape
  go_wp2_with fail
  refine Calls.mono (toViewS_any D d (.slice a' vs.length c') vs G w6 hh hnh) ?_
  rintro x w7 ⟨⟨u7, G7, rfl, hU7, hO7⟩, hb7⟩
  replace hq := hq.below hb7
  replace hh := hh.below hb7
  replace hbw : Below w.heap.size w w7 := hbw.trans (hb7.mono hbw.size)
  replace hU6 := hU6.below hb7
  clear hb7
  obtain ⟨a7, c7, rfl, _⟩ := hU7.shape
  go_wp2_with fail
  refine Calls.mono (implViews_any rs (.slice a6 l6 c6) F6 vs D d _ (.slice a7 vs.length c7) G7 w7 hwr hU6 hU7 hO7 hnh (hE.below hbw)) ?_
  rw [hT.out]
  rintro x w8 ⟨rfl, hb8⟩
  replace hq := hq.below hb8
  replace hh := hh.below hb8
  replace hbw : Below w.heap.size w w8 := hbw.trans (hb8.mono hbw.size)
  replace hU6 := hU6.below hb8
  replace hU7 := hU7.below hb8
  clear hb8 hO7
  have hnn : (tb != tb) = false := by simp
  cases tb <;> (
    go_wp2_with fail
    refine Calls.mono (toRelS_F (.slice a l c) rs _ (hq.below (by repeat (first | (with_reducible exact Below.refl _ _) | (with_reducible refine Below.drew ?_) | (with_reducible refine Below.alloc ?_ ?hh _; case hh => first | (simp; done) | (simp; omega) | omega) | (with_reducible refine Below.setCell ?_ ?hh _; case hh => first | (simp; done) | (simp; omega) | omega) | refine bstep (by assumption) (by first | (simp; done) | (simp; omega) | omega) ?_))) hnq) ?_
    rintro x w9 ⟨⟨u9, F9, rfl, hU9, _⟩, hb9⟩
    have hx9 : Below w8.heap.size w8 w9 := by repeat (first | (with_reducible exact Below.refl _ _) | (with_reducible refine Below.drew ?_) | (with_reducible refine Below.alloc ?_ ?hh _; case hh => first | (simp; done) | (simp; omega) | omega) | (with_reducible refine Below.setCell ?_ ?hh _; case hh => first | (simp; done) | (simp; omega) | omega) | refine bstep (by assumption) (by first | (simp; done) | (simp; omega) | omega) ?_)
    replace hq := hq.below hx9
    replace hh := hh.below hx9
    have hbw9 : Below w.heap.size w w9 := hbw.trans (hx9.mono hbw.size)
    replace hU6 := hU6.below hx9
    replace hU7 := hU7.below hx9
    obtain ⟨a9, l9, c9, rfl⟩ := hU9.is.shape
    clear hb9 hx9 hbw
    go_wp2_with fail
    refine Calls.mono (eqRelS_same (.slice a6 l6 c6) (.slice a9 l9 c9) rs w9 hU6.is hU9.is) ?_
    rintro x w10 ⟨rfl, hb10⟩
    replace hh := hh.below hb10
    have hbw10 : Below w.heap.size w w10 := hbw9.trans (hb10.mono hbw9.size)
    replace hU7 := hU7.below hb10
    clear hb10 hbw9
    go_wp2_with fail
    refine Calls.mono (toViewS_any D d (.slice a' vs.length c') vs G _ (hh.below (by repeat (first | (with_reducible exact Below.refl _ _) | (with_reducible refine Below.drew ?_) | (with_reducible refine Below.alloc ?_ ?hh _; case hh => first | (simp; done) | (simp; omega) | omega) | (with_reducible refine Below.setCell ?_ ?hh _; case hh => first | (simp; done) | (simp; omega) | omega) | refine bstep (by assumption) (by first | (simp; done) | (simp; omega) | omega) ?_))) hnh) ?_
    rintro x w11 ⟨⟨u11, G11, rfl, hU11, _⟩, hb11⟩
    have hx11 : Below w10.heap.size w10 w11 := by repeat (first | (with_reducible exact Below.refl _ _) | (with_reducible refine Below.drew ?_) | (with_reducible refine Below.alloc ?_ ?hh _; case hh => first | (simp; done) | (simp; omega) | omega) | (with_reducible refine Below.setCell ?_ ?hh _; case hh => first | (simp; done) | (simp; omega) | omega) | refine bstep (by assumption) (by first | (simp; done) | (simp; omega) | omega) ?_)
    have hbw11 : Below w.heap.size w w11 := hbw10.trans (hx11.mono hbw10.size)
    replace hU7 := hU7.below hx11
    obtain ⟨a11, c11, rfl, _⟩ := hU11.shape
    clear hb11 hx11 hbw10
    go_wp2_with fail
    refine Calls.mono (eqViewS_same D d (.slice a7 vs.length c7) (.slice a11 vs.length c11) vs G7 G11 w11 hU7 hU11) ?_
    rintro x w12 ⟨rfl, hb12⟩
    have hbw12 : Below w.heap.size w w12 := hbw11.trans (hb12.mono hbw11.size)
    go_wp2_with fail
    go_returns
    exact ⟨rfl, hbw12⟩)
end Go.Proofs.YtaeibfipcenhaaaGreatDoor.fnExactViewsOk
namespace Go.Proofs.YtaeibfipcenhaaaGreatDoor.fnExactViewsOk
open Go.ChangeShapes Go.WideShapes Go.ChangeAt Go.RowKit Go.Joins
open Go.ChangeMaps (open_string shut_string)
set_option linter.unusedVariables false
theorem own : ownKnob Tryz.prog.godebug = none := by kernel_rfl
theorem laidOut : laidOutB Tryz.prog = true := by kernel_rfl
theorem gErr : Tryz.prog.globalNamed "errors.errorType" = some 0 := by kernel_rfl
theorem tRty : (Tryz.prog.cutTypes.find? (·.1 == "internal/reflectlite.rtype")).map (·.2) = some 175 := by kernel_rfl
theorem oneErr : ((List.range 276).filter fun t => Tryz.prog.rowNamed t [101, 114, 114, 111, 114]) = [87] := by kernel_rfl
theorem nTypes : Tryz.prog.types.size = 276 := by kernel_rfl
theorem of_laid {W : World} (h : laidMetH Tryz.prog Rows.fnExactViewsOkRow.laid W) : ErrT W := by
  have h' : laidMet Tryz.prog [] W ∧ handlesMet Tryz.prog Rows.fnExactViewsOkRow.laid W := h
  obtain ⟨name, u, ty, e1, e2, e3, e4, e5⟩ := h'.2 _ (List.mem_singleton.2 rfl)
  have en : name = [101, 114, 114, 111, 114] := (Option.some.inj e1).symm
  subst en
  obtain rfl := Option.some.inj (tRty.symm.trans e2)
  have hm : ty ∈ (List.range 276).filter fun t => Tryz.prog.rowNamed t [101, 114, 114, 111, 114] := List.mem_filter.2 ⟨List.mem_range.2 (by rw [← nTypes]; exact e3), e4⟩
  rw [oneErr] at hm
  obtain rfl := List.mem_singleton.1 hm
  have hh : typeHandle Tryz.prog 87 = .pointer (some ⟨1, 87, none⟩) := by kernel_rfl
  rw [hh] at e5
  unfold ErrT
  simpa using World.var?_cell gErr e5 0
set_option maxHeartbeats 4000000 in
set_option maxRecDepth 100000 in
theorem lifted (os : Os) (started : os.Started) (H : Type) (enc : TypeId × Value → H) :
    ReturnsInHanded {} Tryz.checked os 3 .any ((OpenSpec.ofChange Rows.fnExactViewsOkSpec).preRow enc Tryz.prog Tryz.f3 [] false Rows.fnExactViewsOkRow.laid) (((OpenSpec.ofChange Rows.fnExactViewsOkSpec).at (fun _ _ _ => 0)).post enc Tryz.prog Tryz.f3 false true false false) := by
  refine returnsInHanded_of_row (C := Tryz.checked) (s := OpenSpec.ofChange Rows.fnExactViewsOkSpec) (F := fun _ _ _ => 0) own started (by kernel_rfl) Tryz.func3
    (ChangeSpec.witness_shaped (enc := enc) (C := Tryz.checked) (os := os) (s := Rows.fnExactViewsOkSpec) (X := fun w _ => laidMetH Tryz.prog Rows.fnExactViewsOkRow.laid w) false { World.holding Tryz.prog os ⟨#[], #[], []⟩ with heap := (World.holding Tryz.prog os ⟨#[], #[], []⟩).heap.modify 0 fun | .cells _ t fr => .cells #[.iface 175 (.agg #[.pointer (some ⟨1, 87, none⟩)])] t fr | o => o } #[.slice none 0 0, .slice none 0 0] 8 rfl
      (World.shaped_of_ZipB (by kernel_rfl) (by kernel_rfl)) (by kernel_rfl) (by kernel_rfl) (by kernel_rfl)
      (laidMetH_of_parts (laidMet_nil _ _) (by kernel_rfl))) ?_
  intro W base args ds gs before hval0 hW _ _ _ hL hsh _
  have hval : ∀ (j : Nat) t v, Tryz.f3.params[j]? = some t → args[j]? = some v → Value.okWide Tryz.prog W .any base t v := hval0
  have hW' := hW
  obtain ⟨p, q, hA0, hV, rfl, hfz, hnd⟩ := hW
  have hA : DataW.TrodAll enc Tryz.prog W 0 (fun _ => true) true Tryz.f3.params.toList args.toList ds p := hA0
  rw [Tryz.params3] at hA hval
  obtain ⟨v0, vs0, d0, ds0, p0, q0, hargs, rfl, rfl, h0, r0⟩ := trodAll_cons hA
  obtain ⟨v1, vs1, d1, ds1, p1, q1, rfl, rfl, rfl, h1, r1⟩ := trodAll_cons r0
  obtain ⟨rfl, rfl, rfl⟩ := trodAll_nil r1
  obtain rfl : args = #[v0, v1] := by cases args; simp_all
  obtain ⟨rfl, rfl⟩ := trodVars_none hV
  have k0 := h0
  have lt0 : ∀ x ∈ p0, x.block < W.heap.size := by obtain ⟨m, hm⟩ := k0; exact DataW.trod_lt m _ _ _ hm
  obtain ⟨al0, ll0, cl0, rfl⟩ := okWide_slice Tryz.underlying22 (hval 0 22 v0 rfl rfl)
  obtain ⟨fu0, hfu0⟩ := h0
  obtain ⟨rs0, hr0, hw0⟩ := open_rels (w := W) (v := .slice al0 ll0 cl0) Tryz.underlying22 Tryz.underlying39 (by kernel_rfl) rfl rfl (by kernel_rfl) (by kernel_rfl) Tryz.underlying9 Tryz.underlying37 rfl rfl (by kernel_rfl) (by kernel_rfl) Tryz.underlying3 Tryz.underlying35 Tryz.underlying123 (by kernel_rfl) rfl rfl (by kernel_rfl) (by kernel_rfl) Tryz.underlying121 Tryz.underlying3 Tryz.underlying42 (by kernel_rfl) rfl rfl rfl (by kernel_rfl) (by kernel_rfl) (by kernel_rfl) Tryz.underlying3 Tryz.underlying3 Tryz.underlying9 (by simpa [Value.cells] using hfu0)
  have k1 := h1
  have lt1 : ∀ x ∈ p1, x.block < W.heap.size := by obtain ⟨m, hm⟩ := k1; exact DataW.trod_lt m _ _ _ hm
  obtain ⟨al1, ll1, cl1, rfl⟩ := okWide_slice Tryz.underlying23 (hval 1 23 v1 rfl rfl)
  obtain ⟨fu1, hfu1⟩ := h1
  obtain ⟨vs1', D1, d1', G1, hr1⟩ := open_views (w := W) (v := .slice al1 ll1 cl1) (by simpa [Value.cells] using hfu1)
  clear hA0 hval0
  have hE : ErrT W := of_laid hL
  refine (walk (.slice al0 ll0 cl0) rs0 hw0 (.slice al1 ll1 cl1) vs1' D1 d1' G1 W hr0 hr1 hE).mono fun e W' ⟨he, bel⟩ => ?_
  subst he
  exact ⟨_, rfl, _, _, _, [], _, [], hW', trodAll_mk1 (shut_bool Tryz.underlying4 _), (trodAll_cons_mk (Below.trod laidOut (by kernel_rfl) (of_decide_eq_true (by kernel_rfl)) k0 bel lt0) (trodAll_cons_mk (Below.trod laidOut (by kernel_rfl) (of_decide_eq_true (by kernel_rfl)) k1 bel lt1) trodAll_mk0)), rfl, bel.frame _, fun h => by cases h⟩
theorem over : Rows.FnExactViewsOkSaid :=
  OpenClaim.holds_of_wide 3 Tryz.f3 rfl rfl rfl rfl rfl rfl rfl ⟨rfl, rfl, rfl, rfl, rfl⟩ rfl rfl rfl rfl rfl (by kernel_rfl) Tryz.func3 (by kernel_rfl)
    (of_decide_eq_true (by kernel_rfl)) (by unfold Func.isWrapper; first | (rw [if_pos (by decide +kernel)]; kernel_rfl) | (rw [if_neg (by decide +kernel)]; exact ⟨rfl, rfl⟩))
    (fun os started H enc _ => lifted os started H enc)
theorem card : Rows.FnExactViewsOkCardSaid :=
  Claim7.holds_tied_plain_at .later [] [.handle] true (true, "2360176ef469512bff2a6e5e7e5b8593ef9c68dac2a0743f7750297b03923297") true
    over (fun _ h => by cases h) (by kernel_rfl) (fun _ h => by cases h) fnExactViewsOk_row_tie rfl ⟨rfl, rfl⟩ (by kernel_rfl) rfl
    (fun f fn hf hfn => by
      obtain rfl : f = 3 := Option.some.inj ((show Tryz.prog.funcNamed "loop.example/g00312/laws.FnExactViewsOk" = some 3 by kernel_rfl).symm.trans hf) |>.symm
      obtain rfl : fn = Tryz.f3 := (Option.some.inj (Tryz.func3.symm.trans hfn)).symm
      exact ⟨by kernel_rfl, fun j t ht => by
        rw [Tryz.params3] at ht
        have hm : t ∈ [22, 23] := by simpa using Array.mem_of_getElem? ht
        have hall : ([22, 23].all fun u => !Tryz.prog.wantsStandIn u) = true := by kernel_rfl
        exact (show Tryz.prog.wantsStandIn t = false by simpa using List.all_eq_true.1 hall t hm)⟩)
    (by kernel_rfl)
end Go.Proofs.YtaeibfipcenhaaaGreatDoor.fnExactViewsOk
namespace Go.Proofs.YtaeibfipcenhaaaGreatDoor
/-- the given statement. -/
theorem fnExactViewsOk_card_holds : Rows.FnExactViewsOkCardSaid := fnExactViewsOk.card
end Go.Proofs.YtaeibfipcenhaaaGreatDoor
