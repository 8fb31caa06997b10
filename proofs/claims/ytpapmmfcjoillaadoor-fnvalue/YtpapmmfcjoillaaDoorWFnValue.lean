/- Own text. The walk of FnValue. -/
import Derived.Test.YtpapmmfcjoillaaDoorDrG
import Derived.Test.YtpapmmfcjoillaaDoorDrH
import Derived.Test.YtpapmmfcjoillaaDoorDrI
import Derived.Test.YtpapmmfcjoillaaDoorFvQ
import Derived.Test.YtpapmmfcjoillaaDoorFvF
import Derived.Test.YtpapmmfcjoillaaDoorVtI
import Derived.Test.YtpapmmfcjoillaaDoorVtS
import Derived.Test.YtpapmmfcjoillaaDoorTake
import Derived.Test.YtpapmmfcjoillaaDoorBigA
import Derived.WalkKit
import Derived.WalkSpells
import Derived.WalkLawsBesides
import Derived.Handy
import Derived.Below
import Derived.Deep.RegionHeld3
import Derived.Deep.DeepCutAuto
namespace Go.Proofs.YtpapmmfcjoillaaDoor.fnValue
open Go.RowKit Go.Deep
set_option linter.unusedVariables false
theorem neV (k n k' n' : Int) (s s' : ByteArray) (w : World) : (binOp .neq 25 (.agg #[.int .i64 k, .int .i64 n, .string s]) (.agg #[.int .i64 k', .int .i64 n', .string s'])).run Tryd.prog w = .ok (.bool (!(k == k' && (n == n' && s.toList == s'.toList)))) w := by
  have h := eqV k n k' n' s s' w
  rw [run_eql_struct] at h
  rw [run_neq_struct]
  revert h
  cases (Op.equalIn 10000 25 (.agg #[.int .i64 k, .int .i64 n, .string s]) (.agg #[.int .i64 k', .int .i64 n', .string s'])).run Tryd.prog w <;> intro h <;> simp_all [Result.andThen]
theorem neS (k n : Int) (s : ByteArray) (w : World) : (binOp .neq 25 (.agg #[.int .i64 k, .int .i64 n, .string s]) (.agg #[.int .i64 k, .int .i64 n, .string s])).run Tryd.prog w = .ok (.bool false) w := by
  rw [neV]; simp
theorem cmpV_bd (k n : Int) (s : ByteArray) (k' n' : Int) (s' : ByteArray) : -1 ≤ cmpV k n s k' n' s' ∧ cmpV k n s k' n' s' ≤ 1 := by
  unfold cmpV orI cmpI cmpS
  repeat' split
  all_goals omega
theorem putS_ne (k n : Int) (s : ByteArray) (h0 : -9223372036854775808 ≤ n) (h1 : n ≤ 9223372036854775807) (hok : okB k n s = true) : ((putS k n s).toList == []) = false := by
  have h := put_get k n s h0 h1 hok
  cases e : ((putS k n s).toList == [])
  · rfl
  · exfalso
    rw [nil_of (putS k n s) (by simpa using e)] at h
    have h2 := congrArg (fun x => x.2.2.2) h
    have h3 : (getT (⟨#[97]⟩ ++ ⟨#[]⟩ ++ ⟨#[98]⟩) 1).2.2.2 = -1 := by decide
    rw [show (getT (⟨#[97]⟩ ++ ⟨#[]⟩ ++ ⟨#[98]⟩) 1).2.2.2 = 1 + ((⟨#[]⟩ : ByteArray).size : Int) from h2] at h3
    exact absurd h3 (by decide)
set_option maxHeartbeats 60000000 in
set_option maxRecDepth 100000 in
theorem walk_small (a : Option Addr) (l c : Nat) (w : World) (hB : BytesB w w.heap.size (.slice a l c) l) (hE : Env w) :
    Calls Tryd.prog 3 #[.slice a l c] w fun x w' => x = .returned (.bool true) ∧ Below w.heap.size w w' := by
  have hl : l ≤ 1048576 := by obtain ⟨_, _, _, _, h, _⟩ := hB; exact h
  have hd : decide ((1048576 : Int) < l) = false := by simp; omega
  go_enter Tryd.func3, Tryd.ntmps3
  go_wp2_with fail
  refine (big_any a l c _ (by omega)).mono ?_
  rintro x w ⟨rfl, rfl⟩
  rw [hd]
  clear hd
  go_wp2_with fail
  refine (drawCompare_any _ l _ hB).mono ?_
  rintro x w1 ⟨⟨k, n, s, k', n', s', rfl, n0, n1, hs, n0', n1', hs'⟩, hb1⟩
  have hz1 := hb1.size
  have hA := (VarV.new w1 k n s 25).alloc (.cells #[.int .i64 k', .int .i64 n', .string s'] 25)
  have hC := VarV.new (w1.alloc (.cells #[.int .i64 k, .int .i64 n, .string s] 25)) k' n' s' 25
  rw [show (w1.alloc (.cells #[.int .i64 k, .int .i64 n, .string s] 25)).heap.size = w1.heap.size + 1 by simp] at hC
  have hbw : Below w.heap.size w ((w1.alloc (.cells #[.int .i64 k, .int .i64 n, .string s] 25)).alloc (.cells #[.int .i64 k', .int .i64 n', .string s'] 25)) := by repeat (first | (with_reducible exact Below.refl _ _) | (with_reducible refine Below.drew ?_) | (with_reducible refine Below.alloc ?_ ?hh _; case hh => first | (simp; done) | (simp; omega) | omega) | (with_reducible refine Below.setCell ?_ ?hh _; case hh => first | (simp; done) | (simp; omega) | omega) | refine bstep (by assumption) (by first | (simp; done) | (simp; omega) | omega) ?_)
  have hzw := hbw.size
  clear hb1 hz1
  go_wp2_with fail
  refine (implCmp_any k n k' n' s s' _).mono ?_
  rintro x w2 ⟨rfl, hb2⟩
  have hz := hb2.size
  (try simp at hz)
  replace hA := hA.below hb2
  replace hC := hC.below hb2
  replace hbw : Below w.heap.size w w2 := hbw.trans (hb2.mono hzw)
  replace hzw := hbw.size
  clear hb2 hz
  go_wp2_with fail
  refine (drawPut_any _ l _ (hB.up hbw hzw)).mono ?_
  rintro x w3 ⟨⟨xk, xn, xs, rfl, xk0, xk1, xn0, xn1, hxs⟩, hb3⟩
  have hz := hb3.size
  (try simp at hz)
  replace hA := hA.below hb3
  replace hC := hC.below hb3
  replace hbw : Below w.heap.size w w3 := hbw.trans (hb3.mono hzw)
  replace hzw := hbw.size
  clear hb3 hz
  have hX := VarV.new w3 xk xn xs 25
  replace hA := hA.alloc (.cells #[.int .i64 xk, .int .i64 xn, .string xs] 25)
  replace hC := hC.alloc (.cells #[.int .i64 xk, .int .i64 xn, .string xs] 25)
  replace hbw : Below w.heap.size w (w3.alloc (.cells #[.int .i64 xk, .int .i64 xn, .string xs] 25)) := hbw.trans ((Below.refl _ _).alloc hzw _)
  replace hzw := hbw.size
  go_wp2_with fail
  refine (implPut_any xk xn xs _ (by unfold maxLen; omega)).mono ?_
  rintro x w4 ⟨rfl, hb4⟩
  have hz := hb4.size
  (try simp at hz)
  replace hA := hA.below hb4
  replace hC := hC.below hb4
  replace hX := hX.below hb4
  replace hbw : Below w.heap.size w w4 := hbw.trans (hb4.mono hzw)
  replace hzw := hbw.size
  clear hb4 hz
  go_wp2_with fail
  refine (drawGet_any _ l _ (hB.up hbw hzw)).mono ?_
  rintro x w5 ⟨⟨u, i, rfl, hu, i0, i1⟩, hb5⟩
  have hz := hb5.size
  (try simp at hz)
  replace hA := hA.below hb5
  replace hC := hC.below hb5
  replace hX := hX.below hb5
  replace hbw : Below w.heap.size w w5 := hbw.trans (hb5.mono hzw)
  replace hzw := hbw.size
  clear hb5 hz
  go_wp2_with fail
  obtain ⟨gk, gn, gs, gj, hgT⟩ : ∃ gk gn gs gj, getT u i = (gk, gn, gs, gj) := ⟨_, _, _, _, rfl⟩
  have IG : Hid (∀ w, Calls Tryd.prog 10 #[.string u, .int .i64 i] w fun e w' => e = .returned (.tuple #[(.agg #[.int .i64 gk, .int .i64 gn, .string gs]), .int .i64 gj]) ∧ Below w.heap.size w w') := fun w => by have := implGet_any u i w (by omega); rw [hgT] at this; exact this
  have SG : Hid (∀ w, Calls Tryd.prog 11 #[.string u, .int .i64 i] w fun e w' => e = .returned (.tuple #[(.agg #[.int .i64 gk, .int .i64 gn, .string gs]), .int .i64 gj]) ∧ Below w.heap.size w w') := fun w => by have := specGet_any u i w (by omega); rw [hgT] at this; exact this
  have GP : Hid (0 ≤ gj → 0 ≤ i ∧ i < gj ∧ gj ≤ u.size ∧ putS gk gn gs = u.extract i.toNat gj.toNat ∧ gs.size ≤ 100) := fun h => by
    have hj : tJ u i = gj := by unfold tJ; rw [hgT]
    have hv : tV u i = ⟨gk, gn, gs⟩ := by unfold tV; rw [hgT]
    obtain ⟨p1, p2, p3, p4⟩ := get_put u i (by rw [hj]; exact h)
    obtain ⟨_, _, _, _, _, _, _, _, _, p5⟩ := get_round u i (by rw [hj]; exact h)
    rw [hj] at p2 p3 p4
    rw [hv] at p4 p5
    exact ⟨p1, p2, p3, p4, p5⟩
  clear hgT
  refine (IG.out _).mono ?_
  rintro x w6 ⟨rfl, hb6⟩
  have hz := hb6.size
  (try simp at hz)
  replace hA := hA.below hb6
  replace hC := hC.below hb6
  replace hX := hX.below hb6
  replace hbw : Below w.heap.size w w6 := hbw.trans (hb6.mono hzw)
  replace hzw := hbw.size
  clear hb6 hz
  have hG := VarV.new w6 gk gn gs 25
  replace hA := hA.alloc (.cells #[.int .i64 gk, .int .i64 gn, .string gs] 25)
  replace hC := hC.alloc (.cells #[.int .i64 gk, .int .i64 gn, .string gs] 25)
  replace hX := hX.alloc (.cells #[.int .i64 gk, .int .i64 gn, .string gs] 25)
  replace hbw : Below w.heap.size w (w6.alloc (.cells #[.int .i64 gk, .int .i64 gn, .string gs] 25)) := hbw.trans ((Below.refl _ _).alloc hzw _)
  replace hzw := hbw.size
  go_wp2_with fail
  refine (SG.out _).mono ?_
  rintro x w7 ⟨rfl, hb7⟩
  have hz := hb7.size
  (try simp at hz)
  replace hA := hA.below hb7
  replace hC := hC.below hb7
  replace hX := hX.below hb7
  replace hG := hG.below hb7
  replace hbw : Below w.heap.size w w7 := hbw.trans (hb7.mono hzw)
  replace hzw := hbw.size
  clear hb7 hz
  have hH := VarV.new w7 gk gn gs 25
  replace hA := hA.alloc (.cells #[.int .i64 gk, .int .i64 gn, .string gs] 25)
  replace hC := hC.alloc (.cells #[.int .i64 gk, .int .i64 gn, .string gs] 25)
  replace hX := hX.alloc (.cells #[.int .i64 gk, .int .i64 gn, .string gs] 25)
  replace hG := hG.alloc (.cells #[.int .i64 gk, .int .i64 gn, .string gs] 25)
  replace hbw : Below w.heap.size w (w7.alloc (.cells #[.int .i64 gk, .int .i64 gn, .string gs] 25)) := hbw.trans ((Below.refl _ _).alloc hzw _)
  replace hzw := hbw.size
  go_wp2_with fail
  refine (drawName_any _ l _ (hB.up hbw hzw)).mono ?_
  rintro x w8 ⟨⟨nm, rfl, hnm⟩, hb8⟩
  have hz := hb8.size
  (try simp at hz)
  replace hA := hA.below hb8
  replace hC := hC.below hb8
  replace hX := hX.below hb8
  replace hG := hG.below hb8
  replace hH := hH.below hb8
  replace hbw : Below w.heap.size w w8 := hbw.trans (hb8.mono hzw)
  replace hzw := hbw.size
  clear hb8 hz
  go_wp2_with fail
  refine (drawDec_any _ l _ (hB.up hbw hzw)).mono ?_
  rintro x w9 ⟨⟨d, rfl, d0, d1⟩, hb9⟩
  have hz := hb9.size
  (try simp at hz)
  replace hA := hA.below hb9
  replace hC := hC.below hb9
  replace hX := hX.below hb9
  replace hG := hG.below hb9
  replace hH := hH.below hb9
  replace hbw : Below w.heap.size w w9 := hbw.trans (hb9.mono hzw)
  replace hzw := hbw.size
  clear hb9 hz
  go_wp2_with fail
  clear IG SG hB xk0 xk1
  have hE9 : Env w9 := hE.below hbw
  clear hE
  obtain ⟨bA, ebA⟩ : ∃ b, b = w1.heap.size := ⟨_, rfl⟩
  obtain ⟨bC, ebC⟩ : ∃ b, b = w1.heap.size + 1 := ⟨_, rfl⟩
  obtain ⟨bX, ebX⟩ : ∃ b, b = w3.heap.size := ⟨_, rfl⟩
  obtain ⟨bG, ebG⟩ : ∃ b, b = w6.heap.size := ⟨_, rfl⟩
  obtain ⟨bH, ebH⟩ : ∃ b, b = w7.heap.size := ⟨_, rfl⟩
  rw [← ebC, ← ebA, ← ebX, ← ebG, ← ebH]
  rw [← ebA] at hA
  rw [← ebC] at hC
  rw [← ebX] at hX
  rw [← ebG] at hG
  rw [← ebH] at hH
  clear ebA ebC ebX ebG ebH
  obtain ⟨c0, ec0⟩ : ∃ c, cmpV k n s k' n' s' = c := ⟨_, rfl⟩
  have hcb : -1 ≤ c0 ∧ c0 ≤ 1 := by rw [← ec0]; exact cmpV_bd _ _ _ _ _ _
  have ef : Hid (cmpV k' n' s' k n s = -c0) := by show _ = _; rw [cmpV_flip, ec0]
  have ec : Hid (cmpV k n s k' n' s' = c0) := ec0
  rw [ec0]
  have qe : ∀ w : World, (binOp .eql 25 (.agg #[.int .i64 k, .int .i64 n, .string s]) (.agg #[.int .i64 k', .int .i64 n', .string s'])).run Tryd.prog w = .ok (.bool (c0 == 0)) w := fun w => by rw [eqV, ← cmpV_0, ec0]
  clear ec0
  have x1 : wrap64 c0 = c0 := by unfold wrap64; omega
  have x3 : IntKind.i64.wrap c0 = c0 := by rcases (show c0 = -1 ∨ c0 = 0 ∨ c0 = 1 by omega) with rfl | rfl | rfl <;> decide
  have q2 := neS gk gn gs
  have IN : Hid (∀ w, Calls Tryd.prog 20 #[.string nm] w fun e w' => e = .returned (.bool (nameB nm)) ∧ Below w.heap.size w w') := fun w => (implName_any nm w (by unfold maxLen; omega)).mono (by rintro e w' ⟨rfl, rfl⟩; exact ⟨rfl, Below.refl _ _⟩)
  have SN : Hid (∀ w, Calls Tryd.prog 21 #[.string nm] w fun e w' => e = .returned (.bool (nameB nm)) ∧ Below w.heap.size w w') := fun w => (specName_any nm w (by unfold maxLen; omega)).mono (by rintro e w' ⟨rfl, rfl⟩; exact ⟨rfl, Below.refl _ _⟩)
  have SD : Hid (∀ w, Calls Tryd.prog 23 #[.int .i64 d] w fun e w' => e = .returned (.string (bs (Lib.itoa d))) ∧ Below w.heap.size w w') := fun w => (specDec_any d w d0 d1).mono (by rintro e w' ⟨rfl, rfl⟩; exact ⟨rfl, Below.refl _ _⟩)
  go_cut [117] (fun v wz => v = .bool false ∧ Below w9.heap.size w9 wz)
  case first =>
    as_aux_lemma =>
      refine wp_region_held_drew (S := (fun w' => VarV w' bA k n s ∧ VarV w' bC k' n' s' ∧ VarV w' bX xk xn xs ∧ VarV w' bG gk gn gs ∧ VarV w' bH gk gn gs)) (by kernel_rfl) ?_ (fun hHeld => ?_)
      · exact ⟨hA.below (by repeat (first | (with_reducible exact Below.refl _ _) | (with_reducible refine Below.drew ?_) | (with_reducible refine Below.alloc ?_ ?hh _; case hh => first | (simp; done) | (simp; omega) | omega) | (with_reducible refine Below.setCell ?_ ?hh _; case hh => first | (simp; done) | (simp; omega) | omega) | refine bstep (by assumption) (by first | (simp; done) | (simp; omega) | omega) ?_)), hC.below (by repeat (first | (with_reducible exact Below.refl _ _) | (with_reducible refine Below.drew ?_) | (with_reducible refine Below.alloc ?_ ?hh _; case hh => first | (simp; done) | (simp; omega) | omega) | (with_reducible refine Below.setCell ?_ ?hh _; case hh => first | (simp; done) | (simp; omega) | omega) | refine bstep (by assumption) (by first | (simp; done) | (simp; omega) | omega) ?_)), hX.below (by repeat (first | (with_reducible exact Below.refl _ _) | (with_reducible refine Below.drew ?_) | (with_reducible refine Below.alloc ?_ ?hh _; case hh => first | (simp; done) | (simp; omega) | omega) | (with_reducible refine Below.setCell ?_ ?hh _; case hh => first | (simp; done) | (simp; omega) | omega) | refine bstep (by assumption) (by first | (simp; done) | (simp; omega) | omega) ?_)), hG.below (by repeat (first | (with_reducible exact Below.refl _ _) | (with_reducible refine Below.drew ?_) | (with_reducible refine Below.alloc ?_ ?hh _; case hh => first | (simp; done) | (simp; omega) | omega) | (with_reducible refine Below.setCell ?_ ?hh _; case hh => first | (simp; done) | (simp; omega) | omega) | refine bstep (by assumption) (by first | (simp; done) | (simp; omega) | omega) ?_)), hH.below (by repeat (first | (with_reducible exact Below.refl _ _) | (with_reducible refine Below.drew ?_) | (with_reducible refine Below.alloc ?_ ?hh _; case hh => first | (simp; done) | (simp; omega) | omega) | (with_reducible refine Below.setCell ?_ ?hh _; case hh => first | (simp; done) | (simp; omega) | omega) | refine bstep (by assumption) (by first | (simp; done) | (simp; omega) | omega) ?_))⟩
      refine takeYes (i := 0) (d := 53) (v := ?_) rfl rfl (by kernel_rfl) (by kernel_rfl) (by kernel_rfl) (fun _ _ _ h => h) (by rfl) (by assumption) ?_ ?_
      rotate_left
      · intro w' hSw; obtain ⟨⟨_, _, a0, a1, a2⟩, ⟨_, _, c0', c1, c2⟩, ⟨_, _, v0, v1, v2⟩, ⟨_, _, y0, y1, y2⟩, ⟨_, _, z0, z1, z2⟩⟩ := hSw; go_simp; try exact rfl
      try simp only [List.setIfInBounds_toArray, List.set_cons_zero, List.set_cons_succ]
      refine takeYes (i := 1) (d := 54) (v := ?_) rfl rfl (by kernel_rfl) (by kernel_rfl) (by kernel_rfl) (fun _ _ _ h => h) (by rfl) (by assumption) ?_ ?_
      rotate_left
      · intro w' hSw; obtain ⟨⟨_, _, a0, a1, a2⟩, ⟨_, _, c0', c1, c2⟩, ⟨_, _, v0, v1, v2⟩, ⟨_, _, y0, y1, y2⟩, ⟨_, _, z0, z1, z2⟩⟩ := hSw; go_simp; try exact rfl
      try simp only [List.setIfInBounds_toArray, List.set_cons_zero, List.set_cons_succ]
      refine takeYes (i := 2) (d := 55) (v := ?_) rfl rfl (by kernel_rfl) (by kernel_rfl) (by kernel_rfl) (fun _ _ _ h => h) (by rfl) (by assumption) ?_ ?_
      rotate_left
      · intro w' hSw; obtain ⟨⟨_, _, a0, a1, a2⟩, ⟨_, _, c0', c1, c2⟩, ⟨_, _, v0, v1, v2⟩, ⟨_, _, y0, y1, y2⟩, ⟨_, _, z0, z1, z2⟩⟩ := hSw; go_simp; try exact rfl
      try simp only [List.setIfInBounds_toArray, List.set_cons_zero, List.set_cons_succ]
      refine wpAnyH_ready (rs := [3]) (by kernel_rfl) (by simp) ?_
      refine AllReadyH.cons rfl (fun KK hKK => ?_) AllReadyH.nil
      go_simp
      go_at_call 14
      refine Calls.mono (specCmp_any k n k' n' s s' _) ?_
      rintro x w10 ⟨rfl, hb10⟩
      have hz10 := hb10.size
      (try simp at hz10)
      rw [ec.out]
      try go_wp2_with fail
      refine hKK.out _ _ ?_ (fun hHeld3 => ?_)
      · exact ⟨hA.below (by repeat (first | (with_reducible exact Below.refl _ _) | (with_reducible refine Below.drew ?_) | (with_reducible refine Below.alloc ?_ ?hh _; case hh => first | (simp; done) | (simp; omega) | omega) | (with_reducible refine Below.setCell ?_ ?hh _; case hh => first | (simp; done) | (simp; omega) | omega) | refine bstep (by assumption) (by first | (simp; done) | (simp; omega) | omega) ?_)), hC.below (by repeat (first | (with_reducible exact Below.refl _ _) | (with_reducible refine Below.drew ?_) | (with_reducible refine Below.alloc ?_ ?hh _; case hh => first | (simp; done) | (simp; omega) | omega) | (with_reducible refine Below.setCell ?_ ?hh _; case hh => first | (simp; done) | (simp; omega) | omega) | refine bstep (by assumption) (by first | (simp; done) | (simp; omega) | omega) ?_)), hX.below (by repeat (first | (with_reducible exact Below.refl _ _) | (with_reducible refine Below.drew ?_) | (with_reducible refine Below.alloc ?_ ?hh _; case hh => first | (simp; done) | (simp; omega) | omega) | (with_reducible refine Below.setCell ?_ ?hh _; case hh => first | (simp; done) | (simp; omega) | omega) | refine bstep (by assumption) (by first | (simp; done) | (simp; omega) | omega) ?_)), hG.below (by repeat (first | (with_reducible exact Below.refl _ _) | (with_reducible refine Below.drew ?_) | (with_reducible refine Below.alloc ?_ ?hh _; case hh => first | (simp; done) | (simp; omega) | omega) | (with_reducible refine Below.setCell ?_ ?hh _; case hh => first | (simp; done) | (simp; omega) | omega) | refine bstep (by assumption) (by first | (simp; done) | (simp; omega) | omega) ?_)), hH.below (by repeat (first | (with_reducible exact Below.refl _ _) | (with_reducible refine Below.drew ?_) | (with_reducible refine Below.alloc ?_ ?hh _; case hh => first | (simp; done) | (simp; omega) | omega) | (with_reducible refine Below.setCell ?_ ?hh _; case hh => first | (simp; done) | (simp; omega) | omega) | refine bstep (by assumption) (by first | (simp; done) | (simp; omega) | omega) ?_))⟩
      clear hKK
      refine takeYes (i := 4) (d := 57) (v := ?_) rfl rfl (by kernel_rfl) (by kernel_rfl) (by kernel_rfl) (fun _ _ _ h => h) (by rfl) (by assumption) ?_ ?_
      rotate_left
      · intro w' hSw; obtain ⟨⟨_, _, a0, a1, a2⟩, ⟨_, _, c0', c1, c2⟩, ⟨_, _, v0, v1, v2⟩, ⟨_, _, y0, y1, y2⟩, ⟨_, _, z0, z1, z2⟩⟩ := hSw; go_simp; try exact rfl
      try simp only [List.setIfInBounds_toArray, List.set_cons_zero, List.set_cons_succ]
      refine takeYes (i := 5) (d := 58) (v := ?_) rfl rfl (by kernel_rfl) (by kernel_rfl) (by kernel_rfl) (fun _ _ _ h => h) (by rfl) (by assumption) ?_ ?_
      rotate_left
      · intro w' hSw; obtain ⟨⟨_, _, a0, a1, a2⟩, ⟨_, _, c0', c1, c2⟩, ⟨_, _, v0, v1, v2⟩, ⟨_, _, y0, y1, y2⟩, ⟨_, _, z0, z1, z2⟩⟩ := hSw; go_simp; try exact rfl
      try simp only [List.setIfInBounds_toArray, List.set_cons_zero, List.set_cons_succ]
      refine takeYes (i := 6) (d := 59) (v := ?_) rfl rfl (by kernel_rfl) (by kernel_rfl) (by kernel_rfl) (fun _ _ _ h => h) (by rfl) (by assumption) ?_ ?_
      rotate_left
      · intro w' hSw; obtain ⟨⟨_, _, a0, a1, a2⟩, ⟨_, _, c0', c1, c2⟩, ⟨_, _, v0, v1, v2⟩, ⟨_, _, y0, y1, y2⟩, ⟨_, _, z0, z1, z2⟩⟩ := hSw; go_simp; try exact rfl
      try simp only [List.setIfInBounds_toArray, List.set_cons_zero, List.set_cons_succ]
      refine takeYes (i := 7) (d := 60) (v := ?_) rfl rfl (by kernel_rfl) (by kernel_rfl) (by kernel_rfl) (fun _ _ _ h => h) (by rfl) (by assumption) ?_ ?_
      rotate_left
      · intro w' hSw; obtain ⟨⟨_, _, a0, a1, a2⟩, ⟨_, _, c0', c1, c2⟩, ⟨_, _, v0, v1, v2⟩, ⟨_, _, y0, y1, y2⟩, ⟨_, _, z0, z1, z2⟩⟩ := hSw; go_simp; try exact rfl
      try simp only [List.setIfInBounds_toArray, List.set_cons_zero, List.set_cons_succ]
      refine takeYes (i := 8) (d := 61) (v := ?_) rfl rfl (by kernel_rfl) (by kernel_rfl) (by kernel_rfl) (fun _ _ _ h => h) (by rfl) (by assumption) ?_ ?_
      rotate_left
      · intro w' hSw; obtain ⟨⟨_, _, a0, a1, a2⟩, ⟨_, _, c0', c1, c2⟩, ⟨_, _, v0, v1, v2⟩, ⟨_, _, y0, y1, y2⟩, ⟨_, _, z0, z1, z2⟩⟩ := hSw; go_simp; try exact rfl
      try simp only [List.setIfInBounds_toArray, List.set_cons_zero, List.set_cons_succ]
      refine wpAnyH_ready (rs := [9]) (by kernel_rfl) (by simp) ?_
      refine AllReadyH.cons rfl (fun KK hKK => ?_) AllReadyH.nil
      go_simp
      go_at_call 6
      refine Calls.mono (implCmp_any k' n' k n s' s _) ?_
      rintro x w11 ⟨rfl, hb11⟩
      have hz11 := hb11.size
      (try simp at hz11)
      rw [ef.out]
      try go_wp2_with fail
      refine hKK.out _ _ ?_ (fun hHeld9 => ?_)
      · exact ⟨hA.below (by repeat (first | (with_reducible exact Below.refl _ _) | (with_reducible refine Below.drew ?_) | (with_reducible refine Below.alloc ?_ ?hh _; case hh => first | (simp; done) | (simp; omega) | omega) | (with_reducible refine Below.setCell ?_ ?hh _; case hh => first | (simp; done) | (simp; omega) | omega) | refine bstep (by assumption) (by first | (simp; done) | (simp; omega) | omega) ?_)), hC.below (by repeat (first | (with_reducible exact Below.refl _ _) | (with_reducible refine Below.drew ?_) | (with_reducible refine Below.alloc ?_ ?hh _; case hh => first | (simp; done) | (simp; omega) | omega) | (with_reducible refine Below.setCell ?_ ?hh _; case hh => first | (simp; done) | (simp; omega) | omega) | refine bstep (by assumption) (by first | (simp; done) | (simp; omega) | omega) ?_)), hX.below (by repeat (first | (with_reducible exact Below.refl _ _) | (with_reducible refine Below.drew ?_) | (with_reducible refine Below.alloc ?_ ?hh _; case hh => first | (simp; done) | (simp; omega) | omega) | (with_reducible refine Below.setCell ?_ ?hh _; case hh => first | (simp; done) | (simp; omega) | omega) | refine bstep (by assumption) (by first | (simp; done) | (simp; omega) | omega) ?_)), hG.below (by repeat (first | (with_reducible exact Below.refl _ _) | (with_reducible refine Below.drew ?_) | (with_reducible refine Below.alloc ?_ ?hh _; case hh => first | (simp; done) | (simp; omega) | omega) | (with_reducible refine Below.setCell ?_ ?hh _; case hh => first | (simp; done) | (simp; omega) | omega) | refine bstep (by assumption) (by first | (simp; done) | (simp; omega) | omega) ?_)), hH.below (by repeat (first | (with_reducible exact Below.refl _ _) | (with_reducible refine Below.drew ?_) | (with_reducible refine Below.alloc ?_ ?hh _; case hh => first | (simp; done) | (simp; omega) | omega) | (with_reducible refine Below.setCell ?_ ?hh _; case hh => first | (simp; done) | (simp; omega) | omega) | refine bstep (by assumption) (by first | (simp; done) | (simp; omega) | omega) ?_))⟩
      clear hKK
      refine takeYes (i := 10) (d := 63) (v := ?_) rfl rfl (by kernel_rfl) (by kernel_rfl) (by kernel_rfl) (fun _ _ _ h => h) (by rfl) (by assumption) ?_ ?_
      rotate_left
      · intro w' hSw; obtain ⟨⟨_, _, a0, a1, a2⟩, ⟨_, _, c0', c1, c2⟩, ⟨_, _, v0, v1, v2⟩, ⟨_, _, y0, y1, y2⟩, ⟨_, _, z0, z1, z2⟩⟩ := hSw; go_simp; try exact rfl
      try simp only [List.setIfInBounds_toArray, List.set_cons_zero, List.set_cons_succ]
      refine takeYes (i := 11) (d := 64) (v := ?_) rfl rfl (by kernel_rfl) (by kernel_rfl) (by kernel_rfl) (fun _ _ _ h => h) (by rfl) (by assumption) ?_ ?_
      rotate_left
      · intro w' hSw; obtain ⟨⟨_, _, a0, a1, a2⟩, ⟨_, _, c0', c1, c2⟩, ⟨_, _, v0, v1, v2⟩, ⟨_, _, y0, y1, y2⟩, ⟨_, _, z0, z1, z2⟩⟩ := hSw; go_simp; try exact rfl
      try simp only [List.setIfInBounds_toArray, List.set_cons_zero, List.set_cons_succ]
      refine takeYes (i := 12) (d := 65) (v := ?_) rfl rfl (by kernel_rfl) (by kernel_rfl) (by kernel_rfl) (fun _ _ _ h => h) (by rfl) (by assumption) ?_ ?_
      rotate_left
      · intro w' hSw; obtain ⟨⟨_, _, a0, a1, a2⟩, ⟨_, _, c0', c1, c2⟩, ⟨_, _, v0, v1, v2⟩, ⟨_, _, y0, y1, y2⟩, ⟨_, _, z0, z1, z2⟩⟩ := hSw; go_simp; try exact rfl
      try simp only [List.setIfInBounds_toArray, List.set_cons_zero, List.set_cons_succ]
      refine takeYes (i := 13) (d := 66) (v := ?_) rfl rfl (by kernel_rfl) (by kernel_rfl) (by kernel_rfl) (fun _ _ _ h => h) (by rfl) (by assumption) ?_ ?_
      rotate_left
      · intro w' hSw; obtain ⟨⟨_, _, a0, a1, a2⟩, ⟨_, _, c0', c1, c2⟩, ⟨_, _, v0, v1, v2⟩, ⟨_, _, y0, y1, y2⟩, ⟨_, _, z0, z1, z2⟩⟩ := hSw; go_simp; try exact rfl
      try simp only [List.setIfInBounds_toArray, List.set_cons_zero, List.set_cons_succ]
      refine takeYes (i := 14) (d := 67) (v := ?_) rfl rfl (by kernel_rfl) (by kernel_rfl) (by kernel_rfl) (fun _ _ _ h => h) (by rfl) (by assumption) ?_ ?_
      rotate_left
      · intro w' hSw; obtain ⟨⟨_, _, a0, a1, a2⟩, ⟨_, _, c0', c1, c2⟩, ⟨_, _, v0, v1, v2⟩, ⟨_, _, y0, y1, y2⟩, ⟨_, _, z0, z1, z2⟩⟩ := hSw; go_simp; try exact rfl
      try simp only [List.setIfInBounds_toArray, List.set_cons_zero, List.set_cons_succ]
      refine takeYes (i := 15) (d := 68) (v := ?_) rfl rfl (by kernel_rfl) (by kernel_rfl) (by kernel_rfl) (fun _ _ _ h => h) (by rfl) (by assumption) ?_ ?_
      rotate_left
      · intro w' hSw; obtain ⟨⟨_, _, a0, a1, a2⟩, ⟨_, _, c0', c1, c2⟩, ⟨_, _, v0, v1, v2⟩, ⟨_, _, y0, y1, y2⟩, ⟨_, _, z0, z1, z2⟩⟩ := hSw; go_simp; try exact rfl
      try simp only [List.setIfInBounds_toArray, List.set_cons_zero, List.set_cons_succ]
      refine takeYes (i := 16) (d := 69) (v := ?_) rfl rfl (by kernel_rfl) (by kernel_rfl) (by kernel_rfl) (fun _ _ _ h => h) (by rfl) (by assumption) ?_ ?_
      rotate_left
      · intro w' hSw; obtain ⟨⟨_, _, a0, a1, a2⟩, ⟨_, _, c0', c1, c2⟩, ⟨_, _, v0, v1, v2⟩, ⟨_, _, y0, y1, y2⟩, ⟨_, _, z0, z1, z2⟩⟩ := hSw; go_simp; try exact rfl
      try simp only [List.setIfInBounds_toArray, List.set_cons_zero, List.set_cons_succ]
      refine takeYes (i := 17) (d := 70) (v := ?_) rfl rfl (by kernel_rfl) (by kernel_rfl) (by kernel_rfl) (fun _ _ _ h => h) (by rfl) (by assumption) ?_ ?_
      rotate_left
      · intro w' hSw; obtain ⟨⟨_, _, a0, a1, a2⟩, ⟨_, _, c0', c1, c2⟩, ⟨_, _, v0, v1, v2⟩, ⟨_, _, y0, y1, y2⟩, ⟨_, _, z0, z1, z2⟩⟩ := hSw; go_simp; try exact rfl
      try simp only [List.setIfInBounds_toArray, List.set_cons_zero, List.set_cons_succ]
      refine takeYes (i := 18) (d := 71) (v := ?_) rfl rfl (by kernel_rfl) (by kernel_rfl) (by kernel_rfl) (fun _ _ _ h => h) (by rfl) (by assumption) ?_ ?_
      rotate_left
      · intro w' hSw; obtain ⟨⟨_, _, a0, a1, a2⟩, ⟨_, _, c0', c1, c2⟩, ⟨_, _, v0, v1, v2⟩, ⟨_, _, y0, y1, y2⟩, ⟨_, _, z0, z1, z2⟩⟩ := hSw; go_simp; try exact rfl
      try simp only [List.setIfInBounds_toArray, List.set_cons_zero, List.set_cons_succ]
      refine takeYes (i := 19) (d := 72) (v := ?_) rfl rfl (by kernel_rfl) (by kernel_rfl) (by kernel_rfl) (fun _ _ _ h => h) (by rfl) (by assumption) ?_ ?_
      rotate_left
      · intro w' hSw; obtain ⟨⟨_, _, a0, a1, a2⟩, ⟨_, _, c0', c1, c2⟩, ⟨_, _, v0, v1, v2⟩, ⟨_, _, y0, y1, y2⟩, ⟨_, _, z0, z1, z2⟩⟩ := hSw; go_simp; try exact rfl
      try simp only [List.setIfInBounds_toArray, List.set_cons_zero, List.set_cons_succ]
      refine takeYes (i := 20) (d := 73) (v := ?_) rfl rfl (by kernel_rfl) (by kernel_rfl) (by kernel_rfl) (fun _ _ _ h => h) (by rfl) (by assumption) ?_ ?_
      rotate_left
      · intro w' hSw; obtain ⟨⟨_, _, a0, a1, a2⟩, ⟨_, _, c0', c1, c2⟩, ⟨_, _, v0, v1, v2⟩, ⟨_, _, y0, y1, y2⟩, ⟨_, _, z0, z1, z2⟩⟩ := hSw; go_simp; try exact rfl
      try simp only [List.setIfInBounds_toArray, List.set_cons_zero, List.set_cons_succ]
      refine takeYes (i := 21) (d := 74) (v := ?_) rfl rfl (by kernel_rfl) (by kernel_rfl) (by kernel_rfl) (fun _ _ _ h => h) (by rfl) (by assumption) ?_ ?_
      rotate_left
      · intro w' hSw; obtain ⟨⟨_, _, a0, a1, a2⟩, ⟨_, _, c0', c1, c2⟩, ⟨_, _, v0, v1, v2⟩, ⟨_, _, y0, y1, y2⟩, ⟨_, _, z0, z1, z2⟩⟩ := hSw; go_simp; try exact rfl
      try simp only [List.setIfInBounds_toArray, List.set_cons_zero, List.set_cons_succ]
      refine takeYes (i := 22) (d := 75) (v := ?_) rfl rfl (by kernel_rfl) (by kernel_rfl) (by kernel_rfl) (fun _ _ _ h => h) (by rfl) (by assumption) ?_ ?_
      rotate_left
      · intro w' hSw; obtain ⟨⟨_, _, a0, a1, a2⟩, ⟨_, _, c0', c1, c2⟩, ⟨_, _, v0, v1, v2⟩, ⟨_, _, y0, y1, y2⟩, ⟨_, _, z0, z1, z2⟩⟩ := hSw; go_simp; try exact rfl
      try simp only [List.setIfInBounds_toArray, List.set_cons_zero, List.set_cons_succ]
      refine takeYes (i := 23) (d := 76) (v := ?_) rfl rfl (by kernel_rfl) (by kernel_rfl) (by kernel_rfl) (fun _ _ _ h => h) (by rfl) (by assumption) ?_ ?_
      rotate_left
      · intro w' hSw; obtain ⟨⟨_, _, a0, a1, a2⟩, ⟨_, _, c0', c1, c2⟩, ⟨_, _, v0, v1, v2⟩, ⟨_, _, y0, y1, y2⟩, ⟨_, _, z0, z1, z2⟩⟩ := hSw; go_simp; try exact rfl
      try simp only [List.setIfInBounds_toArray, List.set_cons_zero, List.set_cons_succ]
      refine wpAnyH_ready (rs := [24]) (by kernel_rfl) (by simp) ?_
      refine AllReadyH.cons rfl (fun KK hKK => ?_) AllReadyH.nil
      go_simp
      go_at_call 15
      refine Calls.mono (specPut_any xk xn xs _ (by unfold maxLen; omega)) ?_
      rintro x w12 ⟨rfl, hb12⟩
      have hz12 := hb12.size
      (try simp at hz12)
      try go_wp2_with fail
      refine hKK.out _ _ ?_ (fun hHeld24 => ?_)
      · exact ⟨hA.below (by repeat (first | (with_reducible exact Below.refl _ _) | (with_reducible refine Below.drew ?_) | (with_reducible refine Below.alloc ?_ ?hh _; case hh => first | (simp; done) | (simp; omega) | omega) | (with_reducible refine Below.setCell ?_ ?hh _; case hh => first | (simp; done) | (simp; omega) | omega) | refine bstep (by assumption) (by first | (simp; done) | (simp; omega) | omega) ?_)), hC.below (by repeat (first | (with_reducible exact Below.refl _ _) | (with_reducible refine Below.drew ?_) | (with_reducible refine Below.alloc ?_ ?hh _; case hh => first | (simp; done) | (simp; omega) | omega) | (with_reducible refine Below.setCell ?_ ?hh _; case hh => first | (simp; done) | (simp; omega) | omega) | refine bstep (by assumption) (by first | (simp; done) | (simp; omega) | omega) ?_)), hX.below (by repeat (first | (with_reducible exact Below.refl _ _) | (with_reducible refine Below.drew ?_) | (with_reducible refine Below.alloc ?_ ?hh _; case hh => first | (simp; done) | (simp; omega) | omega) | (with_reducible refine Below.setCell ?_ ?hh _; case hh => first | (simp; done) | (simp; omega) | omega) | refine bstep (by assumption) (by first | (simp; done) | (simp; omega) | omega) ?_)), hG.below (by repeat (first | (with_reducible exact Below.refl _ _) | (with_reducible refine Below.drew ?_) | (with_reducible refine Below.alloc ?_ ?hh _; case hh => first | (simp; done) | (simp; omega) | omega) | (with_reducible refine Below.setCell ?_ ?hh _; case hh => first | (simp; done) | (simp; omega) | omega) | refine bstep (by assumption) (by first | (simp; done) | (simp; omega) | omega) ?_)), hH.below (by repeat (first | (with_reducible exact Below.refl _ _) | (with_reducible refine Below.drew ?_) | (with_reducible refine Below.alloc ?_ ?hh _; case hh => first | (simp; done) | (simp; omega) | omega) | (with_reducible refine Below.setCell ?_ ?hh _; case hh => first | (simp; done) | (simp; omega) | omega) | refine bstep (by assumption) (by first | (simp; done) | (simp; omega) | omega) ?_))⟩
      clear hKK
      refine takeYes (i := 25) (d := 78) (v := ?_) rfl rfl (by kernel_rfl) (by kernel_rfl) (by kernel_rfl) (fun _ _ _ h => h) (by rfl) (by assumption) ?_ ?_
      rotate_left
      · intro w' hSw; obtain ⟨⟨_, _, a0, a1, a2⟩, ⟨_, _, c0', c1, c2⟩, ⟨_, _, v0, v1, v2⟩, ⟨_, _, y0, y1, y2⟩, ⟨_, _, z0, z1, z2⟩⟩ := hSw; go_simp; try exact rfl
      try simp only [List.setIfInBounds_toArray, List.set_cons_zero, List.set_cons_succ]
      refine takeYes (i := 26) (d := 79) (v := ?_) rfl rfl (by kernel_rfl) (by kernel_rfl) (by kernel_rfl) (fun _ _ _ h => h) (by rfl) (by assumption) ?_ ?_
      rotate_left
      · intro w' hSw; obtain ⟨⟨_, _, a0, a1, a2⟩, ⟨_, _, c0', c1, c2⟩, ⟨_, _, v0, v1, v2⟩, ⟨_, _, y0, y1, y2⟩, ⟨_, _, z0, z1, z2⟩⟩ := hSw; go_simp; try exact rfl
      try simp only [List.setIfInBounds_toArray, List.set_cons_zero, List.set_cons_succ]
      refine takeYes (i := 27) (d := 80) (v := ?_) rfl rfl (by kernel_rfl) (by kernel_rfl) (by kernel_rfl) (fun _ _ _ h => h) (by rfl) (by assumption) ?_ ?_
      rotate_left
      · intro w' hSw; obtain ⟨⟨_, _, a0, a1, a2⟩, ⟨_, _, c0', c1, c2⟩, ⟨_, _, v0, v1, v2⟩, ⟨_, _, y0, y1, y2⟩, ⟨_, _, z0, z1, z2⟩⟩ := hSw; go_simp; try exact rfl
      try simp only [List.setIfInBounds_toArray, List.set_cons_zero, List.set_cons_succ]
      refine takeYes (i := 28) (d := 81) (v := ?_) rfl rfl (by kernel_rfl) (by kernel_rfl) (by kernel_rfl) (fun _ _ _ h => h) (by rfl) (by assumption) ?_ ?_
      rotate_left
      · intro w' hSw; obtain ⟨⟨_, _, a0, a1, a2⟩, ⟨_, _, c0', c1, c2⟩, ⟨_, _, v0, v1, v2⟩, ⟨_, _, y0, y1, y2⟩, ⟨_, _, z0, z1, z2⟩⟩ := hSw; go_simp; try exact rfl
      try simp only [List.setIfInBounds_toArray, List.set_cons_zero, List.set_cons_succ]
      refine takeYes (i := 29) (d := 82) (v := ?_) rfl rfl (by kernel_rfl) (by kernel_rfl) (by kernel_rfl) (fun _ _ _ h => h) (by rfl) (by assumption) ?_ ?_
      rotate_left
      · intro w' hSw; obtain ⟨⟨_, _, a0, a1, a2⟩, ⟨_, _, c0', c1, c2⟩, ⟨_, _, v0, v1, v2⟩, ⟨_, _, y0, y1, y2⟩, ⟨_, _, z0, z1, z2⟩⟩ := hSw; go_simp; try exact rfl
      try simp only [List.setIfInBounds_toArray, List.set_cons_zero, List.set_cons_succ]
      refine takeYes (i := 30) (d := 83) (v := ?_) rfl rfl (by kernel_rfl) (by kernel_rfl) (by kernel_rfl) (fun _ _ _ h => h) (by rfl) (by assumption) ?_ ?_
      rotate_left
      · intro w' hSw; obtain ⟨⟨_, _, a0, a1, a2⟩, ⟨_, _, c0', c1, c2⟩, ⟨_, _, v0, v1, v2⟩, ⟨_, _, y0, y1, y2⟩, ⟨_, _, z0, z1, z2⟩⟩ := hSw; go_simp; try exact rfl
      try simp only [List.setIfInBounds_toArray, List.set_cons_zero, List.set_cons_succ]
      refine takeYes (i := 31) (d := 84) (v := ?_) rfl rfl (by kernel_rfl) (by kernel_rfl) (by kernel_rfl) (fun _ _ _ h => h) (by rfl) (by assumption) ?_ ?_
      rotate_left
      · intro w' hSw; obtain ⟨⟨_, _, a0, a1, a2⟩, ⟨_, _, c0', c1, c2⟩, ⟨_, _, v0, v1, v2⟩, ⟨_, _, y0, y1, y2⟩, ⟨_, _, z0, z1, z2⟩⟩ := hSw; go_simp; try exact rfl
      try simp only [List.setIfInBounds_toArray, List.set_cons_zero, List.set_cons_succ]
      refine takeYes (i := 32) (d := 85) (v := ?_) rfl rfl (by kernel_rfl) (by kernel_rfl) (by kernel_rfl) (fun _ _ _ h => h) (by rfl) (by assumption) ?_ ?_
      rotate_left
      · intro w' hSw; obtain ⟨⟨_, _, a0, a1, a2⟩, ⟨_, _, c0', c1, c2⟩, ⟨_, _, v0, v1, v2⟩, ⟨_, _, y0, y1, y2⟩, ⟨_, _, z0, z1, z2⟩⟩ := hSw; go_simp; try exact rfl
      try simp only [List.setIfInBounds_toArray, List.set_cons_zero, List.set_cons_succ]
      refine takeYes (i := 33) (d := 86) (v := ?_) rfl rfl (by kernel_rfl) (by kernel_rfl) (by kernel_rfl) (fun _ _ _ h => h) (by rfl) (by assumption) ?_ ?_
      rotate_left
      · intro w' hSw; obtain ⟨⟨_, _, a0, a1, a2⟩, ⟨_, _, c0', c1, c2⟩, ⟨_, _, v0, v1, v2⟩, ⟨_, _, y0, y1, y2⟩, ⟨_, _, z0, z1, z2⟩⟩ := hSw; go_simp; try exact rfl
      try simp only [List.setIfInBounds_toArray, List.set_cons_zero, List.set_cons_succ]
      refine takeYes (i := 34) (d := 87) (v := ?_) rfl rfl (by kernel_rfl) (by kernel_rfl) (by kernel_rfl) (fun _ _ _ h => h) (by rfl) (by assumption) ?_ ?_
      rotate_left
      · intro w' hSw; obtain ⟨⟨_, _, a0, a1, a2⟩, ⟨_, _, c0', c1, c2⟩, ⟨_, _, v0, v1, v2⟩, ⟨_, _, y0, y1, y2⟩, ⟨_, _, z0, z1, z2⟩⟩ := hSw; go_simp; try exact rfl
      try simp only [List.setIfInBounds_toArray, List.set_cons_zero, List.set_cons_succ]
      refine takeYes (i := 35) (d := 88) (v := ?_) rfl rfl (by kernel_rfl) (by kernel_rfl) (by kernel_rfl) (fun _ _ _ h => h) (by rfl) (by assumption) ?_ ?_
      rotate_left
      · intro w' hSw; obtain ⟨⟨_, _, a0, a1, a2⟩, ⟨_, _, c0', c1, c2⟩, ⟨_, _, v0, v1, v2⟩, ⟨_, _, y0, y1, y2⟩, ⟨_, _, z0, z1, z2⟩⟩ := hSw; go_simp; try exact rfl
      try simp only [List.setIfInBounds_toArray, List.set_cons_zero, List.set_cons_succ]
      refine takeYes (i := 36) (d := 89) (v := ?_) rfl rfl (by kernel_rfl) (by kernel_rfl) (by kernel_rfl) (fun _ _ _ h => h) (by rfl) (by assumption) ?_ ?_
      rotate_left
      · intro w' hSw; obtain ⟨⟨_, _, a0, a1, a2⟩, ⟨_, _, c0', c1, c2⟩, ⟨_, _, v0, v1, v2⟩, ⟨_, _, y0, y1, y2⟩, ⟨_, _, z0, z1, z2⟩⟩ := hSw; go_simp; try exact rfl
      try simp only [List.setIfInBounds_toArray, List.set_cons_zero, List.set_cons_succ]
      refine takeYes (i := 37) (d := 90) (v := ?_) rfl rfl (by kernel_rfl) (by kernel_rfl) (by kernel_rfl) (fun _ _ _ h => h) (by rfl) (by assumption) ?_ ?_
      rotate_left
      · intro w' hSw; obtain ⟨⟨_, _, a0, a1, a2⟩, ⟨_, _, c0', c1, c2⟩, ⟨_, _, v0, v1, v2⟩, ⟨_, _, y0, y1, y2⟩, ⟨_, _, z0, z1, z2⟩⟩ := hSw; go_simp; try exact rfl
      try simp only [List.setIfInBounds_toArray, List.set_cons_zero, List.set_cons_succ]
      refine takeYes (i := 38) (d := 91) (v := ?_) rfl rfl (by kernel_rfl) (by kernel_rfl) (by kernel_rfl) (fun _ _ _ h => h) (by rfl) (by assumption) ?_ ?_
      rotate_left
      · intro w' hSw; obtain ⟨⟨_, _, a0, a1, a2⟩, ⟨_, _, c0', c1, c2⟩, ⟨_, _, v0, v1, v2⟩, ⟨_, _, y0, y1, y2⟩, ⟨_, _, z0, z1, z2⟩⟩ := hSw; go_simp; try exact rfl
      try simp only [List.setIfInBounds_toArray, List.set_cons_zero, List.set_cons_succ]
      refine takeYes (i := 40) (d := 93) (v := ?_) rfl rfl (by kernel_rfl) (by kernel_rfl) (by kernel_rfl) (fun _ _ _ h => h) (by rfl) (by assumption) ?_ ?_
      rotate_left
      · intro w' hSw; obtain ⟨⟨_, _, a0, a1, a2⟩, ⟨_, _, c0', c1, c2⟩, ⟨_, _, v0, v1, v2⟩, ⟨_, _, y0, y1, y2⟩, ⟨_, _, z0, z1, z2⟩⟩ := hSw; go_simp; try exact rfl
      try simp only [List.setIfInBounds_toArray, List.set_cons_zero, List.set_cons_succ]
      refine wpAnyH_ready (rs := [39]) (by kernel_rfl) (by simp) ?_
      refine AllReadyH.cons rfl (fun KK hKK => ?_) AllReadyH.nil
      go_simp
      go_at_call 16
      refine Calls.mono (implValueOk_any xk xn xs _ (by unfold maxLen; omega)) ?_
      rintro x w13 ⟨rfl, hb13⟩
      have hz13 := hb13.size
      (try simp at hz13)
      try go_wp2_with fail
      refine hKK.out _ _ ?_ (fun hHeld39 => ?_)
      · exact ⟨hA.below (by repeat (first | (with_reducible exact Below.refl _ _) | (with_reducible refine Below.drew ?_) | (with_reducible refine Below.alloc ?_ ?hh _; case hh => first | (simp; done) | (simp; omega) | omega) | (with_reducible refine Below.setCell ?_ ?hh _; case hh => first | (simp; done) | (simp; omega) | omega) | refine bstep (by assumption) (by first | (simp; done) | (simp; omega) | omega) ?_)), hC.below (by repeat (first | (with_reducible exact Below.refl _ _) | (with_reducible refine Below.drew ?_) | (with_reducible refine Below.alloc ?_ ?hh _; case hh => first | (simp; done) | (simp; omega) | omega) | (with_reducible refine Below.setCell ?_ ?hh _; case hh => first | (simp; done) | (simp; omega) | omega) | refine bstep (by assumption) (by first | (simp; done) | (simp; omega) | omega) ?_)), hX.below (by repeat (first | (with_reducible exact Below.refl _ _) | (with_reducible refine Below.drew ?_) | (with_reducible refine Below.alloc ?_ ?hh _; case hh => first | (simp; done) | (simp; omega) | omega) | (with_reducible refine Below.setCell ?_ ?hh _; case hh => first | (simp; done) | (simp; omega) | omega) | refine bstep (by assumption) (by first | (simp; done) | (simp; omega) | omega) ?_)), hG.below (by repeat (first | (with_reducible exact Below.refl _ _) | (with_reducible refine Below.drew ?_) | (with_reducible refine Below.alloc ?_ ?hh _; case hh => first | (simp; done) | (simp; omega) | omega) | (with_reducible refine Below.setCell ?_ ?hh _; case hh => first | (simp; done) | (simp; omega) | omega) | refine bstep (by assumption) (by first | (simp; done) | (simp; omega) | omega) ?_)), hH.below (by repeat (first | (with_reducible exact Below.refl _ _) | (with_reducible refine Below.drew ?_) | (with_reducible refine Below.alloc ?_ ?hh _; case hh => first | (simp; done) | (simp; omega) | omega) | (with_reducible refine Below.setCell ?_ ?hh _; case hh => first | (simp; done) | (simp; omega) | omega) | refine bstep (by assumption) (by first | (simp; done) | (simp; omega) | omega) ?_))⟩
      clear hKK
      refine wpAnyH_ready (rs := [41]) (by kernel_rfl) (by simp) ?_
      refine AllReadyH.cons rfl (fun KK hKK => ?_) AllReadyH.nil
      go_simp
      go_at_call 17
      refine Calls.mono (specValueOk_any xk xn xs _ (by unfold maxLen; omega)) ?_
      rintro x w14 ⟨rfl, hb14⟩
      have hz14 := hb14.size
      (try simp at hz14)
      try go_wp2_with fail
      refine hKK.out _ _ ?_ (fun hHeld41 => ?_)
      · exact ⟨hA.below (by repeat (first | (with_reducible exact Below.refl _ _) | (with_reducible refine Below.drew ?_) | (with_reducible refine Below.alloc ?_ ?hh _; case hh => first | (simp; done) | (simp; omega) | omega) | (with_reducible refine Below.setCell ?_ ?hh _; case hh => first | (simp; done) | (simp; omega) | omega) | refine bstep (by assumption) (by first | (simp; done) | (simp; omega) | omega) ?_)), hC.below (by repeat (first | (with_reducible exact Below.refl _ _) | (with_reducible refine Below.drew ?_) | (with_reducible refine Below.alloc ?_ ?hh _; case hh => first | (simp; done) | (simp; omega) | omega) | (with_reducible refine Below.setCell ?_ ?hh _; case hh => first | (simp; done) | (simp; omega) | omega) | refine bstep (by assumption) (by first | (simp; done) | (simp; omega) | omega) ?_)), hX.below (by repeat (first | (with_reducible exact Below.refl _ _) | (with_reducible refine Below.drew ?_) | (with_reducible refine Below.alloc ?_ ?hh _; case hh => first | (simp; done) | (simp; omega) | omega) | (with_reducible refine Below.setCell ?_ ?hh _; case hh => first | (simp; done) | (simp; omega) | omega) | refine bstep (by assumption) (by first | (simp; done) | (simp; omega) | omega) ?_)), hG.below (by repeat (first | (with_reducible exact Below.refl _ _) | (with_reducible refine Below.drew ?_) | (with_reducible refine Below.alloc ?_ ?hh _; case hh => first | (simp; done) | (simp; omega) | omega) | (with_reducible refine Below.setCell ?_ ?hh _; case hh => first | (simp; done) | (simp; omega) | omega) | refine bstep (by assumption) (by first | (simp; done) | (simp; omega) | omega) ?_)), hH.below (by repeat (first | (with_reducible exact Below.refl _ _) | (with_reducible refine Below.drew ?_) | (with_reducible refine Below.alloc ?_ ?hh _; case hh => first | (simp; done) | (simp; omega) | omega) | (with_reducible refine Below.setCell ?_ ?hh _; case hh => first | (simp; done) | (simp; omega) | omega) | refine bstep (by assumption) (by first | (simp; done) | (simp; omega) | omega) ?_))⟩
      clear hKK
      refine takeYes (i := 42) (d := 95) (v := ?_) rfl rfl (by kernel_rfl) (by kernel_rfl) (by kernel_rfl) (fun _ _ _ h => h) (by rfl) (by assumption) ?_ ?_
      rotate_left
      · intro w' hSw; obtain ⟨⟨_, _, a0, a1, a2⟩, ⟨_, _, c0', c1, c2⟩, ⟨_, _, v0, v1, v2⟩, ⟨_, _, y0, y1, y2⟩, ⟨_, _, z0, z1, z2⟩⟩ := hSw; go_simp; try exact rfl
      try simp only [List.setIfInBounds_toArray, List.set_cons_zero, List.set_cons_succ]
      refine takeYes (i := 43) (d := 96) (v := ?_) rfl rfl (by kernel_rfl) (by kernel_rfl) (by kernel_rfl) (fun _ _ _ h => h) (by rfl) (by assumption) ?_ ?_
      rotate_left
      · intro w' hSw; obtain ⟨⟨_, _, a0, a1, a2⟩, ⟨_, _, c0', c1, c2⟩, ⟨_, _, v0, v1, v2⟩, ⟨_, _, y0, y1, y2⟩, ⟨_, _, z0, z1, z2⟩⟩ := hSw; go_simp; try exact rfl
      try simp only [List.setIfInBounds_toArray, List.set_cons_zero, List.set_cons_succ]
      refine takeYes (i := 44) (d := 97) (v := ?_) rfl rfl (by kernel_rfl) (by kernel_rfl) (by kernel_rfl) (fun _ _ _ h => h) (by rfl) (by assumption) ?_ ?_
      rotate_left
      · intro w' hSw; obtain ⟨⟨_, _, a0, a1, a2⟩, ⟨_, _, c0', c1, c2⟩, ⟨_, _, v0, v1, v2⟩, ⟨_, _, y0, y1, y2⟩, ⟨_, _, z0, z1, z2⟩⟩ := hSw; go_simp; try exact rfl
      try simp only [List.setIfInBounds_toArray, List.set_cons_zero, List.set_cons_succ]
      refine takeYes (i := 45) (d := 98) (v := ?_) rfl rfl (by kernel_rfl) (by kernel_rfl) (by kernel_rfl) (fun _ _ _ h => h) (by rfl) (by assumption) ?_ ?_
      rotate_left
      · intro w' hSw; obtain ⟨⟨_, _, a0, a1, a2⟩, ⟨_, _, c0', c1, c2⟩, ⟨_, _, v0, v1, v2⟩, ⟨_, _, y0, y1, y2⟩, ⟨_, _, z0, z1, z2⟩⟩ := hSw; go_simp; try exact rfl
      try simp only [List.setIfInBounds_toArray, List.set_cons_zero, List.set_cons_succ]
      refine takeYes (i := 47) (d := 100) (v := ?_) rfl rfl (by kernel_rfl) (by kernel_rfl) (by kernel_rfl) (fun _ _ _ h => h) (by rfl) (by assumption) ?_ ?_
      rotate_left
      · intro w' hSw; obtain ⟨⟨_, _, a0, a1, a2⟩, ⟨_, _, c0', c1, c2⟩, ⟨_, _, v0, v1, v2⟩, ⟨_, _, y0, y1, y2⟩, ⟨_, _, z0, z1, z2⟩⟩ := hSw; go_simp; try exact rfl
      try simp only [List.setIfInBounds_toArray, List.set_cons_zero, List.set_cons_succ]
      refine wpAnyH_ready (rs := [46]) (by kernel_rfl) (by simp) ?_
      refine AllReadyH.cons rfl (fun KK hKK => ?_) AllReadyH.nil
      go_simp
      go_at_call 18
      refine Calls.mono (implVt_any xk xn xs _ (by unfold maxLen; omega) xn0 xn1 (hE9.below (by repeat (first | (with_reducible exact Below.refl _ _) | (with_reducible refine Below.drew ?_) | (with_reducible refine Below.alloc ?_ ?hh _; case hh => first | (simp; done) | (simp; omega) | omega) | (with_reducible refine Below.setCell ?_ ?hh _; case hh => first | (simp; done) | (simp; omega) | omega) | refine bstep (by assumption) (by first | (simp; done) | (simp; omega) | omega) ?_)))) ?_
      rintro x w15 ⟨rfl, hb15⟩
      have hz15 := hb15.size
      (try simp at hz15)
      try go_wp2_with fail
      refine hKK.out _ _ ?_ (fun hHeld46 => ?_)
      · exact ⟨hA.below (by repeat (first | (with_reducible exact Below.refl _ _) | (with_reducible refine Below.drew ?_) | (with_reducible refine Below.alloc ?_ ?hh _; case hh => first | (simp; done) | (simp; omega) | omega) | (with_reducible refine Below.setCell ?_ ?hh _; case hh => first | (simp; done) | (simp; omega) | omega) | refine bstep (by assumption) (by first | (simp; done) | (simp; omega) | omega) ?_)), hC.below (by repeat (first | (with_reducible exact Below.refl _ _) | (with_reducible refine Below.drew ?_) | (with_reducible refine Below.alloc ?_ ?hh _; case hh => first | (simp; done) | (simp; omega) | omega) | (with_reducible refine Below.setCell ?_ ?hh _; case hh => first | (simp; done) | (simp; omega) | omega) | refine bstep (by assumption) (by first | (simp; done) | (simp; omega) | omega) ?_)), hX.below (by repeat (first | (with_reducible exact Below.refl _ _) | (with_reducible refine Below.drew ?_) | (with_reducible refine Below.alloc ?_ ?hh _; case hh => first | (simp; done) | (simp; omega) | omega) | (with_reducible refine Below.setCell ?_ ?hh _; case hh => first | (simp; done) | (simp; omega) | omega) | refine bstep (by assumption) (by first | (simp; done) | (simp; omega) | omega) ?_)), hG.below (by repeat (first | (with_reducible exact Below.refl _ _) | (with_reducible refine Below.drew ?_) | (with_reducible refine Below.alloc ?_ ?hh _; case hh => first | (simp; done) | (simp; omega) | omega) | (with_reducible refine Below.setCell ?_ ?hh _; case hh => first | (simp; done) | (simp; omega) | omega) | refine bstep (by assumption) (by first | (simp; done) | (simp; omega) | omega) ?_)), hH.below (by repeat (first | (with_reducible exact Below.refl _ _) | (with_reducible refine Below.drew ?_) | (with_reducible refine Below.alloc ?_ ?hh _; case hh => first | (simp; done) | (simp; omega) | omega) | (with_reducible refine Below.setCell ?_ ?hh _; case hh => first | (simp; done) | (simp; omega) | omega) | refine bstep (by assumption) (by first | (simp; done) | (simp; omega) | omega) ?_))⟩
      clear hKK
      refine wpAnyH_ready (rs := [48]) (by kernel_rfl) (by simp) ?_
      refine AllReadyH.cons rfl (fun KK hKK => ?_) AllReadyH.nil
      go_simp
      go_at_call 19
      refine Calls.mono (specVt_any xk xn xs _ (by unfold maxLen; omega) xn0 xn1) ?_
      rintro x w16 ⟨rfl, hb16⟩
      have hz16 := hb16.size
      (try simp at hz16)
      try go_wp2_with fail
      refine hKK.out _ _ ?_ (fun hHeld48 => ?_)
      · exact ⟨hA.below (by repeat (first | (with_reducible exact Below.refl _ _) | (with_reducible refine Below.drew ?_) | (with_reducible refine Below.alloc ?_ ?hh _; case hh => first | (simp; done) | (simp; omega) | omega) | (with_reducible refine Below.setCell ?_ ?hh _; case hh => first | (simp; done) | (simp; omega) | omega) | refine bstep (by assumption) (by first | (simp; done) | (simp; omega) | omega) ?_)), hC.below (by repeat (first | (with_reducible exact Below.refl _ _) | (with_reducible refine Below.drew ?_) | (with_reducible refine Below.alloc ?_ ?hh _; case hh => first | (simp; done) | (simp; omega) | omega) | (with_reducible refine Below.setCell ?_ ?hh _; case hh => first | (simp; done) | (simp; omega) | omega) | refine bstep (by assumption) (by first | (simp; done) | (simp; omega) | omega) ?_)), hX.below (by repeat (first | (with_reducible exact Below.refl _ _) | (with_reducible refine Below.drew ?_) | (with_reducible refine Below.alloc ?_ ?hh _; case hh => first | (simp; done) | (simp; omega) | omega) | (with_reducible refine Below.setCell ?_ ?hh _; case hh => first | (simp; done) | (simp; omega) | omega) | refine bstep (by assumption) (by first | (simp; done) | (simp; omega) | omega) ?_)), hG.below (by repeat (first | (with_reducible exact Below.refl _ _) | (with_reducible refine Below.drew ?_) | (with_reducible refine Below.alloc ?_ ?hh _; case hh => first | (simp; done) | (simp; omega) | omega) | (with_reducible refine Below.setCell ?_ ?hh _; case hh => first | (simp; done) | (simp; omega) | omega) | refine bstep (by assumption) (by first | (simp; done) | (simp; omega) | omega) ?_)), hH.below (by repeat (first | (with_reducible exact Below.refl _ _) | (with_reducible refine Below.drew ?_) | (with_reducible refine Below.alloc ?_ ?hh _; case hh => first | (simp; done) | (simp; omega) | omega) | (with_reducible refine Below.setCell ?_ ?hh _; case hh => first | (simp; done) | (simp; omega) | omega) | refine bstep (by assumption) (by first | (simp; done) | (simp; omega) | omega) ?_))⟩
      clear hKK
      refine takeYes (i := 49) (d := 102) (v := ?_) rfl rfl (by kernel_rfl) (by kernel_rfl) (by kernel_rfl) (fun _ _ _ h => h) (by rfl) (by assumption) ?_ ?_
      rotate_left
      · intro w' hSw; obtain ⟨⟨_, _, a0, a1, a2⟩, ⟨_, _, c0', c1, c2⟩, ⟨_, _, v0, v1, v2⟩, ⟨_, _, y0, y1, y2⟩, ⟨_, _, z0, z1, z2⟩⟩ := hSw; go_simp; try exact rfl
      try simp only [List.setIfInBounds_toArray, List.set_cons_zero, List.set_cons_succ]
      refine takeYes (i := 50) (d := 103) (v := ?_) rfl rfl (by kernel_rfl) (by kernel_rfl) (by kernel_rfl) (fun _ _ _ h => h) (by rfl) (by assumption) ?_ ?_
      rotate_left
      · intro w' hSw; obtain ⟨⟨_, _, a0, a1, a2⟩, ⟨_, _, c0', c1, c2⟩, ⟨_, _, v0, v1, v2⟩, ⟨_, _, y0, y1, y2⟩, ⟨_, _, z0, z1, z2⟩⟩ := hSw; go_simp; try exact rfl
      try simp only [List.setIfInBounds_toArray, List.set_cons_zero, List.set_cons_succ]
      refine takeYes (i := 51) (d := 104) (v := ?_) rfl rfl (by kernel_rfl) (by kernel_rfl) (by kernel_rfl) (fun _ _ _ h => h) (by rfl) (by assumption) ?_ ?_
      rotate_left
      · intro w' hSw; obtain ⟨⟨_, _, a0, a1, a2⟩, ⟨_, _, c0', c1, c2⟩, ⟨_, _, v0, v1, v2⟩, ⟨_, _, y0, y1, y2⟩, ⟨_, _, z0, z1, z2⟩⟩ := hSw; go_simp; try exact rfl
      try simp only [List.setIfInBounds_toArray, List.set_cons_zero, List.set_cons_succ]
      refine takeYes (i := 52) (d := 105) (v := ?_) rfl rfl (by kernel_rfl) (by kernel_rfl) (by kernel_rfl) (fun _ _ _ h => h) (by rfl) (by assumption) ?_ ?_
      rotate_left
      · intro w' hSw; obtain ⟨⟨_, _, a0, a1, a2⟩, ⟨_, _, c0', c1, c2⟩, ⟨_, _, v0, v1, v2⟩, ⟨_, _, y0, y1, y2⟩, ⟨_, _, z0, z1, z2⟩⟩ := hSw; go_simp; try exact rfl
      try simp only [List.setIfInBounds_toArray, List.set_cons_zero, List.set_cons_succ]
      refine takeYes (i := 54) (d := 107) (v := ?_) rfl rfl (by kernel_rfl) (by kernel_rfl) (by kernel_rfl) (fun _ _ _ h => h) (by rfl) (by assumption) ?_ ?_
      rotate_left
      · intro w' hSw; obtain ⟨⟨_, _, a0, a1, a2⟩, ⟨_, _, c0', c1, c2⟩, ⟨_, _, v0, v1, v2⟩, ⟨_, _, y0, y1, y2⟩, ⟨_, _, z0, z1, z2⟩⟩ := hSw; go_simp; try exact rfl
      try simp only [List.setIfInBounds_toArray, List.set_cons_zero, List.set_cons_succ]
      refine wpAnyH_ready (rs := [53]) (by kernel_rfl) (by simp) ?_
      refine AllReadyH.cons rfl (fun KK hKK => ?_) AllReadyH.nil
      go_simp
      go_at_call 20
      refine Calls.mono (IN.out _) ?_
      rintro x w17 ⟨rfl, hb17⟩
      have hz17 := hb17.size
      (try simp at hz17)
      try go_wp2_with fail
      refine hKK.out _ _ ?_ (fun hHeld53 => ?_)
      · exact ⟨hA.below (by repeat (first | (with_reducible exact Below.refl _ _) | (with_reducible refine Below.drew ?_) | (with_reducible refine Below.alloc ?_ ?hh _; case hh => first | (simp; done) | (simp; omega) | omega) | (with_reducible refine Below.setCell ?_ ?hh _; case hh => first | (simp; done) | (simp; omega) | omega) | refine bstep (by assumption) (by first | (simp; done) | (simp; omega) | omega) ?_)), hC.below (by repeat (first | (with_reducible exact Below.refl _ _) | (with_reducible refine Below.drew ?_) | (with_reducible refine Below.alloc ?_ ?hh _; case hh => first | (simp; done) | (simp; omega) | omega) | (with_reducible refine Below.setCell ?_ ?hh _; case hh => first | (simp; done) | (simp; omega) | omega) | refine bstep (by assumption) (by first | (simp; done) | (simp; omega) | omega) ?_)), hX.below (by repeat (first | (with_reducible exact Below.refl _ _) | (with_reducible refine Below.drew ?_) | (with_reducible refine Below.alloc ?_ ?hh _; case hh => first | (simp; done) | (simp; omega) | omega) | (with_reducible refine Below.setCell ?_ ?hh _; case hh => first | (simp; done) | (simp; omega) | omega) | refine bstep (by assumption) (by first | (simp; done) | (simp; omega) | omega) ?_)), hG.below (by repeat (first | (with_reducible exact Below.refl _ _) | (with_reducible refine Below.drew ?_) | (with_reducible refine Below.alloc ?_ ?hh _; case hh => first | (simp; done) | (simp; omega) | omega) | (with_reducible refine Below.setCell ?_ ?hh _; case hh => first | (simp; done) | (simp; omega) | omega) | refine bstep (by assumption) (by first | (simp; done) | (simp; omega) | omega) ?_)), hH.below (by repeat (first | (with_reducible exact Below.refl _ _) | (with_reducible refine Below.drew ?_) | (with_reducible refine Below.alloc ?_ ?hh _; case hh => first | (simp; done) | (simp; omega) | omega) | (with_reducible refine Below.setCell ?_ ?hh _; case hh => first | (simp; done) | (simp; omega) | omega) | refine bstep (by assumption) (by first | (simp; done) | (simp; omega) | omega) ?_))⟩
      clear hKK
      refine wpAnyH_ready (rs := [55]) (by kernel_rfl) (by simp) ?_
      refine AllReadyH.cons rfl (fun KK hKK => ?_) AllReadyH.nil
      go_simp
      go_at_call 21
      refine Calls.mono (SN.out _) ?_
      rintro x w18 ⟨rfl, hb18⟩
      have hz18 := hb18.size
      (try simp at hz18)
      try go_wp2_with fail
      refine hKK.out _ _ ?_ (fun hHeld55 => ?_)
      · exact ⟨hA.below (by repeat (first | (with_reducible exact Below.refl _ _) | (with_reducible refine Below.drew ?_) | (with_reducible refine Below.alloc ?_ ?hh _; case hh => first | (simp; done) | (simp; omega) | omega) | (with_reducible refine Below.setCell ?_ ?hh _; case hh => first | (simp; done) | (simp; omega) | omega) | refine bstep (by assumption) (by first | (simp; done) | (simp; omega) | omega) ?_)), hC.below (by repeat (first | (with_reducible exact Below.refl _ _) | (with_reducible refine Below.drew ?_) | (with_reducible refine Below.alloc ?_ ?hh _; case hh => first | (simp; done) | (simp; omega) | omega) | (with_reducible refine Below.setCell ?_ ?hh _; case hh => first | (simp; done) | (simp; omega) | omega) | refine bstep (by assumption) (by first | (simp; done) | (simp; omega) | omega) ?_)), hX.below (by repeat (first | (with_reducible exact Below.refl _ _) | (with_reducible refine Below.drew ?_) | (with_reducible refine Below.alloc ?_ ?hh _; case hh => first | (simp; done) | (simp; omega) | omega) | (with_reducible refine Below.setCell ?_ ?hh _; case hh => first | (simp; done) | (simp; omega) | omega) | refine bstep (by assumption) (by first | (simp; done) | (simp; omega) | omega) ?_)), hG.below (by repeat (first | (with_reducible exact Below.refl _ _) | (with_reducible refine Below.drew ?_) | (with_reducible refine Below.alloc ?_ ?hh _; case hh => first | (simp; done) | (simp; omega) | omega) | (with_reducible refine Below.setCell ?_ ?hh _; case hh => first | (simp; done) | (simp; omega) | omega) | refine bstep (by assumption) (by first | (simp; done) | (simp; omega) | omega) ?_)), hH.below (by repeat (first | (with_reducible exact Below.refl _ _) | (with_reducible refine Below.drew ?_) | (with_reducible refine Below.alloc ?_ ?hh _; case hh => first | (simp; done) | (simp; omega) | omega) | (with_reducible refine Below.setCell ?_ ?hh _; case hh => first | (simp; done) | (simp; omega) | omega) | refine bstep (by assumption) (by first | (simp; done) | (simp; omega) | omega) ?_))⟩
      clear hKK
      refine takeYes (i := 56) (d := 109) (v := ?_) rfl rfl (by kernel_rfl) (by kernel_rfl) (by kernel_rfl) (fun _ _ _ h => h) (by rfl) (by assumption) ?_ ?_
      rotate_left
      · intro w' hSw; obtain ⟨⟨_, _, a0, a1, a2⟩, ⟨_, _, c0', c1, c2⟩, ⟨_, _, v0, v1, v2⟩, ⟨_, _, y0, y1, y2⟩, ⟨_, _, z0, z1, z2⟩⟩ := hSw; go_simp; try exact rfl
      try simp only [List.setIfInBounds_toArray, List.set_cons_zero, List.set_cons_succ]
      refine takeYes (i := 57) (d := 110) (v := ?_) rfl rfl (by kernel_rfl) (by kernel_rfl) (by kernel_rfl) (fun _ _ _ h => h) (by rfl) (by assumption) ?_ ?_
      rotate_left
      · intro w' hSw; obtain ⟨⟨_, _, a0, a1, a2⟩, ⟨_, _, c0', c1, c2⟩, ⟨_, _, v0, v1, v2⟩, ⟨_, _, y0, y1, y2⟩, ⟨_, _, z0, z1, z2⟩⟩ := hSw; go_simp; try exact rfl
      try simp only [List.setIfInBounds_toArray, List.set_cons_zero, List.set_cons_succ]
      refine takeYes (i := 58) (d := 111) (v := ?_) rfl rfl (by kernel_rfl) (by kernel_rfl) (by kernel_rfl) (fun _ _ _ h => h) (by rfl) (by assumption) ?_ ?_
      rotate_left
      · intro w' hSw; obtain ⟨⟨_, _, a0, a1, a2⟩, ⟨_, _, c0', c1, c2⟩, ⟨_, _, v0, v1, v2⟩, ⟨_, _, y0, y1, y2⟩, ⟨_, _, z0, z1, z2⟩⟩ := hSw; go_simp; try exact rfl
      try simp only [List.setIfInBounds_toArray, List.set_cons_zero, List.set_cons_succ]
      refine takeYes (i := 59) (d := 112) (v := ?_) rfl rfl (by kernel_rfl) (by kernel_rfl) (by kernel_rfl) (fun _ _ _ h => h) (by rfl) (by assumption) ?_ ?_
      rotate_left
      · intro w' hSw; obtain ⟨⟨_, _, a0, a1, a2⟩, ⟨_, _, c0', c1, c2⟩, ⟨_, _, v0, v1, v2⟩, ⟨_, _, y0, y1, y2⟩, ⟨_, _, z0, z1, z2⟩⟩ := hSw; go_simp; try exact rfl
      try simp only [List.setIfInBounds_toArray, List.set_cons_zero, List.set_cons_succ]
      refine takeYes (i := 61) (d := 114) (v := ?_) rfl rfl (by kernel_rfl) (by kernel_rfl) (by kernel_rfl) (fun _ _ _ h => h) (by rfl) (by assumption) ?_ ?_
      rotate_left
      · intro w' hSw; obtain ⟨⟨_, _, a0, a1, a2⟩, ⟨_, _, c0', c1, c2⟩, ⟨_, _, v0, v1, v2⟩, ⟨_, _, y0, y1, y2⟩, ⟨_, _, z0, z1, z2⟩⟩ := hSw; go_simp; try exact rfl
      try simp only [List.setIfInBounds_toArray, List.set_cons_zero, List.set_cons_succ]
      refine wpAnyH_ready (rs := [60]) (by kernel_rfl) (by simp) ?_
      refine AllReadyH.cons rfl (fun KK hKK => ?_) AllReadyH.nil
      go_simp
      go_at_call 22
      refine Calls.mono (implDec_env d _ d0 d1 (hE9.below (by repeat (first | (with_reducible exact Below.refl _ _) | (with_reducible refine Below.drew ?_) | (with_reducible refine Below.alloc ?_ ?hh _; case hh => first | (simp; done) | (simp; omega) | omega) | (with_reducible refine Below.setCell ?_ ?hh _; case hh => first | (simp; done) | (simp; omega) | omega) | refine bstep (by assumption) (by first | (simp; done) | (simp; omega) | omega) ?_)))) ?_
      rintro x w19 ⟨rfl, hb19⟩
      have hz19 := hb19.size
      (try simp at hz19)
      try go_wp2_with fail
      refine hKK.out _ _ ?_ (fun hHeld60 => ?_)
      · exact ⟨hA.below (by repeat (first | (with_reducible exact Below.refl _ _) | (with_reducible refine Below.drew ?_) | (with_reducible refine Below.alloc ?_ ?hh _; case hh => first | (simp; done) | (simp; omega) | omega) | (with_reducible refine Below.setCell ?_ ?hh _; case hh => first | (simp; done) | (simp; omega) | omega) | refine bstep (by assumption) (by first | (simp; done) | (simp; omega) | omega) ?_)), hC.below (by repeat (first | (with_reducible exact Below.refl _ _) | (with_reducible refine Below.drew ?_) | (with_reducible refine Below.alloc ?_ ?hh _; case hh => first | (simp; done) | (simp; omega) | omega) | (with_reducible refine Below.setCell ?_ ?hh _; case hh => first | (simp; done) | (simp; omega) | omega) | refine bstep (by assumption) (by first | (simp; done) | (simp; omega) | omega) ?_)), hX.below (by repeat (first | (with_reducible exact Below.refl _ _) | (with_reducible refine Below.drew ?_) | (with_reducible refine Below.alloc ?_ ?hh _; case hh => first | (simp; done) | (simp; omega) | omega) | (with_reducible refine Below.setCell ?_ ?hh _; case hh => first | (simp; done) | (simp; omega) | omega) | refine bstep (by assumption) (by first | (simp; done) | (simp; omega) | omega) ?_)), hG.below (by repeat (first | (with_reducible exact Below.refl _ _) | (with_reducible refine Below.drew ?_) | (with_reducible refine Below.alloc ?_ ?hh _; case hh => first | (simp; done) | (simp; omega) | omega) | (with_reducible refine Below.setCell ?_ ?hh _; case hh => first | (simp; done) | (simp; omega) | omega) | refine bstep (by assumption) (by first | (simp; done) | (simp; omega) | omega) ?_)), hH.below (by repeat (first | (with_reducible exact Below.refl _ _) | (with_reducible refine Below.drew ?_) | (with_reducible refine Below.alloc ?_ ?hh _; case hh => first | (simp; done) | (simp; omega) | omega) | (with_reducible refine Below.setCell ?_ ?hh _; case hh => first | (simp; done) | (simp; omega) | omega) | refine bstep (by assumption) (by first | (simp; done) | (simp; omega) | omega) ?_))⟩
      clear hKK
      refine wpAnyH_ready (rs := [62]) (by kernel_rfl) (by simp) ?_
      refine AllReadyH.cons rfl (fun KK hKK => ?_) AllReadyH.nil
      go_simp
      go_at_call 23
      refine Calls.mono (SD.out _) ?_
      rintro x w20 ⟨rfl, hb20⟩
      have hz20 := hb20.size
      (try simp at hz20)
      try go_wp2_with fail
      refine hKK.out _ _ ?_ (fun hHeld62 => ?_)
      · exact ⟨hA.below (by repeat (first | (with_reducible exact Below.refl _ _) | (with_reducible refine Below.drew ?_) | (with_reducible refine Below.alloc ?_ ?hh _; case hh => first | (simp; done) | (simp; omega) | omega) | (with_reducible refine Below.setCell ?_ ?hh _; case hh => first | (simp; done) | (simp; omega) | omega) | refine bstep (by assumption) (by first | (simp; done) | (simp; omega) | omega) ?_)), hC.below (by repeat (first | (with_reducible exact Below.refl _ _) | (with_reducible refine Below.drew ?_) | (with_reducible refine Below.alloc ?_ ?hh _; case hh => first | (simp; done) | (simp; omega) | omega) | (with_reducible refine Below.setCell ?_ ?hh _; case hh => first | (simp; done) | (simp; omega) | omega) | refine bstep (by assumption) (by first | (simp; done) | (simp; omega) | omega) ?_)), hX.below (by repeat (first | (with_reducible exact Below.refl _ _) | (with_reducible refine Below.drew ?_) | (with_reducible refine Below.alloc ?_ ?hh _; case hh => first | (simp; done) | (simp; omega) | omega) | (with_reducible refine Below.setCell ?_ ?hh _; case hh => first | (simp; done) | (simp; omega) | omega) | refine bstep (by assumption) (by first | (simp; done) | (simp; omega) | omega) ?_)), hG.below (by repeat (first | (with_reducible exact Below.refl _ _) | (with_reducible refine Below.drew ?_) | (with_reducible refine Below.alloc ?_ ?hh _; case hh => first | (simp; done) | (simp; omega) | omega) | (with_reducible refine Below.setCell ?_ ?hh _; case hh => first | (simp; done) | (simp; omega) | omega) | refine bstep (by assumption) (by first | (simp; done) | (simp; omega) | omega) ?_)), hH.below (by repeat (first | (with_reducible exact Below.refl _ _) | (with_reducible refine Below.drew ?_) | (with_reducible refine Below.alloc ?_ ?hh _; case hh => first | (simp; done) | (simp; omega) | omega) | (with_reducible refine Below.setCell ?_ ?hh _; case hh => first | (simp; done) | (simp; omega) | omega) | refine bstep (by assumption) (by first | (simp; done) | (simp; omega) | omega) ?_))⟩
      clear hKK
      refine takeYes (i := 63) (d := 116) (v := ?_) rfl rfl (by kernel_rfl) (by kernel_rfl) (by kernel_rfl) (fun _ _ _ h => h) (by rfl) (by assumption) ?_ ?_
      rotate_left
      · intro w' hSw; obtain ⟨⟨_, _, a0, a1, a2⟩, ⟨_, _, c0', c1, c2⟩, ⟨_, _, v0, v1, v2⟩, ⟨_, _, y0, y1, y2⟩, ⟨_, _, z0, z1, z2⟩⟩ := hSw; go_simp; try exact rfl
      try simp only [List.setIfInBounds_toArray, List.set_cons_zero, List.set_cons_succ]
      refine takeYes (i := 64) (d := 117) (v := ?_) rfl rfl (by kernel_rfl) (by kernel_rfl) (by kernel_rfl) (fun _ _ _ h => h) (by rfl) (by assumption) ?_ ?_
      rotate_left
      · intro w' hSw; obtain ⟨⟨_, _, a0, a1, a2⟩, ⟨_, _, c0', c1, c2⟩, ⟨_, _, v0, v1, v2⟩, ⟨_, _, y0, y1, y2⟩, ⟨_, _, z0, z1, z2⟩⟩ := hSw; go_simp; try exact rfl
      try simp only [List.setIfInBounds_toArray, List.set_cons_zero, List.set_cons_succ]
      refine wpAnyH_done (by kernel_rfl) ?_ _
      go_wp2_with fail
      (try go_meet)
      (try (case rel => exact ⟨rfl, by repeat (first | (with_reducible exact Below.refl _ _) | (with_reducible refine Below.drew ?_) | (with_reducible refine Below.alloc ?_ ?hh _; case hh => first | (simp; done) | (simp; omega) | omega) | (with_reducible refine Below.setCell ?_ ?hh _; case hh => first | (simp; done) | (simp; omega) | omega) | refine bstep (by assumption) (by first | (simp; done) | (simp; omega) | omega) ?_)⟩))
  case rest =>
    obtain ⟨rfl, hbL⟩ := hcut
    replace hA := hA.below hbL
    replace hC := hC.below hbL
    replace hX := hX.below hbL
    replace hG := hG.below hbL
    replace hbw : Below w.heap.size w wc := hbw.trans (hbL.mono hzw)
    replace hzw := hbw.size
    clear hbL
    clear hH qe x1 x3 q2 IN SN SD ef hE9
    go_wp2_with fail
    go_cut [144] (fun v wz => v = .bool false ∧ Below wc.heap.size wc wz)
    case first =>
      obtain ⟨c1, e1'⟩ : ∃ c, cmpV k' n' s' xk xn xs = c := ⟨_, rfl⟩
      obtain ⟨c2, e2'⟩ : ∃ c, cmpV k n s xk xn xs = c := ⟨_, rfl⟩
      have e1 : Hid (cmpV k' n' s' xk xn xs = c1) := e1'
      have e2 : Hid (cmpV k n s xk xn xs = c2) := e2'
      have tr : c0 ≤ 0 → c1 ≤ 0 → c2 ≤ 0 := fun h g => by rw [← e2']; exact cmpV_trans (show cmpV k n s k' n' s' ≤ 0 by rw [ec.out]; exact h) (by rw [e1']; exact g)
      clear e1' e2'
      by_cases hc0 : c0 ≤ 0
      rotate_left
      · have d0 : decide (c0 ≤ 0) = false := by simpa using hc0
        clear tr
        by_cases hg0 : 0 < gj
        · obtain ⟨j0, j1, j2, gp0, hgs0⟩ := GP.out (by omega)
          have gp : Hid (putS gk gn gs = u.extract i.toNat gj.toNat) := gp0
          have hgs : gs.size ≤ maxLen := by unfold maxLen; omega
          have d3 : decide (0 < gj) = true := by simpa using hg0
          have j3 : 0 ≤ gj := by omega
          have j4 : i ≤ gj := by omega
          clear GP gp0
          as_aux_lemma =>
            refine wp_region_held_drew (S := (fun w' => VarV w' bA k n s ∧ VarV w' bC k' n' s' ∧ VarV w' bX xk xn xs ∧ VarV w' bG gk gn gs)) (by kernel_rfl) ?_ (fun hHeld => ?_)
            · exact ⟨hA.below (by repeat (first | (with_reducible exact Below.refl _ _) | (with_reducible refine Below.drew ?_) | (with_reducible refine Below.alloc ?_ ?hh _; case hh => first | (simp; done) | (simp; omega) | omega) | (with_reducible refine Below.setCell ?_ ?hh _; case hh => first | (simp; done) | (simp; omega) | omega) | refine bstep (by assumption) (by first | (simp; done) | (simp; omega) | omega) ?_)), hC.below (by repeat (first | (with_reducible exact Below.refl _ _) | (with_reducible refine Below.drew ?_) | (with_reducible refine Below.alloc ?_ ?hh _; case hh => first | (simp; done) | (simp; omega) | omega) | (with_reducible refine Below.setCell ?_ ?hh _; case hh => first | (simp; done) | (simp; omega) | omega) | refine bstep (by assumption) (by first | (simp; done) | (simp; omega) | omega) ?_)), hX.below (by repeat (first | (with_reducible exact Below.refl _ _) | (with_reducible refine Below.drew ?_) | (with_reducible refine Below.alloc ?_ ?hh _; case hh => first | (simp; done) | (simp; omega) | omega) | (with_reducible refine Below.setCell ?_ ?hh _; case hh => first | (simp; done) | (simp; omega) | omega) | refine bstep (by assumption) (by first | (simp; done) | (simp; omega) | omega) ?_)), hG.below (by repeat (first | (with_reducible exact Below.refl _ _) | (with_reducible refine Below.drew ?_) | (with_reducible refine Below.alloc ?_ ?hh _; case hh => first | (simp; done) | (simp; omega) | omega) | (with_reducible refine Below.setCell ?_ ?hh _; case hh => first | (simp; done) | (simp; omega) | omega) | refine bstep (by assumption) (by first | (simp; done) | (simp; omega) | omega) ?_))⟩
            refine takeYes (i := 0) (d := 118) (v := ?_) rfl rfl (by kernel_rfl) (by kernel_rfl) (by kernel_rfl) (fun _ _ _ h => h) (by rfl) (by assumption) ?_ ?_
            rotate_left
            · intro w' hSw; obtain ⟨⟨_, _, a0, a1, a2⟩, ⟨_, _, c0', c1', c2'⟩, ⟨_, _, v0, v1, v2⟩, ⟨_, _, y0, y1, y2⟩⟩ := hSw; go_simp; try exact rfl
            try simp only [List.setIfInBounds_toArray, List.set_cons_zero, List.set_cons_succ]
            refine takeYes (i := 1) (d := 119) (v := ?_) rfl rfl (by kernel_rfl) (by kernel_rfl) (by kernel_rfl) (fun _ _ _ h => h) (by rfl) (by assumption) ?_ ?_
            rotate_left
            · intro w' hSw; obtain ⟨⟨_, _, a0, a1, a2⟩, ⟨_, _, c0', c1', c2'⟩, ⟨_, _, v0, v1, v2⟩, ⟨_, _, y0, y1, y2⟩⟩ := hSw; go_simp; try exact rfl
            try simp only [List.setIfInBounds_toArray, List.set_cons_zero, List.set_cons_succ]
            refine takeYes (i := 2) (d := 120) (v := ?_) rfl rfl (by kernel_rfl) (by kernel_rfl) (by kernel_rfl) (fun _ _ _ h => h) (by rfl) (by assumption) ?_ ?_
            rotate_left
            · intro w' hSw; obtain ⟨⟨_, _, a0, a1, a2⟩, ⟨_, _, c0', c1', c2'⟩, ⟨_, _, v0, v1, v2⟩, ⟨_, _, y0, y1, y2⟩⟩ := hSw; go_simp; try exact rfl
            try simp only [List.setIfInBounds_toArray, List.set_cons_zero, List.set_cons_succ]
            refine takeNo (i := 3) (d := 121) rfl rfl (by kernel_rfl) (by kernel_rfl) (by kernel_rfl) (fun _ _ _ h => h) (by rfl) (by assumption) ?_
            try simp only [List.setIfInBounds_toArray, List.set_cons_zero, List.set_cons_succ]
            refine takeNo (i := 4) (d := 122) rfl rfl (by kernel_rfl) (by kernel_rfl) (by kernel_rfl) (fun _ _ _ h => h) (by rfl) (by assumption) ?_
            try simp only [List.setIfInBounds_toArray, List.set_cons_zero, List.set_cons_succ]
            refine wpAnyH_ready (rs := [5]) (by kernel_rfl) (by simp) ?_
            refine AllReadyH.cons rfl (fun KK hKK => ?_) AllReadyH.nil
            go_simp
            refine hKK.out _ _ ?_ (fun hHeld5 => ?_)
            · exact ⟨hA.below (by repeat (first | (with_reducible exact Below.refl _ _) | (with_reducible refine Below.drew ?_) | (with_reducible refine Below.alloc ?_ ?hh _; case hh => first | (simp; done) | (simp; omega) | omega) | (with_reducible refine Below.setCell ?_ ?hh _; case hh => first | (simp; done) | (simp; omega) | omega) | refine bstep (by assumption) (by first | (simp; done) | (simp; omega) | omega) ?_)), hC.below (by repeat (first | (with_reducible exact Below.refl _ _) | (with_reducible refine Below.drew ?_) | (with_reducible refine Below.alloc ?_ ?hh _; case hh => first | (simp; done) | (simp; omega) | omega) | (with_reducible refine Below.setCell ?_ ?hh _; case hh => first | (simp; done) | (simp; omega) | omega) | refine bstep (by assumption) (by first | (simp; done) | (simp; omega) | omega) ?_)), hX.below (by repeat (first | (with_reducible exact Below.refl _ _) | (with_reducible refine Below.drew ?_) | (with_reducible refine Below.alloc ?_ ?hh _; case hh => first | (simp; done) | (simp; omega) | omega) | (with_reducible refine Below.setCell ?_ ?hh _; case hh => first | (simp; done) | (simp; omega) | omega) | refine bstep (by assumption) (by first | (simp; done) | (simp; omega) | omega) ?_)), hG.below (by repeat (first | (with_reducible exact Below.refl _ _) | (with_reducible refine Below.drew ?_) | (with_reducible refine Below.alloc ?_ ?hh _; case hh => first | (simp; done) | (simp; omega) | omega) | (with_reducible refine Below.setCell ?_ ?hh _; case hh => first | (simp; done) | (simp; omega) | omega) | refine bstep (by assumption) (by first | (simp; done) | (simp; omega) | omega) ?_))⟩
            clear hKK
            refine takeNo (i := 6) (d := 124) rfl rfl (by kernel_rfl) (by kernel_rfl) (by kernel_rfl) (fun _ _ _ h => h) (by rfl) (by assumption) ?_
            try simp only [List.setIfInBounds_toArray, List.set_cons_zero, List.set_cons_succ]
            refine takeYes (i := 7) (d := 125) (v := ?_) rfl rfl (by kernel_rfl) (by kernel_rfl) (by kernel_rfl) (fun _ _ _ h => h) (by rfl) (by assumption) ?_ ?_
            rotate_left
            · intro w' hSw; obtain ⟨⟨_, _, a0, a1, a2⟩, ⟨_, _, c0', c1', c2'⟩, ⟨_, _, v0, v1, v2⟩, ⟨_, _, y0, y1, y2⟩⟩ := hSw; go_simp; try exact rfl
            try simp only [List.setIfInBounds_toArray, List.set_cons_zero, List.set_cons_succ]
            refine takeYes (i := 8) (d := 126) (v := ?_) rfl rfl (by kernel_rfl) (by kernel_rfl) (by kernel_rfl) (fun _ _ _ h => h) (by rfl) (by assumption) ?_ ?_
            rotate_left
            · intro w' hSw; obtain ⟨⟨_, _, a0, a1, a2⟩, ⟨_, _, c0', c1', c2'⟩, ⟨_, _, v0, v1, v2⟩, ⟨_, _, y0, y1, y2⟩⟩ := hSw; go_simp; try exact rfl
            try simp only [List.setIfInBounds_toArray, List.set_cons_zero, List.set_cons_succ]
            refine takeNo (i := 9) (d := 127) rfl rfl (by kernel_rfl) (by kernel_rfl) (by kernel_rfl) (fun _ _ _ h => h) (by rfl) (by assumption) ?_
            try simp only [List.setIfInBounds_toArray, List.set_cons_zero, List.set_cons_succ]
            refine takeNo (i := 10) (d := 128) rfl rfl (by kernel_rfl) (by kernel_rfl) (by kernel_rfl) (fun _ _ _ h => h) (by rfl) (by assumption) ?_
            try simp only [List.setIfInBounds_toArray, List.set_cons_zero, List.set_cons_succ]
            refine wpAnyH_ready (rs := [11]) (by kernel_rfl) (by simp) ?_
            refine AllReadyH.cons rfl (fun KK hKK => ?_) AllReadyH.nil
            go_simp
            refine hKK.out _ _ ?_ (fun hHeld11 => ?_)
            · exact ⟨hA.below (by repeat (first | (with_reducible exact Below.refl _ _) | (with_reducible refine Below.drew ?_) | (with_reducible refine Below.alloc ?_ ?hh _; case hh => first | (simp; done) | (simp; omega) | omega) | (with_reducible refine Below.setCell ?_ ?hh _; case hh => first | (simp; done) | (simp; omega) | omega) | refine bstep (by assumption) (by first | (simp; done) | (simp; omega) | omega) ?_)), hC.below (by repeat (first | (with_reducible exact Below.refl _ _) | (with_reducible refine Below.drew ?_) | (with_reducible refine Below.alloc ?_ ?hh _; case hh => first | (simp; done) | (simp; omega) | omega) | (with_reducible refine Below.setCell ?_ ?hh _; case hh => first | (simp; done) | (simp; omega) | omega) | refine bstep (by assumption) (by first | (simp; done) | (simp; omega) | omega) ?_)), hX.below (by repeat (first | (with_reducible exact Below.refl _ _) | (with_reducible refine Below.drew ?_) | (with_reducible refine Below.alloc ?_ ?hh _; case hh => first | (simp; done) | (simp; omega) | omega) | (with_reducible refine Below.setCell ?_ ?hh _; case hh => first | (simp; done) | (simp; omega) | omega) | refine bstep (by assumption) (by first | (simp; done) | (simp; omega) | omega) ?_)), hG.below (by repeat (first | (with_reducible exact Below.refl _ _) | (with_reducible refine Below.drew ?_) | (with_reducible refine Below.alloc ?_ ?hh _; case hh => first | (simp; done) | (simp; omega) | omega) | (with_reducible refine Below.setCell ?_ ?hh _; case hh => first | (simp; done) | (simp; omega) | omega) | refine bstep (by assumption) (by first | (simp; done) | (simp; omega) | omega) ?_))⟩
            clear hKK
            refine takeNo (i := 12) (d := 130) rfl rfl (by kernel_rfl) (by kernel_rfl) (by kernel_rfl) (fun _ _ _ h => h) (by rfl) (by assumption) ?_
            try simp only [List.setIfInBounds_toArray, List.set_cons_zero, List.set_cons_succ]
            refine takeYes (i := 13) (d := 131) (v := ?_) rfl rfl (by kernel_rfl) (by kernel_rfl) (by kernel_rfl) (fun _ _ _ h => h) (by rfl) (by assumption) ?_ ?_
            rotate_left
            · intro w' hSw; obtain ⟨⟨_, _, a0, a1, a2⟩, ⟨_, _, c0', c1', c2'⟩, ⟨_, _, v0, v1, v2⟩, ⟨_, _, y0, y1, y2⟩⟩ := hSw; go_simp; try exact rfl
            try simp only [List.setIfInBounds_toArray, List.set_cons_zero, List.set_cons_succ]
            refine takeYes (i := 14) (d := 132) (v := ?_) rfl rfl (by kernel_rfl) (by kernel_rfl) (by kernel_rfl) (fun _ _ _ h => h) (by rfl) (by assumption) ?_ ?_
            rotate_left
            · intro w' hSw; obtain ⟨⟨_, _, a0, a1, a2⟩, ⟨_, _, c0', c1', c2'⟩, ⟨_, _, v0, v1, v2⟩, ⟨_, _, y0, y1, y2⟩⟩ := hSw; go_simp; try exact rfl
            try simp only [List.setIfInBounds_toArray, List.set_cons_zero, List.set_cons_succ]
            refine takeYes (i := 15) (d := 133) (v := ?_) rfl rfl (by kernel_rfl) (by kernel_rfl) (by kernel_rfl) (fun _ _ _ h => h) (by rfl) (by assumption) ?_ ?_
            rotate_left
            · intro w' hSw; obtain ⟨⟨_, _, a0, a1, a2⟩, ⟨_, _, c0', c1', c2'⟩, ⟨_, _, v0, v1, v2⟩, ⟨_, _, y0, y1, y2⟩⟩ := hSw; go_simp; try exact rfl
            try simp only [List.setIfInBounds_toArray, List.set_cons_zero, List.set_cons_succ]
            refine takeYes (i := 16) (d := 134) (v := ?_) rfl rfl (by kernel_rfl) (by kernel_rfl) (by kernel_rfl) (fun _ _ _ h => h) (by rfl) (by assumption) ?_ ?_
            rotate_left
            · intro w' hSw; obtain ⟨⟨_, _, a0, a1, a2⟩, ⟨_, _, c0', c1', c2'⟩, ⟨_, _, v0, v1, v2⟩, ⟨_, _, y0, y1, y2⟩⟩ := hSw; go_simp; try exact rfl
            try simp only [List.setIfInBounds_toArray, List.set_cons_zero, List.set_cons_succ]
            refine takeYes (i := 17) (d := 135) (v := ?_) rfl rfl (by kernel_rfl) (by kernel_rfl) (by kernel_rfl) (fun _ _ _ h => h) (by rfl) (by assumption) ?_ ?_
            rotate_left
            · intro w' hSw; obtain ⟨⟨_, _, a0, a1, a2⟩, ⟨_, _, c0', c1', c2'⟩, ⟨_, _, v0, v1, v2⟩, ⟨_, _, y0, y1, y2⟩⟩ := hSw; go_simp; try exact rfl
            try simp only [List.setIfInBounds_toArray, List.set_cons_zero, List.set_cons_succ]
            refine takeYes (i := 18) (d := 136) (v := ?_) rfl rfl (by kernel_rfl) (by kernel_rfl) (by kernel_rfl) (fun _ _ _ h => h) (by rfl) (by assumption) ?_ ?_
            rotate_left
            · intro w' hSw; obtain ⟨⟨_, _, a0, a1, a2⟩, ⟨_, _, c0', c1', c2'⟩, ⟨_, _, v0, v1, v2⟩, ⟨_, _, y0, y1, y2⟩⟩ := hSw; go_simp; try exact rfl
            try simp only [List.setIfInBounds_toArray, List.set_cons_zero, List.set_cons_succ]
            refine takeYes (i := 20) (d := 138) (v := ?_) rfl rfl (by kernel_rfl) (by kernel_rfl) (by kernel_rfl) (fun _ _ _ h => h) (by rfl) (by assumption) ?_ ?_
            rotate_left
            · intro w' hSw; obtain ⟨⟨_, _, a0, a1, a2⟩, ⟨_, _, c0', c1', c2'⟩, ⟨_, _, v0, v1, v2⟩, ⟨_, _, y0, y1, y2⟩⟩ := hSw; go_simp; try exact rfl
            try simp only [List.setIfInBounds_toArray, List.set_cons_zero, List.set_cons_succ]
            refine takeYes (i := 21) (d := 139) (v := ?_) rfl rfl (by kernel_rfl) (by kernel_rfl) (by kernel_rfl) (fun _ _ _ h => h) (by rfl) (by assumption) ?_ ?_
            rotate_left
            · intro w' hSw; obtain ⟨⟨_, _, a0, a1, a2⟩, ⟨_, _, c0', c1', c2'⟩, ⟨_, _, v0, v1, v2⟩, ⟨_, _, y0, y1, y2⟩⟩ := hSw; go_simp; try exact rfl
            try simp only [List.setIfInBounds_toArray, List.set_cons_zero, List.set_cons_succ]
            refine takeYes (i := 22) (d := 140) (v := ?_) rfl rfl (by kernel_rfl) (by kernel_rfl) (by kernel_rfl) (fun _ _ _ h => h) (by rfl) (by assumption) ?_ ?_
            rotate_left
            · intro w' hSw; obtain ⟨⟨_, _, a0, a1, a2⟩, ⟨_, _, c0', c1', c2'⟩, ⟨_, _, v0, v1, v2⟩, ⟨_, _, y0, y1, y2⟩⟩ := hSw; go_simp; try exact rfl
            try simp only [List.setIfInBounds_toArray, List.set_cons_zero, List.set_cons_succ]
            refine takeYes (i := 23) (d := 141) (v := ?_) rfl rfl (by kernel_rfl) (by kernel_rfl) (by kernel_rfl) (fun _ _ _ h => h) (by rfl) (by assumption) ?_ ?_
            rotate_left
            · intro w' hSw; obtain ⟨⟨_, _, a0, a1, a2⟩, ⟨_, _, c0', c1', c2'⟩, ⟨_, _, v0, v1, v2⟩, ⟨_, _, y0, y1, y2⟩⟩ := hSw; go_simp; try exact rfl
            try simp only [List.setIfInBounds_toArray, List.set_cons_zero, List.set_cons_succ]
            refine wpAnyH_ready (rs := [19]) (by kernel_rfl) (by simp) ?_
            refine AllReadyH.cons rfl (fun KK hKK => ?_) AllReadyH.nil
            go_simp
            go_at_call 8
            refine Calls.mono (implPut_any gk gn gs _ hgs) ?_
            rintro x w23 ⟨rfl, hb23⟩
            have hz23 := hb23.size
            (try simp at hz23)
            rw [gp.out]
            try go_wp2_with fail
            refine hKK.out _ _ ?_ (fun hHeld19 => ?_)
            · exact ⟨hA.below (by repeat (first | (with_reducible exact Below.refl _ _) | (with_reducible refine Below.drew ?_) | (with_reducible refine Below.alloc ?_ ?hh _; case hh => first | (simp; done) | (simp; omega) | omega) | (with_reducible refine Below.setCell ?_ ?hh _; case hh => first | (simp; done) | (simp; omega) | omega) | refine bstep (by assumption) (by first | (simp; done) | (simp; omega) | omega) ?_)), hC.below (by repeat (first | (with_reducible exact Below.refl _ _) | (with_reducible refine Below.drew ?_) | (with_reducible refine Below.alloc ?_ ?hh _; case hh => first | (simp; done) | (simp; omega) | omega) | (with_reducible refine Below.setCell ?_ ?hh _; case hh => first | (simp; done) | (simp; omega) | omega) | refine bstep (by assumption) (by first | (simp; done) | (simp; omega) | omega) ?_)), hX.below (by repeat (first | (with_reducible exact Below.refl _ _) | (with_reducible refine Below.drew ?_) | (with_reducible refine Below.alloc ?_ ?hh _; case hh => first | (simp; done) | (simp; omega) | omega) | (with_reducible refine Below.setCell ?_ ?hh _; case hh => first | (simp; done) | (simp; omega) | omega) | refine bstep (by assumption) (by first | (simp; done) | (simp; omega) | omega) ?_)), hG.below (by repeat (first | (with_reducible exact Below.refl _ _) | (with_reducible refine Below.drew ?_) | (with_reducible refine Below.alloc ?_ ?hh _; case hh => first | (simp; done) | (simp; omega) | omega) | (with_reducible refine Below.setCell ?_ ?hh _; case hh => first | (simp; done) | (simp; omega) | omega) | refine bstep (by assumption) (by first | (simp; done) | (simp; omega) | omega) ?_))⟩
            clear hKK
            refine takeYes (i := 24) (d := 142) (v := ?_) rfl rfl (by kernel_rfl) (by kernel_rfl) (by kernel_rfl) (fun _ _ _ h => h) (by rfl) (by assumption) ?_ ?_
            rotate_left
            · intro w' hSw; obtain ⟨⟨_, _, a0, a1, a2⟩, ⟨_, _, c0', c1', c2'⟩, ⟨_, _, v0, v1, v2⟩, ⟨_, _, y0, y1, y2⟩⟩ := hSw; go_simp; try exact rfl
            try simp only [List.setIfInBounds_toArray, List.set_cons_zero, List.set_cons_succ]
            refine takeYes (i := 25) (d := 143) (v := ?_) rfl rfl (by kernel_rfl) (by kernel_rfl) (by kernel_rfl) (fun _ _ _ h => h) (by rfl) (by assumption) ?_ ?_
            rotate_left
            · intro w' hSw; obtain ⟨⟨_, _, a0, a1, a2⟩, ⟨_, _, c0', c1', c2'⟩, ⟨_, _, v0, v1, v2⟩, ⟨_, _, y0, y1, y2⟩⟩ := hSw; go_simp; try exact rfl
            try simp only [List.setIfInBounds_toArray, List.set_cons_zero, List.set_cons_succ]
            refine takeYes (i := 26) (d := 144) (v := ?_) rfl rfl (by kernel_rfl) (by kernel_rfl) (by kernel_rfl) (fun _ _ _ h => h) (by rfl) (by assumption) ?_ ?_
            rotate_left
            · intro w' hSw; obtain ⟨⟨_, _, a0, a1, a2⟩, ⟨_, _, c0', c1', c2'⟩, ⟨_, _, v0, v1, v2⟩, ⟨_, _, y0, y1, y2⟩⟩ := hSw; go_simp; try exact rfl
            try simp only [List.setIfInBounds_toArray, List.set_cons_zero, List.set_cons_succ]
            refine wpAnyH_done (by kernel_rfl) ?_ _
            go_wp2_with fail
            (try go_meet)
            (try (case rel => exact ⟨rfl, by repeat (first | (with_reducible exact Below.refl _ _) | (with_reducible refine Below.drew ?_) | (with_reducible refine Below.alloc ?_ ?hh _; case hh => first | (simp; done) | (simp; omega) | omega) | (with_reducible refine Below.setCell ?_ ?hh _; case hh => first | (simp; done) | (simp; omega) | omega) | refine bstep (by assumption) (by first | (simp; done) | (simp; omega) | omega) ?_)⟩))
        · have d3 : decide (0 < gj) = false := by simpa using hg0
          as_aux_lemma =>
            refine wp_region_held_drew (S := (fun w' => VarV w' bA k n s ∧ VarV w' bC k' n' s' ∧ VarV w' bX xk xn xs ∧ VarV w' bG gk gn gs)) (by kernel_rfl) ?_ (fun hHeld => ?_)
            · exact ⟨hA.below (by repeat (first | (with_reducible exact Below.refl _ _) | (with_reducible refine Below.drew ?_) | (with_reducible refine Below.alloc ?_ ?hh _; case hh => first | (simp; done) | (simp; omega) | omega) | (with_reducible refine Below.setCell ?_ ?hh _; case hh => first | (simp; done) | (simp; omega) | omega) | refine bstep (by assumption) (by first | (simp; done) | (simp; omega) | omega) ?_)), hC.below (by repeat (first | (with_reducible exact Below.refl _ _) | (with_reducible refine Below.drew ?_) | (with_reducible refine Below.alloc ?_ ?hh _; case hh => first | (simp; done) | (simp; omega) | omega) | (with_reducible refine Below.setCell ?_ ?hh _; case hh => first | (simp; done) | (simp; omega) | omega) | refine bstep (by assumption) (by first | (simp; done) | (simp; omega) | omega) ?_)), hX.below (by repeat (first | (with_reducible exact Below.refl _ _) | (with_reducible refine Below.drew ?_) | (with_reducible refine Below.alloc ?_ ?hh _; case hh => first | (simp; done) | (simp; omega) | omega) | (with_reducible refine Below.setCell ?_ ?hh _; case hh => first | (simp; done) | (simp; omega) | omega) | refine bstep (by assumption) (by first | (simp; done) | (simp; omega) | omega) ?_)), hG.below (by repeat (first | (with_reducible exact Below.refl _ _) | (with_reducible refine Below.drew ?_) | (with_reducible refine Below.alloc ?_ ?hh _; case hh => first | (simp; done) | (simp; omega) | omega) | (with_reducible refine Below.setCell ?_ ?hh _; case hh => first | (simp; done) | (simp; omega) | omega) | refine bstep (by assumption) (by first | (simp; done) | (simp; omega) | omega) ?_))⟩
            refine takeYes (i := 0) (d := 118) (v := ?_) rfl rfl (by kernel_rfl) (by kernel_rfl) (by kernel_rfl) (fun _ _ _ h => h) (by rfl) (by assumption) ?_ ?_
            rotate_left
            · intro w' hSw; obtain ⟨⟨_, _, a0, a1, a2⟩, ⟨_, _, c0', c1', c2'⟩, ⟨_, _, v0, v1, v2⟩, ⟨_, _, y0, y1, y2⟩⟩ := hSw; go_simp; try exact rfl
            try simp only [List.setIfInBounds_toArray, List.set_cons_zero, List.set_cons_succ]
            refine takeYes (i := 1) (d := 119) (v := ?_) rfl rfl (by kernel_rfl) (by kernel_rfl) (by kernel_rfl) (fun _ _ _ h => h) (by rfl) (by assumption) ?_ ?_
            rotate_left
            · intro w' hSw; obtain ⟨⟨_, _, a0, a1, a2⟩, ⟨_, _, c0', c1', c2'⟩, ⟨_, _, v0, v1, v2⟩, ⟨_, _, y0, y1, y2⟩⟩ := hSw; go_simp; try exact rfl
            try simp only [List.setIfInBounds_toArray, List.set_cons_zero, List.set_cons_succ]
            refine takeYes (i := 2) (d := 120) (v := ?_) rfl rfl (by kernel_rfl) (by kernel_rfl) (by kernel_rfl) (fun _ _ _ h => h) (by rfl) (by assumption) ?_ ?_
            rotate_left
            · intro w' hSw; obtain ⟨⟨_, _, a0, a1, a2⟩, ⟨_, _, c0', c1', c2'⟩, ⟨_, _, v0, v1, v2⟩, ⟨_, _, y0, y1, y2⟩⟩ := hSw; go_simp; try exact rfl
            try simp only [List.setIfInBounds_toArray, List.set_cons_zero, List.set_cons_succ]
            refine takeNo (i := 3) (d := 121) rfl rfl (by kernel_rfl) (by kernel_rfl) (by kernel_rfl) (fun _ _ _ h => h) (by rfl) (by assumption) ?_
            try simp only [List.setIfInBounds_toArray, List.set_cons_zero, List.set_cons_succ]
            refine takeNo (i := 4) (d := 122) rfl rfl (by kernel_rfl) (by kernel_rfl) (by kernel_rfl) (fun _ _ _ h => h) (by rfl) (by assumption) ?_
            try simp only [List.setIfInBounds_toArray, List.set_cons_zero, List.set_cons_succ]
            refine wpAnyH_ready (rs := [5]) (by kernel_rfl) (by simp) ?_
            refine AllReadyH.cons rfl (fun KK hKK => ?_) AllReadyH.nil
            go_simp
            refine hKK.out _ _ ?_ (fun hHeld5 => ?_)
            · exact ⟨hA.below (by repeat (first | (with_reducible exact Below.refl _ _) | (with_reducible refine Below.drew ?_) | (with_reducible refine Below.alloc ?_ ?hh _; case hh => first | (simp; done) | (simp; omega) | omega) | (with_reducible refine Below.setCell ?_ ?hh _; case hh => first | (simp; done) | (simp; omega) | omega) | refine bstep (by assumption) (by first | (simp; done) | (simp; omega) | omega) ?_)), hC.below (by repeat (first | (with_reducible exact Below.refl _ _) | (with_reducible refine Below.drew ?_) | (with_reducible refine Below.alloc ?_ ?hh _; case hh => first | (simp; done) | (simp; omega) | omega) | (with_reducible refine Below.setCell ?_ ?hh _; case hh => first | (simp; done) | (simp; omega) | omega) | refine bstep (by assumption) (by first | (simp; done) | (simp; omega) | omega) ?_)), hX.below (by repeat (first | (with_reducible exact Below.refl _ _) | (with_reducible refine Below.drew ?_) | (with_reducible refine Below.alloc ?_ ?hh _; case hh => first | (simp; done) | (simp; omega) | omega) | (with_reducible refine Below.setCell ?_ ?hh _; case hh => first | (simp; done) | (simp; omega) | omega) | refine bstep (by assumption) (by first | (simp; done) | (simp; omega) | omega) ?_)), hG.below (by repeat (first | (with_reducible exact Below.refl _ _) | (with_reducible refine Below.drew ?_) | (with_reducible refine Below.alloc ?_ ?hh _; case hh => first | (simp; done) | (simp; omega) | omega) | (with_reducible refine Below.setCell ?_ ?hh _; case hh => first | (simp; done) | (simp; omega) | omega) | refine bstep (by assumption) (by first | (simp; done) | (simp; omega) | omega) ?_))⟩
            clear hKK
            refine takeNo (i := 6) (d := 124) rfl rfl (by kernel_rfl) (by kernel_rfl) (by kernel_rfl) (fun _ _ _ h => h) (by rfl) (by assumption) ?_
            try simp only [List.setIfInBounds_toArray, List.set_cons_zero, List.set_cons_succ]
            refine takeYes (i := 7) (d := 125) (v := ?_) rfl rfl (by kernel_rfl) (by kernel_rfl) (by kernel_rfl) (fun _ _ _ h => h) (by rfl) (by assumption) ?_ ?_
            rotate_left
            · intro w' hSw; obtain ⟨⟨_, _, a0, a1, a2⟩, ⟨_, _, c0', c1', c2'⟩, ⟨_, _, v0, v1, v2⟩, ⟨_, _, y0, y1, y2⟩⟩ := hSw; go_simp; try exact rfl
            try simp only [List.setIfInBounds_toArray, List.set_cons_zero, List.set_cons_succ]
            refine takeYes (i := 8) (d := 126) (v := ?_) rfl rfl (by kernel_rfl) (by kernel_rfl) (by kernel_rfl) (fun _ _ _ h => h) (by rfl) (by assumption) ?_ ?_
            rotate_left
            · intro w' hSw; obtain ⟨⟨_, _, a0, a1, a2⟩, ⟨_, _, c0', c1', c2'⟩, ⟨_, _, v0, v1, v2⟩, ⟨_, _, y0, y1, y2⟩⟩ := hSw; go_simp; try exact rfl
            try simp only [List.setIfInBounds_toArray, List.set_cons_zero, List.set_cons_succ]
            refine takeNo (i := 9) (d := 127) rfl rfl (by kernel_rfl) (by kernel_rfl) (by kernel_rfl) (fun _ _ _ h => h) (by rfl) (by assumption) ?_
            try simp only [List.setIfInBounds_toArray, List.set_cons_zero, List.set_cons_succ]
            refine takeNo (i := 10) (d := 128) rfl rfl (by kernel_rfl) (by kernel_rfl) (by kernel_rfl) (fun _ _ _ h => h) (by rfl) (by assumption) ?_
            try simp only [List.setIfInBounds_toArray, List.set_cons_zero, List.set_cons_succ]
            refine wpAnyH_ready (rs := [11]) (by kernel_rfl) (by simp) ?_
            refine AllReadyH.cons rfl (fun KK hKK => ?_) AllReadyH.nil
            go_simp
            refine hKK.out _ _ ?_ (fun hHeld11 => ?_)
            · exact ⟨hA.below (by repeat (first | (with_reducible exact Below.refl _ _) | (with_reducible refine Below.drew ?_) | (with_reducible refine Below.alloc ?_ ?hh _; case hh => first | (simp; done) | (simp; omega) | omega) | (with_reducible refine Below.setCell ?_ ?hh _; case hh => first | (simp; done) | (simp; omega) | omega) | refine bstep (by assumption) (by first | (simp; done) | (simp; omega) | omega) ?_)), hC.below (by repeat (first | (with_reducible exact Below.refl _ _) | (with_reducible refine Below.drew ?_) | (with_reducible refine Below.alloc ?_ ?hh _; case hh => first | (simp; done) | (simp; omega) | omega) | (with_reducible refine Below.setCell ?_ ?hh _; case hh => first | (simp; done) | (simp; omega) | omega) | refine bstep (by assumption) (by first | (simp; done) | (simp; omega) | omega) ?_)), hX.below (by repeat (first | (with_reducible exact Below.refl _ _) | (with_reducible refine Below.drew ?_) | (with_reducible refine Below.alloc ?_ ?hh _; case hh => first | (simp; done) | (simp; omega) | omega) | (with_reducible refine Below.setCell ?_ ?hh _; case hh => first | (simp; done) | (simp; omega) | omega) | refine bstep (by assumption) (by first | (simp; done) | (simp; omega) | omega) ?_)), hG.below (by repeat (first | (with_reducible exact Below.refl _ _) | (with_reducible refine Below.drew ?_) | (with_reducible refine Below.alloc ?_ ?hh _; case hh => first | (simp; done) | (simp; omega) | omega) | (with_reducible refine Below.setCell ?_ ?hh _; case hh => first | (simp; done) | (simp; omega) | omega) | refine bstep (by assumption) (by first | (simp; done) | (simp; omega) | omega) ?_))⟩
            clear hKK
            refine takeNo (i := 12) (d := 130) rfl rfl (by kernel_rfl) (by kernel_rfl) (by kernel_rfl) (fun _ _ _ h => h) (by rfl) (by assumption) ?_
            try simp only [List.setIfInBounds_toArray, List.set_cons_zero, List.set_cons_succ]
            refine takeYes (i := 13) (d := 131) (v := ?_) rfl rfl (by kernel_rfl) (by kernel_rfl) (by kernel_rfl) (fun _ _ _ h => h) (by rfl) (by assumption) ?_ ?_
            rotate_left
            · intro w' hSw; obtain ⟨⟨_, _, a0, a1, a2⟩, ⟨_, _, c0', c1', c2'⟩, ⟨_, _, v0, v1, v2⟩, ⟨_, _, y0, y1, y2⟩⟩ := hSw; go_simp; try exact rfl
            try simp only [List.setIfInBounds_toArray, List.set_cons_zero, List.set_cons_succ]
            refine takeYes (i := 14) (d := 132) (v := ?_) rfl rfl (by kernel_rfl) (by kernel_rfl) (by kernel_rfl) (fun _ _ _ h => h) (by rfl) (by assumption) ?_ ?_
            rotate_left
            · intro w' hSw; obtain ⟨⟨_, _, a0, a1, a2⟩, ⟨_, _, c0', c1', c2'⟩, ⟨_, _, v0, v1, v2⟩, ⟨_, _, y0, y1, y2⟩⟩ := hSw; go_simp; try exact rfl
            try simp only [List.setIfInBounds_toArray, List.set_cons_zero, List.set_cons_succ]
            refine takeYes (i := 15) (d := 133) (v := ?_) rfl rfl (by kernel_rfl) (by kernel_rfl) (by kernel_rfl) (fun _ _ _ h => h) (by rfl) (by assumption) ?_ ?_
            rotate_left
            · intro w' hSw; obtain ⟨⟨_, _, a0, a1, a2⟩, ⟨_, _, c0', c1', c2'⟩, ⟨_, _, v0, v1, v2⟩, ⟨_, _, y0, y1, y2⟩⟩ := hSw; go_simp; try exact rfl
            try simp only [List.setIfInBounds_toArray, List.set_cons_zero, List.set_cons_succ]
            refine takeYes (i := 16) (d := 134) (v := ?_) rfl rfl (by kernel_rfl) (by kernel_rfl) (by kernel_rfl) (fun _ _ _ h => h) (by rfl) (by assumption) ?_ ?_
            rotate_left
            · intro w' hSw; obtain ⟨⟨_, _, a0, a1, a2⟩, ⟨_, _, c0', c1', c2'⟩, ⟨_, _, v0, v1, v2⟩, ⟨_, _, y0, y1, y2⟩⟩ := hSw; go_simp; try exact rfl
            try simp only [List.setIfInBounds_toArray, List.set_cons_zero, List.set_cons_succ]
            refine takeYes (i := 17) (d := 135) (v := ?_) rfl rfl (by kernel_rfl) (by kernel_rfl) (by kernel_rfl) (fun _ _ _ h => h) (by rfl) (by assumption) ?_ ?_
            rotate_left
            · intro w' hSw; obtain ⟨⟨_, _, a0, a1, a2⟩, ⟨_, _, c0', c1', c2'⟩, ⟨_, _, v0, v1, v2⟩, ⟨_, _, y0, y1, y2⟩⟩ := hSw; go_simp; try exact rfl
            try simp only [List.setIfInBounds_toArray, List.set_cons_zero, List.set_cons_succ]
            refine takeNo (i := 18) (d := 136) rfl rfl (by kernel_rfl) (by kernel_rfl) (by kernel_rfl) (fun _ _ _ h => h) (by rfl) (by assumption) ?_
            try simp only [List.setIfInBounds_toArray, List.set_cons_zero, List.set_cons_succ]
            refine takeNo (i := 20) (d := 138) rfl rfl (by kernel_rfl) (by kernel_rfl) (by kernel_rfl) (fun _ _ _ h => h) (by rfl) (by assumption) ?_
            try simp only [List.setIfInBounds_toArray, List.set_cons_zero, List.set_cons_succ]
            refine takeNo (i := 21) (d := 139) rfl rfl (by kernel_rfl) (by kernel_rfl) (by kernel_rfl) (fun _ _ _ h => h) (by rfl) (by assumption) ?_
            try simp only [List.setIfInBounds_toArray, List.set_cons_zero, List.set_cons_succ]
            refine takeNo (i := 22) (d := 140) rfl rfl (by kernel_rfl) (by kernel_rfl) (by kernel_rfl) (fun _ _ _ h => h) (by rfl) (by assumption) ?_
            try simp only [List.setIfInBounds_toArray, List.set_cons_zero, List.set_cons_succ]
            refine takeNo (i := 23) (d := 141) rfl rfl (by kernel_rfl) (by kernel_rfl) (by kernel_rfl) (fun _ _ _ h => h) (by rfl) (by assumption) ?_
            try simp only [List.setIfInBounds_toArray, List.set_cons_zero, List.set_cons_succ]
            refine wpAnyH_ready (rs := [19]) (by kernel_rfl) (by simp) ?_
            refine AllReadyH.cons rfl (fun KK hKK => ?_) AllReadyH.nil
            go_simp
            refine hKK.out _ _ ?_ (fun hHeld19 => ?_)
            · exact ⟨hA.below (by repeat (first | (with_reducible exact Below.refl _ _) | (with_reducible refine Below.drew ?_) | (with_reducible refine Below.alloc ?_ ?hh _; case hh => first | (simp; done) | (simp; omega) | omega) | (with_reducible refine Below.setCell ?_ ?hh _; case hh => first | (simp; done) | (simp; omega) | omega) | refine bstep (by assumption) (by first | (simp; done) | (simp; omega) | omega) ?_)), hC.below (by repeat (first | (with_reducible exact Below.refl _ _) | (with_reducible refine Below.drew ?_) | (with_reducible refine Below.alloc ?_ ?hh _; case hh => first | (simp; done) | (simp; omega) | omega) | (with_reducible refine Below.setCell ?_ ?hh _; case hh => first | (simp; done) | (simp; omega) | omega) | refine bstep (by assumption) (by first | (simp; done) | (simp; omega) | omega) ?_)), hX.below (by repeat (first | (with_reducible exact Below.refl _ _) | (with_reducible refine Below.drew ?_) | (with_reducible refine Below.alloc ?_ ?hh _; case hh => first | (simp; done) | (simp; omega) | omega) | (with_reducible refine Below.setCell ?_ ?hh _; case hh => first | (simp; done) | (simp; omega) | omega) | refine bstep (by assumption) (by first | (simp; done) | (simp; omega) | omega) ?_)), hG.below (by repeat (first | (with_reducible exact Below.refl _ _) | (with_reducible refine Below.drew ?_) | (with_reducible refine Below.alloc ?_ ?hh _; case hh => first | (simp; done) | (simp; omega) | omega) | (with_reducible refine Below.setCell ?_ ?hh _; case hh => first | (simp; done) | (simp; omega) | omega) | refine bstep (by assumption) (by first | (simp; done) | (simp; omega) | omega) ?_))⟩
            clear hKK
            refine takeNo (i := 24) (d := 142) rfl rfl (by kernel_rfl) (by kernel_rfl) (by kernel_rfl) (fun _ _ _ h => h) (by rfl) (by assumption) ?_
            try simp only [List.setIfInBounds_toArray, List.set_cons_zero, List.set_cons_succ]
            refine takeYes (i := 25) (d := 143) (v := ?_) rfl rfl (by kernel_rfl) (by kernel_rfl) (by kernel_rfl) (fun _ _ _ h => h) (by rfl) (by assumption) ?_ ?_
            rotate_left
            · intro w' hSw; obtain ⟨⟨_, _, a0, a1, a2⟩, ⟨_, _, c0', c1', c2'⟩, ⟨_, _, v0, v1, v2⟩, ⟨_, _, y0, y1, y2⟩⟩ := hSw; go_simp; try exact rfl
            try simp only [List.setIfInBounds_toArray, List.set_cons_zero, List.set_cons_succ]
            refine takeYes (i := 26) (d := 144) (v := ?_) rfl rfl (by kernel_rfl) (by kernel_rfl) (by kernel_rfl) (fun _ _ _ h => h) (by rfl) (by assumption) ?_ ?_
            rotate_left
            · intro w' hSw; obtain ⟨⟨_, _, a0, a1, a2⟩, ⟨_, _, c0', c1', c2'⟩, ⟨_, _, v0, v1, v2⟩, ⟨_, _, y0, y1, y2⟩⟩ := hSw; go_simp; try exact rfl
            try simp only [List.setIfInBounds_toArray, List.set_cons_zero, List.set_cons_succ]
            refine wpAnyH_done (by kernel_rfl) ?_ _
            go_wp2_with fail
            (try go_meet)
            (try (case rel => exact ⟨rfl, by repeat (first | (with_reducible exact Below.refl _ _) | (with_reducible refine Below.drew ?_) | (with_reducible refine Below.alloc ?_ ?hh _; case hh => first | (simp; done) | (simp; omega) | omega) | (with_reducible refine Below.setCell ?_ ?hh _; case hh => first | (simp; done) | (simp; omega) | omega) | refine bstep (by assumption) (by first | (simp; done) | (simp; omega) | omega) ?_)⟩))
      by_cases hc1 : c1 ≤ 0
      rotate_left
      · have d0 : decide (c0 ≤ 0) = true := by simpa using hc0
        have d1 : decide (c1 ≤ 0) = false := by simpa using hc1
        clear tr
        by_cases hg0 : 0 < gj
        · obtain ⟨j0, j1, j2, gp0, hgs0⟩ := GP.out (by omega)
          have gp : Hid (putS gk gn gs = u.extract i.toNat gj.toNat) := gp0
          have hgs : gs.size ≤ maxLen := by unfold maxLen; omega
          have d3 : decide (0 < gj) = true := by simpa using hg0
          have j3 : 0 ≤ gj := by omega
          have j4 : i ≤ gj := by omega
          clear GP gp0
          as_aux_lemma =>
            refine wp_region_held_drew (S := (fun w' => VarV w' bA k n s ∧ VarV w' bC k' n' s' ∧ VarV w' bX xk xn xs ∧ VarV w' bG gk gn gs)) (by kernel_rfl) ?_ (fun hHeld => ?_)
            · exact ⟨hA.below (by repeat (first | (with_reducible exact Below.refl _ _) | (with_reducible refine Below.drew ?_) | (with_reducible refine Below.alloc ?_ ?hh _; case hh => first | (simp; done) | (simp; omega) | omega) | (with_reducible refine Below.setCell ?_ ?hh _; case hh => first | (simp; done) | (simp; omega) | omega) | refine bstep (by assumption) (by first | (simp; done) | (simp; omega) | omega) ?_)), hC.below (by repeat (first | (with_reducible exact Below.refl _ _) | (with_reducible refine Below.drew ?_) | (with_reducible refine Below.alloc ?_ ?hh _; case hh => first | (simp; done) | (simp; omega) | omega) | (with_reducible refine Below.setCell ?_ ?hh _; case hh => first | (simp; done) | (simp; omega) | omega) | refine bstep (by assumption) (by first | (simp; done) | (simp; omega) | omega) ?_)), hX.below (by repeat (first | (with_reducible exact Below.refl _ _) | (with_reducible refine Below.drew ?_) | (with_reducible refine Below.alloc ?_ ?hh _; case hh => first | (simp; done) | (simp; omega) | omega) | (with_reducible refine Below.setCell ?_ ?hh _; case hh => first | (simp; done) | (simp; omega) | omega) | refine bstep (by assumption) (by first | (simp; done) | (simp; omega) | omega) ?_)), hG.below (by repeat (first | (with_reducible exact Below.refl _ _) | (with_reducible refine Below.drew ?_) | (with_reducible refine Below.alloc ?_ ?hh _; case hh => first | (simp; done) | (simp; omega) | omega) | (with_reducible refine Below.setCell ?_ ?hh _; case hh => first | (simp; done) | (simp; omega) | omega) | refine bstep (by assumption) (by first | (simp; done) | (simp; omega) | omega) ?_))⟩
            refine takeYes (i := 0) (d := 118) (v := ?_) rfl rfl (by kernel_rfl) (by kernel_rfl) (by kernel_rfl) (fun _ _ _ h => h) (by rfl) (by assumption) ?_ ?_
            rotate_left
            · intro w' hSw; obtain ⟨⟨_, _, a0, a1, a2⟩, ⟨_, _, c0', c1', c2'⟩, ⟨_, _, v0, v1, v2⟩, ⟨_, _, y0, y1, y2⟩⟩ := hSw; go_simp; try exact rfl
            try simp only [List.setIfInBounds_toArray, List.set_cons_zero, List.set_cons_succ]
            refine takeYes (i := 1) (d := 119) (v := ?_) rfl rfl (by kernel_rfl) (by kernel_rfl) (by kernel_rfl) (fun _ _ _ h => h) (by rfl) (by assumption) ?_ ?_
            rotate_left
            · intro w' hSw; obtain ⟨⟨_, _, a0, a1, a2⟩, ⟨_, _, c0', c1', c2'⟩, ⟨_, _, v0, v1, v2⟩, ⟨_, _, y0, y1, y2⟩⟩ := hSw; go_simp; try exact rfl
            try simp only [List.setIfInBounds_toArray, List.set_cons_zero, List.set_cons_succ]
            refine takeYes (i := 2) (d := 120) (v := ?_) rfl rfl (by kernel_rfl) (by kernel_rfl) (by kernel_rfl) (fun _ _ _ h => h) (by rfl) (by assumption) ?_ ?_
            rotate_left
            · intro w' hSw; obtain ⟨⟨_, _, a0, a1, a2⟩, ⟨_, _, c0', c1', c2'⟩, ⟨_, _, v0, v1, v2⟩, ⟨_, _, y0, y1, y2⟩⟩ := hSw; go_simp; try exact rfl
            try simp only [List.setIfInBounds_toArray, List.set_cons_zero, List.set_cons_succ]
            refine takeYes (i := 3) (d := 121) (v := ?_) rfl rfl (by kernel_rfl) (by kernel_rfl) (by kernel_rfl) (fun _ _ _ h => h) (by rfl) (by assumption) ?_ ?_
            rotate_left
            · intro w' hSw; obtain ⟨⟨_, _, a0, a1, a2⟩, ⟨_, _, c0', c1', c2'⟩, ⟨_, _, v0, v1, v2⟩, ⟨_, _, y0, y1, y2⟩⟩ := hSw; go_simp; try exact rfl
            try simp only [List.setIfInBounds_toArray, List.set_cons_zero, List.set_cons_succ]
            refine takeYes (i := 4) (d := 122) (v := ?_) rfl rfl (by kernel_rfl) (by kernel_rfl) (by kernel_rfl) (fun _ _ _ h => h) (by rfl) (by assumption) ?_ ?_
            rotate_left
            · intro w' hSw; obtain ⟨⟨_, _, a0, a1, a2⟩, ⟨_, _, c0', c1', c2'⟩, ⟨_, _, v0, v1, v2⟩, ⟨_, _, y0, y1, y2⟩⟩ := hSw; go_simp; try exact rfl
            try simp only [List.setIfInBounds_toArray, List.set_cons_zero, List.set_cons_succ]
            refine wpAnyH_ready (rs := [5]) (by kernel_rfl) (by simp) ?_
            refine AllReadyH.cons rfl (fun KK hKK => ?_) AllReadyH.nil
            go_simp
            go_at_call 6
            refine Calls.mono (implCmp_any k' n' xk xn s' xs _) ?_
            rintro x w21 ⟨rfl, hb21⟩
            have hz21 := hb21.size
            (try simp at hz21)
            rw [e1.out]
            try go_wp2_with fail
            refine hKK.out _ _ ?_ (fun hHeld5 => ?_)
            · exact ⟨hA.below (by repeat (first | (with_reducible exact Below.refl _ _) | (with_reducible refine Below.drew ?_) | (with_reducible refine Below.alloc ?_ ?hh _; case hh => first | (simp; done) | (simp; omega) | omega) | (with_reducible refine Below.setCell ?_ ?hh _; case hh => first | (simp; done) | (simp; omega) | omega) | refine bstep (by assumption) (by first | (simp; done) | (simp; omega) | omega) ?_)), hC.below (by repeat (first | (with_reducible exact Below.refl _ _) | (with_reducible refine Below.drew ?_) | (with_reducible refine Below.alloc ?_ ?hh _; case hh => first | (simp; done) | (simp; omega) | omega) | (with_reducible refine Below.setCell ?_ ?hh _; case hh => first | (simp; done) | (simp; omega) | omega) | refine bstep (by assumption) (by first | (simp; done) | (simp; omega) | omega) ?_)), hX.below (by repeat (first | (with_reducible exact Below.refl _ _) | (with_reducible refine Below.drew ?_) | (with_reducible refine Below.alloc ?_ ?hh _; case hh => first | (simp; done) | (simp; omega) | omega) | (with_reducible refine Below.setCell ?_ ?hh _; case hh => first | (simp; done) | (simp; omega) | omega) | refine bstep (by assumption) (by first | (simp; done) | (simp; omega) | omega) ?_)), hG.below (by repeat (first | (with_reducible exact Below.refl _ _) | (with_reducible refine Below.drew ?_) | (with_reducible refine Below.alloc ?_ ?hh _; case hh => first | (simp; done) | (simp; omega) | omega) | (with_reducible refine Below.setCell ?_ ?hh _; case hh => first | (simp; done) | (simp; omega) | omega) | refine bstep (by assumption) (by first | (simp; done) | (simp; omega) | omega) ?_))⟩
            clear hKK
            refine takeYes (i := 6) (d := 124) (v := ?_) rfl rfl (by kernel_rfl) (by kernel_rfl) (by kernel_rfl) (fun _ _ _ h => h) (by rfl) (by assumption) ?_ ?_
            rotate_left
            · intro w' hSw; obtain ⟨⟨_, _, a0, a1, a2⟩, ⟨_, _, c0', c1', c2'⟩, ⟨_, _, v0, v1, v2⟩, ⟨_, _, y0, y1, y2⟩⟩ := hSw; go_simp; try exact rfl
            try simp only [List.setIfInBounds_toArray, List.set_cons_zero, List.set_cons_succ]
            refine takeYes (i := 7) (d := 125) (v := ?_) rfl rfl (by kernel_rfl) (by kernel_rfl) (by kernel_rfl) (fun _ _ _ h => h) (by rfl) (by assumption) ?_ ?_
            rotate_left
            · intro w' hSw; obtain ⟨⟨_, _, a0, a1, a2⟩, ⟨_, _, c0', c1', c2'⟩, ⟨_, _, v0, v1, v2⟩, ⟨_, _, y0, y1, y2⟩⟩ := hSw; go_simp; try exact rfl
            try simp only [List.setIfInBounds_toArray, List.set_cons_zero, List.set_cons_succ]
            refine takeYes (i := 8) (d := 126) (v := ?_) rfl rfl (by kernel_rfl) (by kernel_rfl) (by kernel_rfl) (fun _ _ _ h => h) (by rfl) (by assumption) ?_ ?_
            rotate_left
            · intro w' hSw; obtain ⟨⟨_, _, a0, a1, a2⟩, ⟨_, _, c0', c1', c2'⟩, ⟨_, _, v0, v1, v2⟩, ⟨_, _, y0, y1, y2⟩⟩ := hSw; go_simp; try exact rfl
            try simp only [List.setIfInBounds_toArray, List.set_cons_zero, List.set_cons_succ]
            refine takeNo (i := 9) (d := 127) rfl rfl (by kernel_rfl) (by kernel_rfl) (by kernel_rfl) (fun _ _ _ h => h) (by rfl) (by assumption) ?_
            try simp only [List.setIfInBounds_toArray, List.set_cons_zero, List.set_cons_succ]
            refine takeNo (i := 10) (d := 128) rfl rfl (by kernel_rfl) (by kernel_rfl) (by kernel_rfl) (fun _ _ _ h => h) (by rfl) (by assumption) ?_
            try simp only [List.setIfInBounds_toArray, List.set_cons_zero, List.set_cons_succ]
            refine wpAnyH_ready (rs := [11]) (by kernel_rfl) (by simp) ?_
            refine AllReadyH.cons rfl (fun KK hKK => ?_) AllReadyH.nil
            go_simp
            refine hKK.out _ _ ?_ (fun hHeld11 => ?_)
            · exact ⟨hA.below (by repeat (first | (with_reducible exact Below.refl _ _) | (with_reducible refine Below.drew ?_) | (with_reducible refine Below.alloc ?_ ?hh _; case hh => first | (simp; done) | (simp; omega) | omega) | (with_reducible refine Below.setCell ?_ ?hh _; case hh => first | (simp; done) | (simp; omega) | omega) | refine bstep (by assumption) (by first | (simp; done) | (simp; omega) | omega) ?_)), hC.below (by repeat (first | (with_reducible exact Below.refl _ _) | (with_reducible refine Below.drew ?_) | (with_reducible refine Below.alloc ?_ ?hh _; case hh => first | (simp; done) | (simp; omega) | omega) | (with_reducible refine Below.setCell ?_ ?hh _; case hh => first | (simp; done) | (simp; omega) | omega) | refine bstep (by assumption) (by first | (simp; done) | (simp; omega) | omega) ?_)), hX.below (by repeat (first | (with_reducible exact Below.refl _ _) | (with_reducible refine Below.drew ?_) | (with_reducible refine Below.alloc ?_ ?hh _; case hh => first | (simp; done) | (simp; omega) | omega) | (with_reducible refine Below.setCell ?_ ?hh _; case hh => first | (simp; done) | (simp; omega) | omega) | refine bstep (by assumption) (by first | (simp; done) | (simp; omega) | omega) ?_)), hG.below (by repeat (first | (with_reducible exact Below.refl _ _) | (with_reducible refine Below.drew ?_) | (with_reducible refine Below.alloc ?_ ?hh _; case hh => first | (simp; done) | (simp; omega) | omega) | (with_reducible refine Below.setCell ?_ ?hh _; case hh => first | (simp; done) | (simp; omega) | omega) | refine bstep (by assumption) (by first | (simp; done) | (simp; omega) | omega) ?_))⟩
            clear hKK
            refine takeNo (i := 12) (d := 130) rfl rfl (by kernel_rfl) (by kernel_rfl) (by kernel_rfl) (fun _ _ _ h => h) (by rfl) (by assumption) ?_
            try simp only [List.setIfInBounds_toArray, List.set_cons_zero, List.set_cons_succ]
            refine takeYes (i := 13) (d := 131) (v := ?_) rfl rfl (by kernel_rfl) (by kernel_rfl) (by kernel_rfl) (fun _ _ _ h => h) (by rfl) (by assumption) ?_ ?_
            rotate_left
            · intro w' hSw; obtain ⟨⟨_, _, a0, a1, a2⟩, ⟨_, _, c0', c1', c2'⟩, ⟨_, _, v0, v1, v2⟩, ⟨_, _, y0, y1, y2⟩⟩ := hSw; go_simp; try exact rfl
            try simp only [List.setIfInBounds_toArray, List.set_cons_zero, List.set_cons_succ]
            refine takeYes (i := 14) (d := 132) (v := ?_) rfl rfl (by kernel_rfl) (by kernel_rfl) (by kernel_rfl) (fun _ _ _ h => h) (by rfl) (by assumption) ?_ ?_
            rotate_left
            · intro w' hSw; obtain ⟨⟨_, _, a0, a1, a2⟩, ⟨_, _, c0', c1', c2'⟩, ⟨_, _, v0, v1, v2⟩, ⟨_, _, y0, y1, y2⟩⟩ := hSw; go_simp; try exact rfl
            try simp only [List.setIfInBounds_toArray, List.set_cons_zero, List.set_cons_succ]
            refine takeYes (i := 15) (d := 133) (v := ?_) rfl rfl (by kernel_rfl) (by kernel_rfl) (by kernel_rfl) (fun _ _ _ h => h) (by rfl) (by assumption) ?_ ?_
            rotate_left
            · intro w' hSw; obtain ⟨⟨_, _, a0, a1, a2⟩, ⟨_, _, c0', c1', c2'⟩, ⟨_, _, v0, v1, v2⟩, ⟨_, _, y0, y1, y2⟩⟩ := hSw; go_simp; try exact rfl
            try simp only [List.setIfInBounds_toArray, List.set_cons_zero, List.set_cons_succ]
            refine takeYes (i := 16) (d := 134) (v := ?_) rfl rfl (by kernel_rfl) (by kernel_rfl) (by kernel_rfl) (fun _ _ _ h => h) (by rfl) (by assumption) ?_ ?_
            rotate_left
            · intro w' hSw; obtain ⟨⟨_, _, a0, a1, a2⟩, ⟨_, _, c0', c1', c2'⟩, ⟨_, _, v0, v1, v2⟩, ⟨_, _, y0, y1, y2⟩⟩ := hSw; go_simp; try exact rfl
            try simp only [List.setIfInBounds_toArray, List.set_cons_zero, List.set_cons_succ]
            refine takeYes (i := 17) (d := 135) (v := ?_) rfl rfl (by kernel_rfl) (by kernel_rfl) (by kernel_rfl) (fun _ _ _ h => h) (by rfl) (by assumption) ?_ ?_
            rotate_left
            · intro w' hSw; obtain ⟨⟨_, _, a0, a1, a2⟩, ⟨_, _, c0', c1', c2'⟩, ⟨_, _, v0, v1, v2⟩, ⟨_, _, y0, y1, y2⟩⟩ := hSw; go_simp; try exact rfl
            try simp only [List.setIfInBounds_toArray, List.set_cons_zero, List.set_cons_succ]
            refine takeYes (i := 18) (d := 136) (v := ?_) rfl rfl (by kernel_rfl) (by kernel_rfl) (by kernel_rfl) (fun _ _ _ h => h) (by rfl) (by assumption) ?_ ?_
            rotate_left
            · intro w' hSw; obtain ⟨⟨_, _, a0, a1, a2⟩, ⟨_, _, c0', c1', c2'⟩, ⟨_, _, v0, v1, v2⟩, ⟨_, _, y0, y1, y2⟩⟩ := hSw; go_simp; try exact rfl
            try simp only [List.setIfInBounds_toArray, List.set_cons_zero, List.set_cons_succ]
            refine takeYes (i := 20) (d := 138) (v := ?_) rfl rfl (by kernel_rfl) (by kernel_rfl) (by kernel_rfl) (fun _ _ _ h => h) (by rfl) (by assumption) ?_ ?_
            rotate_left
            · intro w' hSw; obtain ⟨⟨_, _, a0, a1, a2⟩, ⟨_, _, c0', c1', c2'⟩, ⟨_, _, v0, v1, v2⟩, ⟨_, _, y0, y1, y2⟩⟩ := hSw; go_simp; try exact rfl
            try simp only [List.setIfInBounds_toArray, List.set_cons_zero, List.set_cons_succ]
            refine takeYes (i := 21) (d := 139) (v := ?_) rfl rfl (by kernel_rfl) (by kernel_rfl) (by kernel_rfl) (fun _ _ _ h => h) (by rfl) (by assumption) ?_ ?_
            rotate_left
            · intro w' hSw; obtain ⟨⟨_, _, a0, a1, a2⟩, ⟨_, _, c0', c1', c2'⟩, ⟨_, _, v0, v1, v2⟩, ⟨_, _, y0, y1, y2⟩⟩ := hSw; go_simp; try exact rfl
            try simp only [List.setIfInBounds_toArray, List.set_cons_zero, List.set_cons_succ]
            refine takeYes (i := 22) (d := 140) (v := ?_) rfl rfl (by kernel_rfl) (by kernel_rfl) (by kernel_rfl) (fun _ _ _ h => h) (by rfl) (by assumption) ?_ ?_
            rotate_left
            · intro w' hSw; obtain ⟨⟨_, _, a0, a1, a2⟩, ⟨_, _, c0', c1', c2'⟩, ⟨_, _, v0, v1, v2⟩, ⟨_, _, y0, y1, y2⟩⟩ := hSw; go_simp; try exact rfl
            try simp only [List.setIfInBounds_toArray, List.set_cons_zero, List.set_cons_succ]
            refine takeYes (i := 23) (d := 141) (v := ?_) rfl rfl (by kernel_rfl) (by kernel_rfl) (by kernel_rfl) (fun _ _ _ h => h) (by rfl) (by assumption) ?_ ?_
            rotate_left
            · intro w' hSw; obtain ⟨⟨_, _, a0, a1, a2⟩, ⟨_, _, c0', c1', c2'⟩, ⟨_, _, v0, v1, v2⟩, ⟨_, _, y0, y1, y2⟩⟩ := hSw; go_simp; try exact rfl
            try simp only [List.setIfInBounds_toArray, List.set_cons_zero, List.set_cons_succ]
            refine wpAnyH_ready (rs := [19]) (by kernel_rfl) (by simp) ?_
            refine AllReadyH.cons rfl (fun KK hKK => ?_) AllReadyH.nil
            go_simp
            go_at_call 8
            refine Calls.mono (implPut_any gk gn gs _ hgs) ?_
            rintro x w23 ⟨rfl, hb23⟩
            have hz23 := hb23.size
            (try simp at hz23)
            rw [gp.out]
            try go_wp2_with fail
            refine hKK.out _ _ ?_ (fun hHeld19 => ?_)
            · exact ⟨hA.below (by repeat (first | (with_reducible exact Below.refl _ _) | (with_reducible refine Below.drew ?_) | (with_reducible refine Below.alloc ?_ ?hh _; case hh => first | (simp; done) | (simp; omega) | omega) | (with_reducible refine Below.setCell ?_ ?hh _; case hh => first | (simp; done) | (simp; omega) | omega) | refine bstep (by assumption) (by first | (simp; done) | (simp; omega) | omega) ?_)), hC.below (by repeat (first | (with_reducible exact Below.refl _ _) | (with_reducible refine Below.drew ?_) | (with_reducible refine Below.alloc ?_ ?hh _; case hh => first | (simp; done) | (simp; omega) | omega) | (with_reducible refine Below.setCell ?_ ?hh _; case hh => first | (simp; done) | (simp; omega) | omega) | refine bstep (by assumption) (by first | (simp; done) | (simp; omega) | omega) ?_)), hX.below (by repeat (first | (with_reducible exact Below.refl _ _) | (with_reducible refine Below.drew ?_) | (with_reducible refine Below.alloc ?_ ?hh _; case hh => first | (simp; done) | (simp; omega) | omega) | (with_reducible refine Below.setCell ?_ ?hh _; case hh => first | (simp; done) | (simp; omega) | omega) | refine bstep (by assumption) (by first | (simp; done) | (simp; omega) | omega) ?_)), hG.below (by repeat (first | (with_reducible exact Below.refl _ _) | (with_reducible refine Below.drew ?_) | (with_reducible refine Below.alloc ?_ ?hh _; case hh => first | (simp; done) | (simp; omega) | omega) | (with_reducible refine Below.setCell ?_ ?hh _; case hh => first | (simp; done) | (simp; omega) | omega) | refine bstep (by assumption) (by first | (simp; done) | (simp; omega) | omega) ?_))⟩
            clear hKK
            refine takeYes (i := 24) (d := 142) (v := ?_) rfl rfl (by kernel_rfl) (by kernel_rfl) (by kernel_rfl) (fun _ _ _ h => h) (by rfl) (by assumption) ?_ ?_
            rotate_left
            · intro w' hSw; obtain ⟨⟨_, _, a0, a1, a2⟩, ⟨_, _, c0', c1', c2'⟩, ⟨_, _, v0, v1, v2⟩, ⟨_, _, y0, y1, y2⟩⟩ := hSw; go_simp; try exact rfl
            try simp only [List.setIfInBounds_toArray, List.set_cons_zero, List.set_cons_succ]
            refine takeYes (i := 25) (d := 143) (v := ?_) rfl rfl (by kernel_rfl) (by kernel_rfl) (by kernel_rfl) (fun _ _ _ h => h) (by rfl) (by assumption) ?_ ?_
            rotate_left
            · intro w' hSw; obtain ⟨⟨_, _, a0, a1, a2⟩, ⟨_, _, c0', c1', c2'⟩, ⟨_, _, v0, v1, v2⟩, ⟨_, _, y0, y1, y2⟩⟩ := hSw; go_simp; try exact rfl
            try simp only [List.setIfInBounds_toArray, List.set_cons_zero, List.set_cons_succ]
            refine takeYes (i := 26) (d := 144) (v := ?_) rfl rfl (by kernel_rfl) (by kernel_rfl) (by kernel_rfl) (fun _ _ _ h => h) (by rfl) (by assumption) ?_ ?_
            rotate_left
            · intro w' hSw; obtain ⟨⟨_, _, a0, a1, a2⟩, ⟨_, _, c0', c1', c2'⟩, ⟨_, _, v0, v1, v2⟩, ⟨_, _, y0, y1, y2⟩⟩ := hSw; go_simp; try exact rfl
            try simp only [List.setIfInBounds_toArray, List.set_cons_zero, List.set_cons_succ]
            refine wpAnyH_done (by kernel_rfl) ?_ _
            go_wp2_with fail
            (try go_meet)
            (try (case rel => exact ⟨rfl, by repeat (first | (with_reducible exact Below.refl _ _) | (with_reducible refine Below.drew ?_) | (with_reducible refine Below.alloc ?_ ?hh _; case hh => first | (simp; done) | (simp; omega) | omega) | (with_reducible refine Below.setCell ?_ ?hh _; case hh => first | (simp; done) | (simp; omega) | omega) | refine bstep (by assumption) (by first | (simp; done) | (simp; omega) | omega) ?_)⟩))
        · have d3 : decide (0 < gj) = false := by simpa using hg0
          as_aux_lemma =>
            refine wp_region_held_drew (S := (fun w' => VarV w' bA k n s ∧ VarV w' bC k' n' s' ∧ VarV w' bX xk xn xs ∧ VarV w' bG gk gn gs)) (by kernel_rfl) ?_ (fun hHeld => ?_)
            · exact ⟨hA.below (by repeat (first | (with_reducible exact Below.refl _ _) | (with_reducible refine Below.drew ?_) | (with_reducible refine Below.alloc ?_ ?hh _; case hh => first | (simp; done) | (simp; omega) | omega) | (with_reducible refine Below.setCell ?_ ?hh _; case hh => first | (simp; done) | (simp; omega) | omega) | refine bstep (by assumption) (by first | (simp; done) | (simp; omega) | omega) ?_)), hC.below (by repeat (first | (with_reducible exact Below.refl _ _) | (with_reducible refine Below.drew ?_) | (with_reducible refine Below.alloc ?_ ?hh _; case hh => first | (simp; done) | (simp; omega) | omega) | (with_reducible refine Below.setCell ?_ ?hh _; case hh => first | (simp; done) | (simp; omega) | omega) | refine bstep (by assumption) (by first | (simp; done) | (simp; omega) | omega) ?_)), hX.below (by repeat (first | (with_reducible exact Below.refl _ _) | (with_reducible refine Below.drew ?_) | (with_reducible refine Below.alloc ?_ ?hh _; case hh => first | (simp; done) | (simp; omega) | omega) | (with_reducible refine Below.setCell ?_ ?hh _; case hh => first | (simp; done) | (simp; omega) | omega) | refine bstep (by assumption) (by first | (simp; done) | (simp; omega) | omega) ?_)), hG.below (by repeat (first | (with_reducible exact Below.refl _ _) | (with_reducible refine Below.drew ?_) | (with_reducible refine Below.alloc ?_ ?hh _; case hh => first | (simp; done) | (simp; omega) | omega) | (with_reducible refine Below.setCell ?_ ?hh _; case hh => first | (simp; done) | (simp; omega) | omega) | refine bstep (by assumption) (by first | (simp; done) | (simp; omega) | omega) ?_))⟩
            refine takeYes (i := 0) (d := 118) (v := ?_) rfl rfl (by kernel_rfl) (by kernel_rfl) (by kernel_rfl) (fun _ _ _ h => h) (by rfl) (by assumption) ?_ ?_
            rotate_left
            · intro w' hSw; obtain ⟨⟨_, _, a0, a1, a2⟩, ⟨_, _, c0', c1', c2'⟩, ⟨_, _, v0, v1, v2⟩, ⟨_, _, y0, y1, y2⟩⟩ := hSw; go_simp; try exact rfl
            try simp only [List.setIfInBounds_toArray, List.set_cons_zero, List.set_cons_succ]
            refine takeYes (i := 1) (d := 119) (v := ?_) rfl rfl (by kernel_rfl) (by kernel_rfl) (by kernel_rfl) (fun _ _ _ h => h) (by rfl) (by assumption) ?_ ?_
            rotate_left
            · intro w' hSw; obtain ⟨⟨_, _, a0, a1, a2⟩, ⟨_, _, c0', c1', c2'⟩, ⟨_, _, v0, v1, v2⟩, ⟨_, _, y0, y1, y2⟩⟩ := hSw; go_simp; try exact rfl
            try simp only [List.setIfInBounds_toArray, List.set_cons_zero, List.set_cons_succ]
            refine takeYes (i := 2) (d := 120) (v := ?_) rfl rfl (by kernel_rfl) (by kernel_rfl) (by kernel_rfl) (fun _ _ _ h => h) (by rfl) (by assumption) ?_ ?_
            rotate_left
            · intro w' hSw; obtain ⟨⟨_, _, a0, a1, a2⟩, ⟨_, _, c0', c1', c2'⟩, ⟨_, _, v0, v1, v2⟩, ⟨_, _, y0, y1, y2⟩⟩ := hSw; go_simp; try exact rfl
            try simp only [List.setIfInBounds_toArray, List.set_cons_zero, List.set_cons_succ]
            refine takeYes (i := 3) (d := 121) (v := ?_) rfl rfl (by kernel_rfl) (by kernel_rfl) (by kernel_rfl) (fun _ _ _ h => h) (by rfl) (by assumption) ?_ ?_
            rotate_left
            · intro w' hSw; obtain ⟨⟨_, _, a0, a1, a2⟩, ⟨_, _, c0', c1', c2'⟩, ⟨_, _, v0, v1, v2⟩, ⟨_, _, y0, y1, y2⟩⟩ := hSw; go_simp; try exact rfl
            try simp only [List.setIfInBounds_toArray, List.set_cons_zero, List.set_cons_succ]
            refine takeYes (i := 4) (d := 122) (v := ?_) rfl rfl (by kernel_rfl) (by kernel_rfl) (by kernel_rfl) (fun _ _ _ h => h) (by rfl) (by assumption) ?_ ?_
            rotate_left
            · intro w' hSw; obtain ⟨⟨_, _, a0, a1, a2⟩, ⟨_, _, c0', c1', c2'⟩, ⟨_, _, v0, v1, v2⟩, ⟨_, _, y0, y1, y2⟩⟩ := hSw; go_simp; try exact rfl
            try simp only [List.setIfInBounds_toArray, List.set_cons_zero, List.set_cons_succ]
            refine wpAnyH_ready (rs := [5]) (by kernel_rfl) (by simp) ?_
            refine AllReadyH.cons rfl (fun KK hKK => ?_) AllReadyH.nil
            go_simp
            go_at_call 6
            refine Calls.mono (implCmp_any k' n' xk xn s' xs _) ?_
            rintro x w21 ⟨rfl, hb21⟩
            have hz21 := hb21.size
            (try simp at hz21)
            rw [e1.out]
            try go_wp2_with fail
            refine hKK.out _ _ ?_ (fun hHeld5 => ?_)
            · exact ⟨hA.below (by repeat (first | (with_reducible exact Below.refl _ _) | (with_reducible refine Below.drew ?_) | (with_reducible refine Below.alloc ?_ ?hh _; case hh => first | (simp; done) | (simp; omega) | omega) | (with_reducible refine Below.setCell ?_ ?hh _; case hh => first | (simp; done) | (simp; omega) | omega) | refine bstep (by assumption) (by first | (simp; done) | (simp; omega) | omega) ?_)), hC.below (by repeat (first | (with_reducible exact Below.refl _ _) | (with_reducible refine Below.drew ?_) | (with_reducible refine Below.alloc ?_ ?hh _; case hh => first | (simp; done) | (simp; omega) | omega) | (with_reducible refine Below.setCell ?_ ?hh _; case hh => first | (simp; done) | (simp; omega) | omega) | refine bstep (by assumption) (by first | (simp; done) | (simp; omega) | omega) ?_)), hX.below (by repeat (first | (with_reducible exact Below.refl _ _) | (with_reducible refine Below.drew ?_) | (with_reducible refine Below.alloc ?_ ?hh _; case hh => first | (simp; done) | (simp; omega) | omega) | (with_reducible refine Below.setCell ?_ ?hh _; case hh => first | (simp; done) | (simp; omega) | omega) | refine bstep (by assumption) (by first | (simp; done) | (simp; omega) | omega) ?_)), hG.below (by repeat (first | (with_reducible exact Below.refl _ _) | (with_reducible refine Below.drew ?_) | (with_reducible refine Below.alloc ?_ ?hh _; case hh => first | (simp; done) | (simp; omega) | omega) | (with_reducible refine Below.setCell ?_ ?hh _; case hh => first | (simp; done) | (simp; omega) | omega) | refine bstep (by assumption) (by first | (simp; done) | (simp; omega) | omega) ?_))⟩
            clear hKK
            refine takeYes (i := 6) (d := 124) (v := ?_) rfl rfl (by kernel_rfl) (by kernel_rfl) (by kernel_rfl) (fun _ _ _ h => h) (by rfl) (by assumption) ?_ ?_
            rotate_left
            · intro w' hSw; obtain ⟨⟨_, _, a0, a1, a2⟩, ⟨_, _, c0', c1', c2'⟩, ⟨_, _, v0, v1, v2⟩, ⟨_, _, y0, y1, y2⟩⟩ := hSw; go_simp; try exact rfl
            try simp only [List.setIfInBounds_toArray, List.set_cons_zero, List.set_cons_succ]
            refine takeYes (i := 7) (d := 125) (v := ?_) rfl rfl (by kernel_rfl) (by kernel_rfl) (by kernel_rfl) (fun _ _ _ h => h) (by rfl) (by assumption) ?_ ?_
            rotate_left
            · intro w' hSw; obtain ⟨⟨_, _, a0, a1, a2⟩, ⟨_, _, c0', c1', c2'⟩, ⟨_, _, v0, v1, v2⟩, ⟨_, _, y0, y1, y2⟩⟩ := hSw; go_simp; try exact rfl
            try simp only [List.setIfInBounds_toArray, List.set_cons_zero, List.set_cons_succ]
            refine takeYes (i := 8) (d := 126) (v := ?_) rfl rfl (by kernel_rfl) (by kernel_rfl) (by kernel_rfl) (fun _ _ _ h => h) (by rfl) (by assumption) ?_ ?_
            rotate_left
            · intro w' hSw; obtain ⟨⟨_, _, a0, a1, a2⟩, ⟨_, _, c0', c1', c2'⟩, ⟨_, _, v0, v1, v2⟩, ⟨_, _, y0, y1, y2⟩⟩ := hSw; go_simp; try exact rfl
            try simp only [List.setIfInBounds_toArray, List.set_cons_zero, List.set_cons_succ]
            refine takeNo (i := 9) (d := 127) rfl rfl (by kernel_rfl) (by kernel_rfl) (by kernel_rfl) (fun _ _ _ h => h) (by rfl) (by assumption) ?_
            try simp only [List.setIfInBounds_toArray, List.set_cons_zero, List.set_cons_succ]
            refine takeNo (i := 10) (d := 128) rfl rfl (by kernel_rfl) (by kernel_rfl) (by kernel_rfl) (fun _ _ _ h => h) (by rfl) (by assumption) ?_
            try simp only [List.setIfInBounds_toArray, List.set_cons_zero, List.set_cons_succ]
            refine wpAnyH_ready (rs := [11]) (by kernel_rfl) (by simp) ?_
            refine AllReadyH.cons rfl (fun KK hKK => ?_) AllReadyH.nil
            go_simp
            refine hKK.out _ _ ?_ (fun hHeld11 => ?_)
            · exact ⟨hA.below (by repeat (first | (with_reducible exact Below.refl _ _) | (with_reducible refine Below.drew ?_) | (with_reducible refine Below.alloc ?_ ?hh _; case hh => first | (simp; done) | (simp; omega) | omega) | (with_reducible refine Below.setCell ?_ ?hh _; case hh => first | (simp; done) | (simp; omega) | omega) | refine bstep (by assumption) (by first | (simp; done) | (simp; omega) | omega) ?_)), hC.below (by repeat (first | (with_reducible exact Below.refl _ _) | (with_reducible refine Below.drew ?_) | (with_reducible refine Below.alloc ?_ ?hh _; case hh => first | (simp; done) | (simp; omega) | omega) | (with_reducible refine Below.setCell ?_ ?hh _; case hh => first | (simp; done) | (simp; omega) | omega) | refine bstep (by assumption) (by first | (simp; done) | (simp; omega) | omega) ?_)), hX.below (by repeat (first | (with_reducible exact Below.refl _ _) | (with_reducible refine Below.drew ?_) | (with_reducible refine Below.alloc ?_ ?hh _; case hh => first | (simp; done) | (simp; omega) | omega) | (with_reducible refine Below.setCell ?_ ?hh _; case hh => first | (simp; done) | (simp; omega) | omega) | refine bstep (by assumption) (by first | (simp; done) | (simp; omega) | omega) ?_)), hG.below (by repeat (first | (with_reducible exact Below.refl _ _) | (with_reducible refine Below.drew ?_) | (with_reducible refine Below.alloc ?_ ?hh _; case hh => first | (simp; done) | (simp; omega) | omega) | (with_reducible refine Below.setCell ?_ ?hh _; case hh => first | (simp; done) | (simp; omega) | omega) | refine bstep (by assumption) (by first | (simp; done) | (simp; omega) | omega) ?_))⟩
            clear hKK
            refine takeNo (i := 12) (d := 130) rfl rfl (by kernel_rfl) (by kernel_rfl) (by kernel_rfl) (fun _ _ _ h => h) (by rfl) (by assumption) ?_
            try simp only [List.setIfInBounds_toArray, List.set_cons_zero, List.set_cons_succ]
            refine takeYes (i := 13) (d := 131) (v := ?_) rfl rfl (by kernel_rfl) (by kernel_rfl) (by kernel_rfl) (fun _ _ _ h => h) (by rfl) (by assumption) ?_ ?_
            rotate_left
            · intro w' hSw; obtain ⟨⟨_, _, a0, a1, a2⟩, ⟨_, _, c0', c1', c2'⟩, ⟨_, _, v0, v1, v2⟩, ⟨_, _, y0, y1, y2⟩⟩ := hSw; go_simp; try exact rfl
            try simp only [List.setIfInBounds_toArray, List.set_cons_zero, List.set_cons_succ]
            refine takeYes (i := 14) (d := 132) (v := ?_) rfl rfl (by kernel_rfl) (by kernel_rfl) (by kernel_rfl) (fun _ _ _ h => h) (by rfl) (by assumption) ?_ ?_
            rotate_left
            · intro w' hSw; obtain ⟨⟨_, _, a0, a1, a2⟩, ⟨_, _, c0', c1', c2'⟩, ⟨_, _, v0, v1, v2⟩, ⟨_, _, y0, y1, y2⟩⟩ := hSw; go_simp; try exact rfl
            try simp only [List.setIfInBounds_toArray, List.set_cons_zero, List.set_cons_succ]
            refine takeYes (i := 15) (d := 133) (v := ?_) rfl rfl (by kernel_rfl) (by kernel_rfl) (by kernel_rfl) (fun _ _ _ h => h) (by rfl) (by assumption) ?_ ?_
            rotate_left
            · intro w' hSw; obtain ⟨⟨_, _, a0, a1, a2⟩, ⟨_, _, c0', c1', c2'⟩, ⟨_, _, v0, v1, v2⟩, ⟨_, _, y0, y1, y2⟩⟩ := hSw; go_simp; try exact rfl
            try simp only [List.setIfInBounds_toArray, List.set_cons_zero, List.set_cons_succ]
            refine takeYes (i := 16) (d := 134) (v := ?_) rfl rfl (by kernel_rfl) (by kernel_rfl) (by kernel_rfl) (fun _ _ _ h => h) (by rfl) (by assumption) ?_ ?_
            rotate_left
            · intro w' hSw; obtain ⟨⟨_, _, a0, a1, a2⟩, ⟨_, _, c0', c1', c2'⟩, ⟨_, _, v0, v1, v2⟩, ⟨_, _, y0, y1, y2⟩⟩ := hSw; go_simp; try exact rfl
            try simp only [List.setIfInBounds_toArray, List.set_cons_zero, List.set_cons_succ]
            refine takeYes (i := 17) (d := 135) (v := ?_) rfl rfl (by kernel_rfl) (by kernel_rfl) (by kernel_rfl) (fun _ _ _ h => h) (by rfl) (by assumption) ?_ ?_
            rotate_left
            · intro w' hSw; obtain ⟨⟨_, _, a0, a1, a2⟩, ⟨_, _, c0', c1', c2'⟩, ⟨_, _, v0, v1, v2⟩, ⟨_, _, y0, y1, y2⟩⟩ := hSw; go_simp; try exact rfl
            try simp only [List.setIfInBounds_toArray, List.set_cons_zero, List.set_cons_succ]
            refine takeNo (i := 18) (d := 136) rfl rfl (by kernel_rfl) (by kernel_rfl) (by kernel_rfl) (fun _ _ _ h => h) (by rfl) (by assumption) ?_
            try simp only [List.setIfInBounds_toArray, List.set_cons_zero, List.set_cons_succ]
            refine takeNo (i := 20) (d := 138) rfl rfl (by kernel_rfl) (by kernel_rfl) (by kernel_rfl) (fun _ _ _ h => h) (by rfl) (by assumption) ?_
            try simp only [List.setIfInBounds_toArray, List.set_cons_zero, List.set_cons_succ]
            refine takeNo (i := 21) (d := 139) rfl rfl (by kernel_rfl) (by kernel_rfl) (by kernel_rfl) (fun _ _ _ h => h) (by rfl) (by assumption) ?_
            try simp only [List.setIfInBounds_toArray, List.set_cons_zero, List.set_cons_succ]
            refine takeNo (i := 22) (d := 140) rfl rfl (by kernel_rfl) (by kernel_rfl) (by kernel_rfl) (fun _ _ _ h => h) (by rfl) (by assumption) ?_
            try simp only [List.setIfInBounds_toArray, List.set_cons_zero, List.set_cons_succ]
            refine takeNo (i := 23) (d := 141) rfl rfl (by kernel_rfl) (by kernel_rfl) (by kernel_rfl) (fun _ _ _ h => h) (by rfl) (by assumption) ?_
            try simp only [List.setIfInBounds_toArray, List.set_cons_zero, List.set_cons_succ]
            refine wpAnyH_ready (rs := [19]) (by kernel_rfl) (by simp) ?_
            refine AllReadyH.cons rfl (fun KK hKK => ?_) AllReadyH.nil
            go_simp
            refine hKK.out _ _ ?_ (fun hHeld19 => ?_)
            · exact ⟨hA.below (by repeat (first | (with_reducible exact Below.refl _ _) | (with_reducible refine Below.drew ?_) | (with_reducible refine Below.alloc ?_ ?hh _; case hh => first | (simp; done) | (simp; omega) | omega) | (with_reducible refine Below.setCell ?_ ?hh _; case hh => first | (simp; done) | (simp; omega) | omega) | refine bstep (by assumption) (by first | (simp; done) | (simp; omega) | omega) ?_)), hC.below (by repeat (first | (with_reducible exact Below.refl _ _) | (with_reducible refine Below.drew ?_) | (with_reducible refine Below.alloc ?_ ?hh _; case hh => first | (simp; done) | (simp; omega) | omega) | (with_reducible refine Below.setCell ?_ ?hh _; case hh => first | (simp; done) | (simp; omega) | omega) | refine bstep (by assumption) (by first | (simp; done) | (simp; omega) | omega) ?_)), hX.below (by repeat (first | (with_reducible exact Below.refl _ _) | (with_reducible refine Below.drew ?_) | (with_reducible refine Below.alloc ?_ ?hh _; case hh => first | (simp; done) | (simp; omega) | omega) | (with_reducible refine Below.setCell ?_ ?hh _; case hh => first | (simp; done) | (simp; omega) | omega) | refine bstep (by assumption) (by first | (simp; done) | (simp; omega) | omega) ?_)), hG.below (by repeat (first | (with_reducible exact Below.refl _ _) | (with_reducible refine Below.drew ?_) | (with_reducible refine Below.alloc ?_ ?hh _; case hh => first | (simp; done) | (simp; omega) | omega) | (with_reducible refine Below.setCell ?_ ?hh _; case hh => first | (simp; done) | (simp; omega) | omega) | refine bstep (by assumption) (by first | (simp; done) | (simp; omega) | omega) ?_))⟩
            clear hKK
            refine takeNo (i := 24) (d := 142) rfl rfl (by kernel_rfl) (by kernel_rfl) (by kernel_rfl) (fun _ _ _ h => h) (by rfl) (by assumption) ?_
            try simp only [List.setIfInBounds_toArray, List.set_cons_zero, List.set_cons_succ]
            refine takeYes (i := 25) (d := 143) (v := ?_) rfl rfl (by kernel_rfl) (by kernel_rfl) (by kernel_rfl) (fun _ _ _ h => h) (by rfl) (by assumption) ?_ ?_
            rotate_left
            · intro w' hSw; obtain ⟨⟨_, _, a0, a1, a2⟩, ⟨_, _, c0', c1', c2'⟩, ⟨_, _, v0, v1, v2⟩, ⟨_, _, y0, y1, y2⟩⟩ := hSw; go_simp; try exact rfl
            try simp only [List.setIfInBounds_toArray, List.set_cons_zero, List.set_cons_succ]
            refine takeYes (i := 26) (d := 144) (v := ?_) rfl rfl (by kernel_rfl) (by kernel_rfl) (by kernel_rfl) (fun _ _ _ h => h) (by rfl) (by assumption) ?_ ?_
            rotate_left
            · intro w' hSw; obtain ⟨⟨_, _, a0, a1, a2⟩, ⟨_, _, c0', c1', c2'⟩, ⟨_, _, v0, v1, v2⟩, ⟨_, _, y0, y1, y2⟩⟩ := hSw; go_simp; try exact rfl
            try simp only [List.setIfInBounds_toArray, List.set_cons_zero, List.set_cons_succ]
            refine wpAnyH_done (by kernel_rfl) ?_ _
            go_wp2_with fail
            (try go_meet)
            (try (case rel => exact ⟨rfl, by repeat (first | (with_reducible exact Below.refl _ _) | (with_reducible refine Below.drew ?_) | (with_reducible refine Below.alloc ?_ ?hh _; case hh => first | (simp; done) | (simp; omega) | omega) | (with_reducible refine Below.setCell ?_ ?hh _; case hh => first | (simp; done) | (simp; omega) | omega) | refine bstep (by assumption) (by first | (simp; done) | (simp; omega) | omega) ?_)⟩))
      have hc2 : ¬ 0 < c2 := by have := tr hc0 hc1; omega
      have d0 : decide (c0 ≤ 0) = true := by simpa using hc0
      have d1 : decide (c1 ≤ 0) = true := by simpa using hc1
      have d2 : decide (0 < c2) = false := by simpa using hc2
      clear tr
      by_cases hg0 : 0 < gj
      · obtain ⟨j0, j1, j2, gp0, hgs0⟩ := GP.out (by omega)
        have gp : Hid (putS gk gn gs = u.extract i.toNat gj.toNat) := gp0
        have hgs : gs.size ≤ maxLen := by unfold maxLen; omega
        have d3 : decide (0 < gj) = true := by simpa using hg0
        have j3 : 0 ≤ gj := by omega
        have j4 : i ≤ gj := by omega
        clear GP gp0
        as_aux_lemma =>
          refine wp_region_held_drew (S := (fun w' => VarV w' bA k n s ∧ VarV w' bC k' n' s' ∧ VarV w' bX xk xn xs ∧ VarV w' bG gk gn gs)) (by kernel_rfl) ?_ (fun hHeld => ?_)
          · exact ⟨hA.below (by repeat (first | (with_reducible exact Below.refl _ _) | (with_reducible refine Below.drew ?_) | (with_reducible refine Below.alloc ?_ ?hh _; case hh => first | (simp; done) | (simp; omega) | omega) | (with_reducible refine Below.setCell ?_ ?hh _; case hh => first | (simp; done) | (simp; omega) | omega) | refine bstep (by assumption) (by first | (simp; done) | (simp; omega) | omega) ?_)), hC.below (by repeat (first | (with_reducible exact Below.refl _ _) | (with_reducible refine Below.drew ?_) | (with_reducible refine Below.alloc ?_ ?hh _; case hh => first | (simp; done) | (simp; omega) | omega) | (with_reducible refine Below.setCell ?_ ?hh _; case hh => first | (simp; done) | (simp; omega) | omega) | refine bstep (by assumption) (by first | (simp; done) | (simp; omega) | omega) ?_)), hX.below (by repeat (first | (with_reducible exact Below.refl _ _) | (with_reducible refine Below.drew ?_) | (with_reducible refine Below.alloc ?_ ?hh _; case hh => first | (simp; done) | (simp; omega) | omega) | (with_reducible refine Below.setCell ?_ ?hh _; case hh => first | (simp; done) | (simp; omega) | omega) | refine bstep (by assumption) (by first | (simp; done) | (simp; omega) | omega) ?_)), hG.below (by repeat (first | (with_reducible exact Below.refl _ _) | (with_reducible refine Below.drew ?_) | (with_reducible refine Below.alloc ?_ ?hh _; case hh => first | (simp; done) | (simp; omega) | omega) | (with_reducible refine Below.setCell ?_ ?hh _; case hh => first | (simp; done) | (simp; omega) | omega) | refine bstep (by assumption) (by first | (simp; done) | (simp; omega) | omega) ?_))⟩
          refine takeYes (i := 0) (d := 118) (v := ?_) rfl rfl (by kernel_rfl) (by kernel_rfl) (by kernel_rfl) (fun _ _ _ h => h) (by rfl) (by assumption) ?_ ?_
          rotate_left
          · intro w' hSw; obtain ⟨⟨_, _, a0, a1, a2⟩, ⟨_, _, c0', c1', c2'⟩, ⟨_, _, v0, v1, v2⟩, ⟨_, _, y0, y1, y2⟩⟩ := hSw; go_simp; try exact rfl
          try simp only [List.setIfInBounds_toArray, List.set_cons_zero, List.set_cons_succ]
          refine takeYes (i := 1) (d := 119) (v := ?_) rfl rfl (by kernel_rfl) (by kernel_rfl) (by kernel_rfl) (fun _ _ _ h => h) (by rfl) (by assumption) ?_ ?_
          rotate_left
          · intro w' hSw; obtain ⟨⟨_, _, a0, a1, a2⟩, ⟨_, _, c0', c1', c2'⟩, ⟨_, _, v0, v1, v2⟩, ⟨_, _, y0, y1, y2⟩⟩ := hSw; go_simp; try exact rfl
          try simp only [List.setIfInBounds_toArray, List.set_cons_zero, List.set_cons_succ]
          refine takeYes (i := 2) (d := 120) (v := ?_) rfl rfl (by kernel_rfl) (by kernel_rfl) (by kernel_rfl) (fun _ _ _ h => h) (by rfl) (by assumption) ?_ ?_
          rotate_left
          · intro w' hSw; obtain ⟨⟨_, _, a0, a1, a2⟩, ⟨_, _, c0', c1', c2'⟩, ⟨_, _, v0, v1, v2⟩, ⟨_, _, y0, y1, y2⟩⟩ := hSw; go_simp; try exact rfl
          try simp only [List.setIfInBounds_toArray, List.set_cons_zero, List.set_cons_succ]
          refine takeYes (i := 3) (d := 121) (v := ?_) rfl rfl (by kernel_rfl) (by kernel_rfl) (by kernel_rfl) (fun _ _ _ h => h) (by rfl) (by assumption) ?_ ?_
          rotate_left
          · intro w' hSw; obtain ⟨⟨_, _, a0, a1, a2⟩, ⟨_, _, c0', c1', c2'⟩, ⟨_, _, v0, v1, v2⟩, ⟨_, _, y0, y1, y2⟩⟩ := hSw; go_simp; try exact rfl
          try simp only [List.setIfInBounds_toArray, List.set_cons_zero, List.set_cons_succ]
          refine takeYes (i := 4) (d := 122) (v := ?_) rfl rfl (by kernel_rfl) (by kernel_rfl) (by kernel_rfl) (fun _ _ _ h => h) (by rfl) (by assumption) ?_ ?_
          rotate_left
          · intro w' hSw; obtain ⟨⟨_, _, a0, a1, a2⟩, ⟨_, _, c0', c1', c2'⟩, ⟨_, _, v0, v1, v2⟩, ⟨_, _, y0, y1, y2⟩⟩ := hSw; go_simp; try exact rfl
          try simp only [List.setIfInBounds_toArray, List.set_cons_zero, List.set_cons_succ]
          refine wpAnyH_ready (rs := [5]) (by kernel_rfl) (by simp) ?_
          refine AllReadyH.cons rfl (fun KK hKK => ?_) AllReadyH.nil
          go_simp
          go_at_call 6
          refine Calls.mono (implCmp_any k' n' xk xn s' xs _) ?_
          rintro x w21 ⟨rfl, hb21⟩
          have hz21 := hb21.size
          (try simp at hz21)
          rw [e1.out]
          try go_wp2_with fail
          refine hKK.out _ _ ?_ (fun hHeld5 => ?_)
          · exact ⟨hA.below (by repeat (first | (with_reducible exact Below.refl _ _) | (with_reducible refine Below.drew ?_) | (with_reducible refine Below.alloc ?_ ?hh _; case hh => first | (simp; done) | (simp; omega) | omega) | (with_reducible refine Below.setCell ?_ ?hh _; case hh => first | (simp; done) | (simp; omega) | omega) | refine bstep (by assumption) (by first | (simp; done) | (simp; omega) | omega) ?_)), hC.below (by repeat (first | (with_reducible exact Below.refl _ _) | (with_reducible refine Below.drew ?_) | (with_reducible refine Below.alloc ?_ ?hh _; case hh => first | (simp; done) | (simp; omega) | omega) | (with_reducible refine Below.setCell ?_ ?hh _; case hh => first | (simp; done) | (simp; omega) | omega) | refine bstep (by assumption) (by first | (simp; done) | (simp; omega) | omega) ?_)), hX.below (by repeat (first | (with_reducible exact Below.refl _ _) | (with_reducible refine Below.drew ?_) | (with_reducible refine Below.alloc ?_ ?hh _; case hh => first | (simp; done) | (simp; omega) | omega) | (with_reducible refine Below.setCell ?_ ?hh _; case hh => first | (simp; done) | (simp; omega) | omega) | refine bstep (by assumption) (by first | (simp; done) | (simp; omega) | omega) ?_)), hG.below (by repeat (first | (with_reducible exact Below.refl _ _) | (with_reducible refine Below.drew ?_) | (with_reducible refine Below.alloc ?_ ?hh _; case hh => first | (simp; done) | (simp; omega) | omega) | (with_reducible refine Below.setCell ?_ ?hh _; case hh => first | (simp; done) | (simp; omega) | omega) | refine bstep (by assumption) (by first | (simp; done) | (simp; omega) | omega) ?_))⟩
          clear hKK
          refine takeYes (i := 6) (d := 124) (v := ?_) rfl rfl (by kernel_rfl) (by kernel_rfl) (by kernel_rfl) (fun _ _ _ h => h) (by rfl) (by assumption) ?_ ?_
          rotate_left
          · intro w' hSw; obtain ⟨⟨_, _, a0, a1, a2⟩, ⟨_, _, c0', c1', c2'⟩, ⟨_, _, v0, v1, v2⟩, ⟨_, _, y0, y1, y2⟩⟩ := hSw; go_simp; try exact rfl
          try simp only [List.setIfInBounds_toArray, List.set_cons_zero, List.set_cons_succ]
          refine takeYes (i := 7) (d := 125) (v := ?_) rfl rfl (by kernel_rfl) (by kernel_rfl) (by kernel_rfl) (fun _ _ _ h => h) (by rfl) (by assumption) ?_ ?_
          rotate_left
          · intro w' hSw; obtain ⟨⟨_, _, a0, a1, a2⟩, ⟨_, _, c0', c1', c2'⟩, ⟨_, _, v0, v1, v2⟩, ⟨_, _, y0, y1, y2⟩⟩ := hSw; go_simp; try exact rfl
          try simp only [List.setIfInBounds_toArray, List.set_cons_zero, List.set_cons_succ]
          refine takeYes (i := 8) (d := 126) (v := ?_) rfl rfl (by kernel_rfl) (by kernel_rfl) (by kernel_rfl) (fun _ _ _ h => h) (by rfl) (by assumption) ?_ ?_
          rotate_left
          · intro w' hSw; obtain ⟨⟨_, _, a0, a1, a2⟩, ⟨_, _, c0', c1', c2'⟩, ⟨_, _, v0, v1, v2⟩, ⟨_, _, y0, y1, y2⟩⟩ := hSw; go_simp; try exact rfl
          try simp only [List.setIfInBounds_toArray, List.set_cons_zero, List.set_cons_succ]
          refine takeYes (i := 9) (d := 127) (v := ?_) rfl rfl (by kernel_rfl) (by kernel_rfl) (by kernel_rfl) (fun _ _ _ h => h) (by rfl) (by assumption) ?_ ?_
          rotate_left
          · intro w' hSw; obtain ⟨⟨_, _, a0, a1, a2⟩, ⟨_, _, c0', c1', c2'⟩, ⟨_, _, v0, v1, v2⟩, ⟨_, _, y0, y1, y2⟩⟩ := hSw; go_simp; try exact rfl
          try simp only [List.setIfInBounds_toArray, List.set_cons_zero, List.set_cons_succ]
          refine takeYes (i := 10) (d := 128) (v := ?_) rfl rfl (by kernel_rfl) (by kernel_rfl) (by kernel_rfl) (fun _ _ _ h => h) (by rfl) (by assumption) ?_ ?_
          rotate_left
          · intro w' hSw; obtain ⟨⟨_, _, a0, a1, a2⟩, ⟨_, _, c0', c1', c2'⟩, ⟨_, _, v0, v1, v2⟩, ⟨_, _, y0, y1, y2⟩⟩ := hSw; go_simp; try exact rfl
          try simp only [List.setIfInBounds_toArray, List.set_cons_zero, List.set_cons_succ]
          refine wpAnyH_ready (rs := [11]) (by kernel_rfl) (by simp) ?_
          refine AllReadyH.cons rfl (fun KK hKK => ?_) AllReadyH.nil
          go_simp
          go_at_call 6
          refine Calls.mono (implCmp_any k n xk xn s xs _) ?_
          rintro x w22 ⟨rfl, hb22⟩
          have hz22 := hb22.size
          (try simp at hz22)
          rw [e2.out]
          try go_wp2_with fail
          refine hKK.out _ _ ?_ (fun hHeld11 => ?_)
          · exact ⟨hA.below (by repeat (first | (with_reducible exact Below.refl _ _) | (with_reducible refine Below.drew ?_) | (with_reducible refine Below.alloc ?_ ?hh _; case hh => first | (simp; done) | (simp; omega) | omega) | (with_reducible refine Below.setCell ?_ ?hh _; case hh => first | (simp; done) | (simp; omega) | omega) | refine bstep (by assumption) (by first | (simp; done) | (simp; omega) | omega) ?_)), hC.below (by repeat (first | (with_reducible exact Below.refl _ _) | (with_reducible refine Below.drew ?_) | (with_reducible refine Below.alloc ?_ ?hh _; case hh => first | (simp; done) | (simp; omega) | omega) | (with_reducible refine Below.setCell ?_ ?hh _; case hh => first | (simp; done) | (simp; omega) | omega) | refine bstep (by assumption) (by first | (simp; done) | (simp; omega) | omega) ?_)), hX.below (by repeat (first | (with_reducible exact Below.refl _ _) | (with_reducible refine Below.drew ?_) | (with_reducible refine Below.alloc ?_ ?hh _; case hh => first | (simp; done) | (simp; omega) | omega) | (with_reducible refine Below.setCell ?_ ?hh _; case hh => first | (simp; done) | (simp; omega) | omega) | refine bstep (by assumption) (by first | (simp; done) | (simp; omega) | omega) ?_)), hG.below (by repeat (first | (with_reducible exact Below.refl _ _) | (with_reducible refine Below.drew ?_) | (with_reducible refine Below.alloc ?_ ?hh _; case hh => first | (simp; done) | (simp; omega) | omega) | (with_reducible refine Below.setCell ?_ ?hh _; case hh => first | (simp; done) | (simp; omega) | omega) | refine bstep (by assumption) (by first | (simp; done) | (simp; omega) | omega) ?_))⟩
          clear hKK
          refine takeYes (i := 12) (d := 130) (v := ?_) rfl rfl (by kernel_rfl) (by kernel_rfl) (by kernel_rfl) (fun _ _ _ h => h) (by rfl) (by assumption) ?_ ?_
          rotate_left
          · intro w' hSw; obtain ⟨⟨_, _, a0, a1, a2⟩, ⟨_, _, c0', c1', c2'⟩, ⟨_, _, v0, v1, v2⟩, ⟨_, _, y0, y1, y2⟩⟩ := hSw; go_simp; try exact rfl
          try simp only [List.setIfInBounds_toArray, List.set_cons_zero, List.set_cons_succ]
          refine takeYes (i := 13) (d := 131) (v := ?_) rfl rfl (by kernel_rfl) (by kernel_rfl) (by kernel_rfl) (fun _ _ _ h => h) (by rfl) (by assumption) ?_ ?_
          rotate_left
          · intro w' hSw; obtain ⟨⟨_, _, a0, a1, a2⟩, ⟨_, _, c0', c1', c2'⟩, ⟨_, _, v0, v1, v2⟩, ⟨_, _, y0, y1, y2⟩⟩ := hSw; go_simp; try exact rfl
          try simp only [List.setIfInBounds_toArray, List.set_cons_zero, List.set_cons_succ]
          refine takeYes (i := 14) (d := 132) (v := ?_) rfl rfl (by kernel_rfl) (by kernel_rfl) (by kernel_rfl) (fun _ _ _ h => h) (by rfl) (by assumption) ?_ ?_
          rotate_left
          · intro w' hSw; obtain ⟨⟨_, _, a0, a1, a2⟩, ⟨_, _, c0', c1', c2'⟩, ⟨_, _, v0, v1, v2⟩, ⟨_, _, y0, y1, y2⟩⟩ := hSw; go_simp; try exact rfl
          try simp only [List.setIfInBounds_toArray, List.set_cons_zero, List.set_cons_succ]
          refine takeYes (i := 15) (d := 133) (v := ?_) rfl rfl (by kernel_rfl) (by kernel_rfl) (by kernel_rfl) (fun _ _ _ h => h) (by rfl) (by assumption) ?_ ?_
          rotate_left
          · intro w' hSw; obtain ⟨⟨_, _, a0, a1, a2⟩, ⟨_, _, c0', c1', c2'⟩, ⟨_, _, v0, v1, v2⟩, ⟨_, _, y0, y1, y2⟩⟩ := hSw; go_simp; try exact rfl
          try simp only [List.setIfInBounds_toArray, List.set_cons_zero, List.set_cons_succ]
          refine takeYes (i := 16) (d := 134) (v := ?_) rfl rfl (by kernel_rfl) (by kernel_rfl) (by kernel_rfl) (fun _ _ _ h => h) (by rfl) (by assumption) ?_ ?_
          rotate_left
          · intro w' hSw; obtain ⟨⟨_, _, a0, a1, a2⟩, ⟨_, _, c0', c1', c2'⟩, ⟨_, _, v0, v1, v2⟩, ⟨_, _, y0, y1, y2⟩⟩ := hSw; go_simp; try exact rfl
          try simp only [List.setIfInBounds_toArray, List.set_cons_zero, List.set_cons_succ]
          refine takeYes (i := 17) (d := 135) (v := ?_) rfl rfl (by kernel_rfl) (by kernel_rfl) (by kernel_rfl) (fun _ _ _ h => h) (by rfl) (by assumption) ?_ ?_
          rotate_left
          · intro w' hSw; obtain ⟨⟨_, _, a0, a1, a2⟩, ⟨_, _, c0', c1', c2'⟩, ⟨_, _, v0, v1, v2⟩, ⟨_, _, y0, y1, y2⟩⟩ := hSw; go_simp; try exact rfl
          try simp only [List.setIfInBounds_toArray, List.set_cons_zero, List.set_cons_succ]
          refine takeYes (i := 18) (d := 136) (v := ?_) rfl rfl (by kernel_rfl) (by kernel_rfl) (by kernel_rfl) (fun _ _ _ h => h) (by rfl) (by assumption) ?_ ?_
          rotate_left
          · intro w' hSw; obtain ⟨⟨_, _, a0, a1, a2⟩, ⟨_, _, c0', c1', c2'⟩, ⟨_, _, v0, v1, v2⟩, ⟨_, _, y0, y1, y2⟩⟩ := hSw; go_simp; try exact rfl
          try simp only [List.setIfInBounds_toArray, List.set_cons_zero, List.set_cons_succ]
          refine takeYes (i := 20) (d := 138) (v := ?_) rfl rfl (by kernel_rfl) (by kernel_rfl) (by kernel_rfl) (fun _ _ _ h => h) (by rfl) (by assumption) ?_ ?_
          rotate_left
          · intro w' hSw; obtain ⟨⟨_, _, a0, a1, a2⟩, ⟨_, _, c0', c1', c2'⟩, ⟨_, _, v0, v1, v2⟩, ⟨_, _, y0, y1, y2⟩⟩ := hSw; go_simp; try exact rfl
          try simp only [List.setIfInBounds_toArray, List.set_cons_zero, List.set_cons_succ]
          refine takeYes (i := 21) (d := 139) (v := ?_) rfl rfl (by kernel_rfl) (by kernel_rfl) (by kernel_rfl) (fun _ _ _ h => h) (by rfl) (by assumption) ?_ ?_
          rotate_left
          · intro w' hSw; obtain ⟨⟨_, _, a0, a1, a2⟩, ⟨_, _, c0', c1', c2'⟩, ⟨_, _, v0, v1, v2⟩, ⟨_, _, y0, y1, y2⟩⟩ := hSw; go_simp; try exact rfl
          try simp only [List.setIfInBounds_toArray, List.set_cons_zero, List.set_cons_succ]
          refine takeYes (i := 22) (d := 140) (v := ?_) rfl rfl (by kernel_rfl) (by kernel_rfl) (by kernel_rfl) (fun _ _ _ h => h) (by rfl) (by assumption) ?_ ?_
          rotate_left
          · intro w' hSw; obtain ⟨⟨_, _, a0, a1, a2⟩, ⟨_, _, c0', c1', c2'⟩, ⟨_, _, v0, v1, v2⟩, ⟨_, _, y0, y1, y2⟩⟩ := hSw; go_simp; try exact rfl
          try simp only [List.setIfInBounds_toArray, List.set_cons_zero, List.set_cons_succ]
          refine takeYes (i := 23) (d := 141) (v := ?_) rfl rfl (by kernel_rfl) (by kernel_rfl) (by kernel_rfl) (fun _ _ _ h => h) (by rfl) (by assumption) ?_ ?_
          rotate_left
          · intro w' hSw; obtain ⟨⟨_, _, a0, a1, a2⟩, ⟨_, _, c0', c1', c2'⟩, ⟨_, _, v0, v1, v2⟩, ⟨_, _, y0, y1, y2⟩⟩ := hSw; go_simp; try exact rfl
          try simp only [List.setIfInBounds_toArray, List.set_cons_zero, List.set_cons_succ]
          refine wpAnyH_ready (rs := [19]) (by kernel_rfl) (by simp) ?_
          refine AllReadyH.cons rfl (fun KK hKK => ?_) AllReadyH.nil
          go_simp
          go_at_call 8
          refine Calls.mono (implPut_any gk gn gs _ hgs) ?_
          rintro x w23 ⟨rfl, hb23⟩
          have hz23 := hb23.size
          (try simp at hz23)
          rw [gp.out]
          try go_wp2_with fail
          refine hKK.out _ _ ?_ (fun hHeld19 => ?_)
          · exact ⟨hA.below (by repeat (first | (with_reducible exact Below.refl _ _) | (with_reducible refine Below.drew ?_) | (with_reducible refine Below.alloc ?_ ?hh _; case hh => first | (simp; done) | (simp; omega) | omega) | (with_reducible refine Below.setCell ?_ ?hh _; case hh => first | (simp; done) | (simp; omega) | omega) | refine bstep (by assumption) (by first | (simp; done) | (simp; omega) | omega) ?_)), hC.below (by repeat (first | (with_reducible exact Below.refl _ _) | (with_reducible refine Below.drew ?_) | (with_reducible refine Below.alloc ?_ ?hh _; case hh => first | (simp; done) | (simp; omega) | omega) | (with_reducible refine Below.setCell ?_ ?hh _; case hh => first | (simp; done) | (simp; omega) | omega) | refine bstep (by assumption) (by first | (simp; done) | (simp; omega) | omega) ?_)), hX.below (by repeat (first | (with_reducible exact Below.refl _ _) | (with_reducible refine Below.drew ?_) | (with_reducible refine Below.alloc ?_ ?hh _; case hh => first | (simp; done) | (simp; omega) | omega) | (with_reducible refine Below.setCell ?_ ?hh _; case hh => first | (simp; done) | (simp; omega) | omega) | refine bstep (by assumption) (by first | (simp; done) | (simp; omega) | omega) ?_)), hG.below (by repeat (first | (with_reducible exact Below.refl _ _) | (with_reducible refine Below.drew ?_) | (with_reducible refine Below.alloc ?_ ?hh _; case hh => first | (simp; done) | (simp; omega) | omega) | (with_reducible refine Below.setCell ?_ ?hh _; case hh => first | (simp; done) | (simp; omega) | omega) | refine bstep (by assumption) (by first | (simp; done) | (simp; omega) | omega) ?_))⟩
          clear hKK
          refine takeYes (i := 24) (d := 142) (v := ?_) rfl rfl (by kernel_rfl) (by kernel_rfl) (by kernel_rfl) (fun _ _ _ h => h) (by rfl) (by assumption) ?_ ?_
          rotate_left
          · intro w' hSw; obtain ⟨⟨_, _, a0, a1, a2⟩, ⟨_, _, c0', c1', c2'⟩, ⟨_, _, v0, v1, v2⟩, ⟨_, _, y0, y1, y2⟩⟩ := hSw; go_simp; try exact rfl
          try simp only [List.setIfInBounds_toArray, List.set_cons_zero, List.set_cons_succ]
          refine takeYes (i := 25) (d := 143) (v := ?_) rfl rfl (by kernel_rfl) (by kernel_rfl) (by kernel_rfl) (fun _ _ _ h => h) (by rfl) (by assumption) ?_ ?_
          rotate_left
          · intro w' hSw; obtain ⟨⟨_, _, a0, a1, a2⟩, ⟨_, _, c0', c1', c2'⟩, ⟨_, _, v0, v1, v2⟩, ⟨_, _, y0, y1, y2⟩⟩ := hSw; go_simp; try exact rfl
          try simp only [List.setIfInBounds_toArray, List.set_cons_zero, List.set_cons_succ]
          refine takeYes (i := 26) (d := 144) (v := ?_) rfl rfl (by kernel_rfl) (by kernel_rfl) (by kernel_rfl) (fun _ _ _ h => h) (by rfl) (by assumption) ?_ ?_
          rotate_left
          · intro w' hSw; obtain ⟨⟨_, _, a0, a1, a2⟩, ⟨_, _, c0', c1', c2'⟩, ⟨_, _, v0, v1, v2⟩, ⟨_, _, y0, y1, y2⟩⟩ := hSw; go_simp; try exact rfl
          try simp only [List.setIfInBounds_toArray, List.set_cons_zero, List.set_cons_succ]
          refine wpAnyH_done (by kernel_rfl) ?_ _
          go_wp2_with fail
          (try go_meet)
          (try (case rel => exact ⟨rfl, by repeat (first | (with_reducible exact Below.refl _ _) | (with_reducible refine Below.drew ?_) | (with_reducible refine Below.alloc ?_ ?hh _; case hh => first | (simp; done) | (simp; omega) | omega) | (with_reducible refine Below.setCell ?_ ?hh _; case hh => first | (simp; done) | (simp; omega) | omega) | refine bstep (by assumption) (by first | (simp; done) | (simp; omega) | omega) ?_)⟩))
      · have d3 : decide (0 < gj) = false := by simpa using hg0
        as_aux_lemma =>
          refine wp_region_held_drew (S := (fun w' => VarV w' bA k n s ∧ VarV w' bC k' n' s' ∧ VarV w' bX xk xn xs ∧ VarV w' bG gk gn gs)) (by kernel_rfl) ?_ (fun hHeld => ?_)
          · exact ⟨hA.below (by repeat (first | (with_reducible exact Below.refl _ _) | (with_reducible refine Below.drew ?_) | (with_reducible refine Below.alloc ?_ ?hh _; case hh => first | (simp; done) | (simp; omega) | omega) | (with_reducible refine Below.setCell ?_ ?hh _; case hh => first | (simp; done) | (simp; omega) | omega) | refine bstep (by assumption) (by first | (simp; done) | (simp; omega) | omega) ?_)), hC.below (by repeat (first | (with_reducible exact Below.refl _ _) | (with_reducible refine Below.drew ?_) | (with_reducible refine Below.alloc ?_ ?hh _; case hh => first | (simp; done) | (simp; omega) | omega) | (with_reducible refine Below.setCell ?_ ?hh _; case hh => first | (simp; done) | (simp; omega) | omega) | refine bstep (by assumption) (by first | (simp; done) | (simp; omega) | omega) ?_)), hX.below (by repeat (first | (with_reducible exact Below.refl _ _) | (with_reducible refine Below.drew ?_) | (with_reducible refine Below.alloc ?_ ?hh _; case hh => first | (simp; done) | (simp; omega) | omega) | (with_reducible refine Below.setCell ?_ ?hh _; case hh => first | (simp; done) | (simp; omega) | omega) | refine bstep (by assumption) (by first | (simp; done) | (simp; omega) | omega) ?_)), hG.below (by repeat (first | (with_reducible exact Below.refl _ _) | (with_reducible refine Below.drew ?_) | (with_reducible refine Below.alloc ?_ ?hh _; case hh => first | (simp; done) | (simp; omega) | omega) | (with_reducible refine Below.setCell ?_ ?hh _; case hh => first | (simp; done) | (simp; omega) | omega) | refine bstep (by assumption) (by first | (simp; done) | (simp; omega) | omega) ?_))⟩
          refine takeYes (i := 0) (d := 118) (v := ?_) rfl rfl (by kernel_rfl) (by kernel_rfl) (by kernel_rfl) (fun _ _ _ h => h) (by rfl) (by assumption) ?_ ?_
          rotate_left
          · intro w' hSw; obtain ⟨⟨_, _, a0, a1, a2⟩, ⟨_, _, c0', c1', c2'⟩, ⟨_, _, v0, v1, v2⟩, ⟨_, _, y0, y1, y2⟩⟩ := hSw; go_simp; try exact rfl
          try simp only [List.setIfInBounds_toArray, List.set_cons_zero, List.set_cons_succ]
          refine takeYes (i := 1) (d := 119) (v := ?_) rfl rfl (by kernel_rfl) (by kernel_rfl) (by kernel_rfl) (fun _ _ _ h => h) (by rfl) (by assumption) ?_ ?_
          rotate_left
          · intro w' hSw; obtain ⟨⟨_, _, a0, a1, a2⟩, ⟨_, _, c0', c1', c2'⟩, ⟨_, _, v0, v1, v2⟩, ⟨_, _, y0, y1, y2⟩⟩ := hSw; go_simp; try exact rfl
          try simp only [List.setIfInBounds_toArray, List.set_cons_zero, List.set_cons_succ]
          refine takeYes (i := 2) (d := 120) (v := ?_) rfl rfl (by kernel_rfl) (by kernel_rfl) (by kernel_rfl) (fun _ _ _ h => h) (by rfl) (by assumption) ?_ ?_
          rotate_left
          · intro w' hSw; obtain ⟨⟨_, _, a0, a1, a2⟩, ⟨_, _, c0', c1', c2'⟩, ⟨_, _, v0, v1, v2⟩, ⟨_, _, y0, y1, y2⟩⟩ := hSw; go_simp; try exact rfl
          try simp only [List.setIfInBounds_toArray, List.set_cons_zero, List.set_cons_succ]
          refine takeYes (i := 3) (d := 121) (v := ?_) rfl rfl (by kernel_rfl) (by kernel_rfl) (by kernel_rfl) (fun _ _ _ h => h) (by rfl) (by assumption) ?_ ?_
          rotate_left
          · intro w' hSw; obtain ⟨⟨_, _, a0, a1, a2⟩, ⟨_, _, c0', c1', c2'⟩, ⟨_, _, v0, v1, v2⟩, ⟨_, _, y0, y1, y2⟩⟩ := hSw; go_simp; try exact rfl
          try simp only [List.setIfInBounds_toArray, List.set_cons_zero, List.set_cons_succ]
          refine takeYes (i := 4) (d := 122) (v := ?_) rfl rfl (by kernel_rfl) (by kernel_rfl) (by kernel_rfl) (fun _ _ _ h => h) (by rfl) (by assumption) ?_ ?_
          rotate_left
          · intro w' hSw; obtain ⟨⟨_, _, a0, a1, a2⟩, ⟨_, _, c0', c1', c2'⟩, ⟨_, _, v0, v1, v2⟩, ⟨_, _, y0, y1, y2⟩⟩ := hSw; go_simp; try exact rfl
          try simp only [List.setIfInBounds_toArray, List.set_cons_zero, List.set_cons_succ]
          refine wpAnyH_ready (rs := [5]) (by kernel_rfl) (by simp) ?_
          refine AllReadyH.cons rfl (fun KK hKK => ?_) AllReadyH.nil
          go_simp
          go_at_call 6
          refine Calls.mono (implCmp_any k' n' xk xn s' xs _) ?_
          rintro x w21 ⟨rfl, hb21⟩
          have hz21 := hb21.size
          (try simp at hz21)
          rw [e1.out]
          try go_wp2_with fail
          refine hKK.out _ _ ?_ (fun hHeld5 => ?_)
          · exact ⟨hA.below (by repeat (first | (with_reducible exact Below.refl _ _) | (with_reducible refine Below.drew ?_) | (with_reducible refine Below.alloc ?_ ?hh _; case hh => first | (simp; done) | (simp; omega) | omega) | (with_reducible refine Below.setCell ?_ ?hh _; case hh => first | (simp; done) | (simp; omega) | omega) | refine bstep (by assumption) (by first | (simp; done) | (simp; omega) | omega) ?_)), hC.below (by repeat (first | (with_reducible exact Below.refl _ _) | (with_reducible refine Below.drew ?_) | (with_reducible refine Below.alloc ?_ ?hh _; case hh => first | (simp; done) | (simp; omega) | omega) | (with_reducible refine Below.setCell ?_ ?hh _; case hh => first | (simp; done) | (simp; omega) | omega) | refine bstep (by assumption) (by first | (simp; done) | (simp; omega) | omega) ?_)), hX.below (by repeat (first | (with_reducible exact Below.refl _ _) | (with_reducible refine Below.drew ?_) | (with_reducible refine Below.alloc ?_ ?hh _; case hh => first | (simp; done) | (simp; omega) | omega) | (with_reducible refine Below.setCell ?_ ?hh _; case hh => first | (simp; done) | (simp; omega) | omega) | refine bstep (by assumption) (by first | (simp; done) | (simp; omega) | omega) ?_)), hG.below (by repeat (first | (with_reducible exact Below.refl _ _) | (with_reducible refine Below.drew ?_) | (with_reducible refine Below.alloc ?_ ?hh _; case hh => first | (simp; done) | (simp; omega) | omega) | (with_reducible refine Below.setCell ?_ ?hh _; case hh => first | (simp; done) | (simp; omega) | omega) | refine bstep (by assumption) (by first | (simp; done) | (simp; omega) | omega) ?_))⟩
          clear hKK
          refine takeYes (i := 6) (d := 124) (v := ?_) rfl rfl (by kernel_rfl) (by kernel_rfl) (by kernel_rfl) (fun _ _ _ h => h) (by rfl) (by assumption) ?_ ?_
          rotate_left
          · intro w' hSw; obtain ⟨⟨_, _, a0, a1, a2⟩, ⟨_, _, c0', c1', c2'⟩, ⟨_, _, v0, v1, v2⟩, ⟨_, _, y0, y1, y2⟩⟩ := hSw; go_simp; try exact rfl
          try simp only [List.setIfInBounds_toArray, List.set_cons_zero, List.set_cons_succ]
          refine takeYes (i := 7) (d := 125) (v := ?_) rfl rfl (by kernel_rfl) (by kernel_rfl) (by kernel_rfl) (fun _ _ _ h => h) (by rfl) (by assumption) ?_ ?_
          rotate_left
          · intro w' hSw; obtain ⟨⟨_, _, a0, a1, a2⟩, ⟨_, _, c0', c1', c2'⟩, ⟨_, _, v0, v1, v2⟩, ⟨_, _, y0, y1, y2⟩⟩ := hSw; go_simp; try exact rfl
          try simp only [List.setIfInBounds_toArray, List.set_cons_zero, List.set_cons_succ]
          refine takeYes (i := 8) (d := 126) (v := ?_) rfl rfl (by kernel_rfl) (by kernel_rfl) (by kernel_rfl) (fun _ _ _ h => h) (by rfl) (by assumption) ?_ ?_
          rotate_left
          · intro w' hSw; obtain ⟨⟨_, _, a0, a1, a2⟩, ⟨_, _, c0', c1', c2'⟩, ⟨_, _, v0, v1, v2⟩, ⟨_, _, y0, y1, y2⟩⟩ := hSw; go_simp; try exact rfl
          try simp only [List.setIfInBounds_toArray, List.set_cons_zero, List.set_cons_succ]
          refine takeYes (i := 9) (d := 127) (v := ?_) rfl rfl (by kernel_rfl) (by kernel_rfl) (by kernel_rfl) (fun _ _ _ h => h) (by rfl) (by assumption) ?_ ?_
          rotate_left
          · intro w' hSw; obtain ⟨⟨_, _, a0, a1, a2⟩, ⟨_, _, c0', c1', c2'⟩, ⟨_, _, v0, v1, v2⟩, ⟨_, _, y0, y1, y2⟩⟩ := hSw; go_simp; try exact rfl
          try simp only [List.setIfInBounds_toArray, List.set_cons_zero, List.set_cons_succ]
          refine takeYes (i := 10) (d := 128) (v := ?_) rfl rfl (by kernel_rfl) (by kernel_rfl) (by kernel_rfl) (fun _ _ _ h => h) (by rfl) (by assumption) ?_ ?_
          rotate_left
          · intro w' hSw; obtain ⟨⟨_, _, a0, a1, a2⟩, ⟨_, _, c0', c1', c2'⟩, ⟨_, _, v0, v1, v2⟩, ⟨_, _, y0, y1, y2⟩⟩ := hSw; go_simp; try exact rfl
          try simp only [List.setIfInBounds_toArray, List.set_cons_zero, List.set_cons_succ]
          refine wpAnyH_ready (rs := [11]) (by kernel_rfl) (by simp) ?_
          refine AllReadyH.cons rfl (fun KK hKK => ?_) AllReadyH.nil
          go_simp
          go_at_call 6
          refine Calls.mono (implCmp_any k n xk xn s xs _) ?_
          rintro x w22 ⟨rfl, hb22⟩
          have hz22 := hb22.size
          (try simp at hz22)
          rw [e2.out]
          try go_wp2_with fail
          refine hKK.out _ _ ?_ (fun hHeld11 => ?_)
          · exact ⟨hA.below (by repeat (first | (with_reducible exact Below.refl _ _) | (with_reducible refine Below.drew ?_) | (with_reducible refine Below.alloc ?_ ?hh _; case hh => first | (simp; done) | (simp; omega) | omega) | (with_reducible refine Below.setCell ?_ ?hh _; case hh => first | (simp; done) | (simp; omega) | omega) | refine bstep (by assumption) (by first | (simp; done) | (simp; omega) | omega) ?_)), hC.below (by repeat (first | (with_reducible exact Below.refl _ _) | (with_reducible refine Below.drew ?_) | (with_reducible refine Below.alloc ?_ ?hh _; case hh => first | (simp; done) | (simp; omega) | omega) | (with_reducible refine Below.setCell ?_ ?hh _; case hh => first | (simp; done) | (simp; omega) | omega) | refine bstep (by assumption) (by first | (simp; done) | (simp; omega) | omega) ?_)), hX.below (by repeat (first | (with_reducible exact Below.refl _ _) | (with_reducible refine Below.drew ?_) | (with_reducible refine Below.alloc ?_ ?hh _; case hh => first | (simp; done) | (simp; omega) | omega) | (with_reducible refine Below.setCell ?_ ?hh _; case hh => first | (simp; done) | (simp; omega) | omega) | refine bstep (by assumption) (by first | (simp; done) | (simp; omega) | omega) ?_)), hG.below (by repeat (first | (with_reducible exact Below.refl _ _) | (with_reducible refine Below.drew ?_) | (with_reducible refine Below.alloc ?_ ?hh _; case hh => first | (simp; done) | (simp; omega) | omega) | (with_reducible refine Below.setCell ?_ ?hh _; case hh => first | (simp; done) | (simp; omega) | omega) | refine bstep (by assumption) (by first | (simp; done) | (simp; omega) | omega) ?_))⟩
          clear hKK
          refine takeYes (i := 12) (d := 130) (v := ?_) rfl rfl (by kernel_rfl) (by kernel_rfl) (by kernel_rfl) (fun _ _ _ h => h) (by rfl) (by assumption) ?_ ?_
          rotate_left
          · intro w' hSw; obtain ⟨⟨_, _, a0, a1, a2⟩, ⟨_, _, c0', c1', c2'⟩, ⟨_, _, v0, v1, v2⟩, ⟨_, _, y0, y1, y2⟩⟩ := hSw; go_simp; try exact rfl
          try simp only [List.setIfInBounds_toArray, List.set_cons_zero, List.set_cons_succ]
          refine takeYes (i := 13) (d := 131) (v := ?_) rfl rfl (by kernel_rfl) (by kernel_rfl) (by kernel_rfl) (fun _ _ _ h => h) (by rfl) (by assumption) ?_ ?_
          rotate_left
          · intro w' hSw; obtain ⟨⟨_, _, a0, a1, a2⟩, ⟨_, _, c0', c1', c2'⟩, ⟨_, _, v0, v1, v2⟩, ⟨_, _, y0, y1, y2⟩⟩ := hSw; go_simp; try exact rfl
          try simp only [List.setIfInBounds_toArray, List.set_cons_zero, List.set_cons_succ]
          refine takeYes (i := 14) (d := 132) (v := ?_) rfl rfl (by kernel_rfl) (by kernel_rfl) (by kernel_rfl) (fun _ _ _ h => h) (by rfl) (by assumption) ?_ ?_
          rotate_left
          · intro w' hSw; obtain ⟨⟨_, _, a0, a1, a2⟩, ⟨_, _, c0', c1', c2'⟩, ⟨_, _, v0, v1, v2⟩, ⟨_, _, y0, y1, y2⟩⟩ := hSw; go_simp; try exact rfl
          try simp only [List.setIfInBounds_toArray, List.set_cons_zero, List.set_cons_succ]
          refine takeYes (i := 15) (d := 133) (v := ?_) rfl rfl (by kernel_rfl) (by kernel_rfl) (by kernel_rfl) (fun _ _ _ h => h) (by rfl) (by assumption) ?_ ?_
          rotate_left
          · intro w' hSw; obtain ⟨⟨_, _, a0, a1, a2⟩, ⟨_, _, c0', c1', c2'⟩, ⟨_, _, v0, v1, v2⟩, ⟨_, _, y0, y1, y2⟩⟩ := hSw; go_simp; try exact rfl
          try simp only [List.setIfInBounds_toArray, List.set_cons_zero, List.set_cons_succ]
          refine takeYes (i := 16) (d := 134) (v := ?_) rfl rfl (by kernel_rfl) (by kernel_rfl) (by kernel_rfl) (fun _ _ _ h => h) (by rfl) (by assumption) ?_ ?_
          rotate_left
          · intro w' hSw; obtain ⟨⟨_, _, a0, a1, a2⟩, ⟨_, _, c0', c1', c2'⟩, ⟨_, _, v0, v1, v2⟩, ⟨_, _, y0, y1, y2⟩⟩ := hSw; go_simp; try exact rfl
          try simp only [List.setIfInBounds_toArray, List.set_cons_zero, List.set_cons_succ]
          refine takeYes (i := 17) (d := 135) (v := ?_) rfl rfl (by kernel_rfl) (by kernel_rfl) (by kernel_rfl) (fun _ _ _ h => h) (by rfl) (by assumption) ?_ ?_
          rotate_left
          · intro w' hSw; obtain ⟨⟨_, _, a0, a1, a2⟩, ⟨_, _, c0', c1', c2'⟩, ⟨_, _, v0, v1, v2⟩, ⟨_, _, y0, y1, y2⟩⟩ := hSw; go_simp; try exact rfl
          try simp only [List.setIfInBounds_toArray, List.set_cons_zero, List.set_cons_succ]
          refine takeNo (i := 18) (d := 136) rfl rfl (by kernel_rfl) (by kernel_rfl) (by kernel_rfl) (fun _ _ _ h => h) (by rfl) (by assumption) ?_
          try simp only [List.setIfInBounds_toArray, List.set_cons_zero, List.set_cons_succ]
          refine takeNo (i := 20) (d := 138) rfl rfl (by kernel_rfl) (by kernel_rfl) (by kernel_rfl) (fun _ _ _ h => h) (by rfl) (by assumption) ?_
          try simp only [List.setIfInBounds_toArray, List.set_cons_zero, List.set_cons_succ]
          refine takeNo (i := 21) (d := 139) rfl rfl (by kernel_rfl) (by kernel_rfl) (by kernel_rfl) (fun _ _ _ h => h) (by rfl) (by assumption) ?_
          try simp only [List.setIfInBounds_toArray, List.set_cons_zero, List.set_cons_succ]
          refine takeNo (i := 22) (d := 140) rfl rfl (by kernel_rfl) (by kernel_rfl) (by kernel_rfl) (fun _ _ _ h => h) (by rfl) (by assumption) ?_
          try simp only [List.setIfInBounds_toArray, List.set_cons_zero, List.set_cons_succ]
          refine takeNo (i := 23) (d := 141) rfl rfl (by kernel_rfl) (by kernel_rfl) (by kernel_rfl) (fun _ _ _ h => h) (by rfl) (by assumption) ?_
          try simp only [List.setIfInBounds_toArray, List.set_cons_zero, List.set_cons_succ]
          refine wpAnyH_ready (rs := [19]) (by kernel_rfl) (by simp) ?_
          refine AllReadyH.cons rfl (fun KK hKK => ?_) AllReadyH.nil
          go_simp
          refine hKK.out _ _ ?_ (fun hHeld19 => ?_)
          · exact ⟨hA.below (by repeat (first | (with_reducible exact Below.refl _ _) | (with_reducible refine Below.drew ?_) | (with_reducible refine Below.alloc ?_ ?hh _; case hh => first | (simp; done) | (simp; omega) | omega) | (with_reducible refine Below.setCell ?_ ?hh _; case hh => first | (simp; done) | (simp; omega) | omega) | refine bstep (by assumption) (by first | (simp; done) | (simp; omega) | omega) ?_)), hC.below (by repeat (first | (with_reducible exact Below.refl _ _) | (with_reducible refine Below.drew ?_) | (with_reducible refine Below.alloc ?_ ?hh _; case hh => first | (simp; done) | (simp; omega) | omega) | (with_reducible refine Below.setCell ?_ ?hh _; case hh => first | (simp; done) | (simp; omega) | omega) | refine bstep (by assumption) (by first | (simp; done) | (simp; omega) | omega) ?_)), hX.below (by repeat (first | (with_reducible exact Below.refl _ _) | (with_reducible refine Below.drew ?_) | (with_reducible refine Below.alloc ?_ ?hh _; case hh => first | (simp; done) | (simp; omega) | omega) | (with_reducible refine Below.setCell ?_ ?hh _; case hh => first | (simp; done) | (simp; omega) | omega) | refine bstep (by assumption) (by first | (simp; done) | (simp; omega) | omega) ?_)), hG.below (by repeat (first | (with_reducible exact Below.refl _ _) | (with_reducible refine Below.drew ?_) | (with_reducible refine Below.alloc ?_ ?hh _; case hh => first | (simp; done) | (simp; omega) | omega) | (with_reducible refine Below.setCell ?_ ?hh _; case hh => first | (simp; done) | (simp; omega) | omega) | refine bstep (by assumption) (by first | (simp; done) | (simp; omega) | omega) ?_))⟩
          clear hKK
          refine takeNo (i := 24) (d := 142) rfl rfl (by kernel_rfl) (by kernel_rfl) (by kernel_rfl) (fun _ _ _ h => h) (by rfl) (by assumption) ?_
          try simp only [List.setIfInBounds_toArray, List.set_cons_zero, List.set_cons_succ]
          refine takeYes (i := 25) (d := 143) (v := ?_) rfl rfl (by kernel_rfl) (by kernel_rfl) (by kernel_rfl) (fun _ _ _ h => h) (by rfl) (by assumption) ?_ ?_
          rotate_left
          · intro w' hSw; obtain ⟨⟨_, _, a0, a1, a2⟩, ⟨_, _, c0', c1', c2'⟩, ⟨_, _, v0, v1, v2⟩, ⟨_, _, y0, y1, y2⟩⟩ := hSw; go_simp; try exact rfl
          try simp only [List.setIfInBounds_toArray, List.set_cons_zero, List.set_cons_succ]
          refine takeYes (i := 26) (d := 144) (v := ?_) rfl rfl (by kernel_rfl) (by kernel_rfl) (by kernel_rfl) (fun _ _ _ h => h) (by rfl) (by assumption) ?_ ?_
          rotate_left
          · intro w' hSw; obtain ⟨⟨_, _, a0, a1, a2⟩, ⟨_, _, c0', c1', c2'⟩, ⟨_, _, v0, v1, v2⟩, ⟨_, _, y0, y1, y2⟩⟩ := hSw; go_simp; try exact rfl
          try simp only [List.setIfInBounds_toArray, List.set_cons_zero, List.set_cons_succ]
          refine wpAnyH_done (by kernel_rfl) ?_ _
          go_wp2_with fail
          (try go_meet)
          (try (case rel => exact ⟨rfl, by repeat (first | (with_reducible exact Below.refl _ _) | (with_reducible refine Below.drew ?_) | (with_reducible refine Below.alloc ?_ ?hh _; case hh => first | (simp; done) | (simp; omega) | omega) | (with_reducible refine Below.setCell ?_ ?hh _; case hh => first | (simp; done) | (simp; omega) | omega) | refine bstep (by assumption) (by first | (simp; done) | (simp; omega) | omega) ?_)⟩))
    case rest =>
      obtain ⟨rfl, hbL⟩ := hcut
      replace hX := hX.below hbL
      replace hbw : Below w.heap.size w wc := hbw.trans (hbL.mono hzw)
      replace hzw := hbw.size
      clear hbL
      clear hA hC hG GP ec
      have q6 := fun w => eqV xk xn xk xn xs xs w
      cases hok : okB xk xn xs
      · have hp : putS xk xn xs = ⟨#[]⟩ := putS_no xk xn xs hok
        rw [hp]
        have qX := hX; obtain ⟨_, _, p0, p1, p2⟩ := qX
        go_wp2_with fail
        refine (specValueOk_any xk xn xs _ (by unfold maxLen; omega)).mono ?_
        rintro x w30 ⟨rfl, hb30⟩
        rw [hok]
        go_wp2
        go_returns
        exact ⟨rfl, by repeat (first | (with_reducible exact Below.refl _ _) | (with_reducible refine Below.drew ?_) | (with_reducible refine Below.alloc ?_ ?hh _; case hh => first | (simp; done) | (simp; omega) | omega) | (with_reducible refine Below.setCell ?_ ?hh _; case hh => first | (simp; done) | (simp; omega) | omega) | refine bstep (by assumption) (by first | (simp; done) | (simp; omega) | omega) ?_)⟩
      have hg := put_get xk xn xs xn0 xn1 hok
      have hP := putS_size' xk xn xs (by omega)
      have hne : ((putS xk xn xs).toList == []) = false := putS_ne xk xn xs xn0 xn1 hok
      generalize putS xk xn xs = P at hg hP hne ⊢
      have hIG : Hid (∀ w, Calls Tryd.prog 10 #[.string (⟨#[97]⟩ ++ P ++ ⟨#[98]⟩), .int .i64 1] w fun e w' => e = .returned (.tuple #[(.agg #[.int .i64 xk, .int .i64 xn, .string xs]), .int .i64 (1 + (P.size : Int))]) ∧ Below w.heap.size w w') := fun w => by have := implGet_any (⟨#[97]⟩ ++ P ++ ⟨#[98]⟩) 1 w (by rw [ByteArray.size_append, ByteArray.size_append]; show 1 + P.size + 1 ≤ 1048576; omega); rw [hg] at this; exact this
      clear hg hok
      go_wp2_with fail
      refine (hIG.out _).mono ?_
      rintro x w31 ⟨rfl, hb31⟩
      have hz31 := hb31.size
      replace hX := hX.below hb31
      have qX := hX; obtain ⟨_, _, p0, p1, p2⟩ := qX
      have xw : wrap64 (1 + (P.size : Int)) = 1 + (P.size : Int) := by unfold wrap64; omega
      go_wp2
      all_goals (go_returns; exact ⟨rfl, by repeat (first | (with_reducible exact Below.refl _ _) | (with_reducible refine Below.drew ?_) | (with_reducible refine Below.alloc ?_ ?hh _; case hh => first | (simp; done) | (simp; omega) | omega) | (with_reducible refine Below.setCell ?_ ?hh _; case hh => first | (simp; done) | (simp; omega) | omega) | refine bstep (by assumption) (by first | (simp; done) | (simp; omega) | omega) ?_)⟩)
end Go.Proofs.YtpapmmfcjoillaaDoor.fnValue
