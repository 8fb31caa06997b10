/- Own text. The walk of FnReckon. -/
import Derived.Test.YtlakhcmbalcclaaDrF
import Derived.Test.YtlakhcmbalcclaaRkB
import Derived.Test.YtlakhcmbalcclaaVOkSpec
import Derived.Test.YtlakhcmbalcclaaVOkImpl
import Derived.Test.YtlakhcmbalcclaaTake
import Derived.Test.YtlakhcmbalcclaaInvR
import Derived.Test.YtlakhcmbalcclaaBel
import Derived.WalkKit
import Derived.WalkSpells
import Derived.WalkLawsBesides
import Derived.Handy
import Derived.Below
import Derived.Deep.RegionHeld3
import Derived.Deep.DeepCutAuto
namespace Go.Proofs.Ytlakhcmbalcclaa.fnReckon
open Go.RowKit Go.Deep
set_option linter.unusedVariables false
theorem neV (k n k' n' : Int) (s s' : ByteArray) (w : World) : (binOp .neq 25 (.agg #[.int .i64 k, .int .i64 n, .string s]) (.agg #[.int .i64 k', .int .i64 n', .string s'])).run Try.prog w = .ok (.bool (!(k == k' && (n == n' && s.toList == s'.toList)))) w := by
  have h := eqV k n k' n' s s' w
  rw [run_eql_struct] at h
  rw [run_neq_struct]
  revert h
  cases (Op.equalIn 10000 25 (.agg #[.int .i64 k, .int .i64 n, .string s]) (.agg #[.int .i64 k', .int .i64 n', .string s'])).run Try.prog w <;> intro h <;> simp_all [Result.andThen]
theorem neS (k n : Int) (s : ByteArray) (w : World) : (binOp .neq 25 (.agg #[.int .i64 k, .int .i64 n, .string s]) (.agg #[.int .i64 k, .int .i64 n, .string s])).run Try.prog w = .ok (.bool false) w := by
  rw [neV]; simp
theorem VarV.later {w w' : World} {N : Nat} {k n : Int} {s : ByteArray} (h : VarV w N k n s) (hb : Below w.heap.size w w') : VarV w' N k n s := h.below hb
set_option maxHeartbeats 60000000 in
set_option maxRecDepth 100000 in
theorem walk_small (a : Option Addr) (l c : Nat) (m : Int) (w : World) (hB : BytesB w w.heap.size (.slice a l c) l) (hm : w.cell? ⟨0, 0, none⟩ = some (.int .i64 m)) :
    Calls Try.prog 3 #[.slice a l c] w fun x w' => x = .returned (.bool true) ∧ Below w.heap.size w w' := by
  have hl : l ≤ 1048576 := by obtain ⟨_, _, _, _, h, _⟩ := hB; exact h
  have hd : decide ((1048576 : Int) < l) = false := by simp; omega
  go_enter Try.func3, Try.ntmps3
  go_wp2_with fail
  refine (big_any a l c _ (by omega)).mono ?_
  rintro x w ⟨rfl, rfl⟩
  rw [hd]
  clear hd
  go_wp2_with fail
  refine (drawReckon_any _ l _ hB).mono ?_
  rintro x w1 ⟨⟨op, k, n, s, k', n', s', rfl, hop, n0, n1, hs, n0', n1', hs'⟩, hb1⟩
  obtain ⟨K, N, hok, HI0, HS0⟩ := bothK_any op k n k' n' s s' m ⟨n0, n1⟩ ⟨n0', n1'⟩ (by omega) (by omega)
  have HI : Hid _ := HI0
  have HS : Hid _ := HS0
  clear HI0 HS0
  have hz1 := hb1.size
  have hA := (VarV.new w1 k n s 25).alloc (.cells #[.int .i64 k', .int .i64 n', .string s'] 25)
  have hC := VarV.new (w1.alloc (.cells #[.int .i64 k, .int .i64 n, .string s] 25)) k' n' s' 25
  rw [show (w1.alloc (.cells #[.int .i64 k, .int .i64 n, .string s] 25)).heap.size = w1.heap.size + 1 by simp] at hC
  have hbw : Below w.heap.size w ((w1.alloc (.cells #[.int .i64 k, .int .i64 n, .string s] 25)).alloc (.cells #[.int .i64 k', .int .i64 n', .string s'] 25)) := bel
  have hzw := hbw.size
  go_wp2_with fail
  refine (HI.out _ (cell_later hbw hm)).mono ?_
  rintro x w2 ⟨rfl, hb2⟩
  have hz2 := hb2.size
  (try simp at hz2)
  replace hA := hA.below hb2
  replace hC := hC.below hb2
  replace hbw : Below w.heap.size w w2 := hbw.trans (hb2.mono hzw)
  replace hzw := hbw.size
  clear hb2 HI
  have hV := VarV.new w2 K N ⟨#[]⟩ 25
  replace hA := hA.alloc (.cells #[.int .i64 K, .int .i64 N, .string ⟨#[]⟩] 25)
  replace hC := hC.alloc (.cells #[.int .i64 K, .int .i64 N, .string ⟨#[]⟩] 25)
  replace hbw : Below w.heap.size w (w2.alloc (.cells #[.int .i64 K, .int .i64 N, .string ⟨#[]⟩] 25)) := hbw.trans ((Below.refl _ _).alloc hzw _)
  replace hzw := hbw.size
  go_wp2_with fail
  refine (drawNot_any _ l _ (hB.up hbw hzw)).mono ?_
  rintro x w3 ⟨⟨xk, xn, xs, rfl, xk0, xk1, xn0, xn1, hxs⟩, hb3⟩
  have hz3 := hb3.size
  (try simp at hz3)
  replace hA := (hA.below hb3).alloc (.cells #[.int .i64 xk, .int .i64 xn, .string xs] 25)
  replace hC := (hC.below hb3).alloc (.cells #[.int .i64 xk, .int .i64 xn, .string xs] 25)
  replace hV := (hV.below hb3).alloc (.cells #[.int .i64 xk, .int .i64 xn, .string xs] 25)
  have hX := VarV.new w3 xk xn xs 25
  replace hbw : Below w.heap.size w (w3.alloc (.cells #[.int .i64 xk, .int .i64 xn, .string xs] 25)) := (hbw.trans (hb3.mono hzw)).trans ((Below.refl _ _).alloc (Nat.le_trans hzw hb3.size) _)
  replace hzw := hbw.size
  clear hb3 hb1 hB hm xk0 xk1
  obtain ⟨W, hW⟩ : ∃ W, W = w3.alloc (.cells #[.int .i64 xk, .int .i64 xn, .string xs] 25) := ⟨_, rfl⟩
  obtain ⟨bA, eA⟩ : ∃ b, b = w1.heap.size := ⟨_, rfl⟩
  obtain ⟨bC, eC⟩ : ∃ b, b = w1.heap.size + 1 := ⟨_, rfl⟩
  obtain ⟨bV, eV⟩ : ∃ b, b = w2.heap.size := ⟨_, rfl⟩
  obtain ⟨bX, eX⟩ : ∃ b, b = w3.heap.size := ⟨_, rfl⟩
  go_wp2_with fail
  rw [← hW, ← eC, ← eA, ← eV, ← eX]
  rw [← hW] at hA hC hV hX hbw hzw
  rw [← eA] at hA
  rw [← eC] at hC
  rw [← eV] at hV
  rw [← eX] at hX
  clear hW eA eC eV eX hz1 hz2 hz3
  have q1 := neS K N ⟨#[]⟩
  have q2 := neS (notK xk xn) (notN xk xn) ⟨#[]⟩
  have q3 := neS 2 (nulN xk) ⟨#[]⟩
  have hs2 : s.size ≤ maxLen := by unfold maxLen; omega
  have hs2' : s'.size ≤ maxLen := by unfold maxLen; omega
  go_cut [69] (fun v wz => v = .bool false ∧ Below W.heap.size W wz)
  case first =>
    as_aux_lemma =>
      cases ea : okB k n s
      · as_aux_lemma =>
          have hoa : Hid (okB k n s = false) := ea
          clear ea
          refine wp_region_held_drew (S := (fun w' => VarV w' bA k n s ∧ VarV w' bC k' n' s' ∧ VarV w' bV K N ⟨#[]⟩ ∧ VarV w' bX xk xn xs)) (by kernel_rfl) ?_ (fun hHeld => ?_)
          · exact ⟨hA.below (bel), hC.below (bel), hV.below (bel), hX.below (bel)⟩
          refine takeYes (i := 0) (d := 30) (v := ?_) rfl rfl (by kernel_rfl) (by kernel_rfl) (by kernel_rfl) (fun _ _ _ h => h) (by rfl) (by assumption) ?_ ?_
          rotate_left
          · intro w' hSw; obtain ⟨⟨_, _, a0, a1, a2⟩, ⟨_, _, c0, c1, c2⟩, ⟨_, _, v0, v1, v2⟩, ⟨_, _, x0, x1, x2⟩⟩ := hSw; go_simp; try exact rfl
          try simp only [List.setIfInBounds_toArray, List.set_cons_zero, List.set_cons_succ]
          refine takeYes (i := 1) (d := 31) (v := ?_) rfl rfl (by kernel_rfl) (by kernel_rfl) (by kernel_rfl) (fun _ _ _ h => h) (by rfl) (by assumption) ?_ ?_
          rotate_left
          · intro w' hSw; obtain ⟨⟨_, _, a0, a1, a2⟩, ⟨_, _, c0, c1, c2⟩, ⟨_, _, v0, v1, v2⟩, ⟨_, _, x0, x1, x2⟩⟩ := hSw; go_simp; try exact rfl
          try simp only [List.setIfInBounds_toArray, List.set_cons_zero, List.set_cons_succ]
          refine takeYes (i := 2) (d := 32) (v := ?_) rfl rfl (by kernel_rfl) (by kernel_rfl) (by kernel_rfl) (fun _ _ _ h => h) (by rfl) (by assumption) ?_ ?_
          rotate_left
          · intro w' hSw; obtain ⟨⟨_, _, a0, a1, a2⟩, ⟨_, _, c0, c1, c2⟩, ⟨_, _, v0, v1, v2⟩, ⟨_, _, x0, x1, x2⟩⟩ := hSw; go_simp; try exact rfl
          try simp only [List.setIfInBounds_toArray, List.set_cons_zero, List.set_cons_succ]
          refine takeYes (i := 3) (d := 33) (v := ?_) rfl rfl (by kernel_rfl) (by kernel_rfl) (by kernel_rfl) (fun _ _ _ h => h) (by rfl) (by assumption) ?_ ?_
          rotate_left
          · intro w' hSw; obtain ⟨⟨_, _, a0, a1, a2⟩, ⟨_, _, c0, c1, c2⟩, ⟨_, _, v0, v1, v2⟩, ⟨_, _, x0, x1, x2⟩⟩ := hSw; go_simp; try exact rfl
          try simp only [List.setIfInBounds_toArray, List.set_cons_zero, List.set_cons_succ]
          refine wpAnyH_ready (rs := [4]) (by kernel_rfl) (by simp) ?_
          refine AllReadyH.cons rfl (fun KK hKK => ?_) AllReadyH.nil
          go_simp
          go_at_call 8
          refine Calls.mono (HS.out _) ?_
          rintro x w4 ⟨rfl, hb4⟩
          have hz4 := hb4.size
          (try simp at hz4)
          try go_wp2_with fail
          refine hKK.out _ _ ?_ (fun hHeld4 => ?_)
          · exact ⟨hA.below (bel), hC.below (bel), hV.below (bel), hX.below (bel)⟩
          clear hKK
          refine takeYes (i := 5) (d := 35) (v := ?_) rfl rfl (by kernel_rfl) (by kernel_rfl) (by kernel_rfl) (fun _ _ _ h => h) (by rfl) (by assumption) ?_ ?_
          rotate_left
          · intro w' hSw; obtain ⟨⟨_, _, a0, a1, a2⟩, ⟨_, _, c0, c1, c2⟩, ⟨_, _, v0, v1, v2⟩, ⟨_, _, x0, x1, x2⟩⟩ := hSw; go_simp; try exact rfl
          try simp only [List.setIfInBounds_toArray, List.set_cons_zero, List.set_cons_succ]
          refine takeYes (i := 6) (d := 36) (v := ?_) rfl rfl (by kernel_rfl) (by kernel_rfl) (by kernel_rfl) (fun _ _ _ h => h) (by rfl) (by assumption) ?_ ?_
          rotate_left
          · intro w' hSw; obtain ⟨⟨_, _, a0, a1, a2⟩, ⟨_, _, c0, c1, c2⟩, ⟨_, _, v0, v1, v2⟩, ⟨_, _, x0, x1, x2⟩⟩ := hSw; go_simp; try exact rfl
          try simp only [List.setIfInBounds_toArray, List.set_cons_zero, List.set_cons_succ]
          refine takeYes (i := 7) (d := 37) (v := ?_) rfl rfl (by kernel_rfl) (by kernel_rfl) (by kernel_rfl) (fun _ _ _ h => h) (by rfl) (by assumption) ?_ ?_
          rotate_left
          · intro w' hSw; obtain ⟨⟨_, _, a0, a1, a2⟩, ⟨_, _, c0, c1, c2⟩, ⟨_, _, v0, v1, v2⟩, ⟨_, _, x0, x1, x2⟩⟩ := hSw; go_simp; try exact rfl
          try simp only [List.setIfInBounds_toArray, List.set_cons_zero, List.set_cons_succ]
          refine takeYes (i := 9) (d := 39) (v := ?_) rfl rfl (by kernel_rfl) (by kernel_rfl) (by kernel_rfl) (fun _ _ _ h => h) (by rfl) (by assumption) ?_ ?_
          rotate_left
          · intro w' hSw; obtain ⟨⟨_, _, a0, a1, a2⟩, ⟨_, _, c0, c1, c2⟩, ⟨_, _, v0, v1, v2⟩, ⟨_, _, x0, x1, x2⟩⟩ := hSw; go_simp; try exact rfl
          try simp only [List.setIfInBounds_toArray, List.set_cons_zero, List.set_cons_succ]
          refine wpAnyH_ready (rs := [8]) (by kernel_rfl) (by simp) ?_
          refine AllReadyH.cons rfl (fun KK hKK => ?_) AllReadyH.nil
          go_simp
          go_at_call 9
          refine Calls.mono (implNot_any xk xn xs _) ?_
          rintro x w5 ⟨rfl, hb5⟩
          have hz5 := hb5.size
          (try simp at hz5)
          try go_wp2_with fail
          refine hKK.out _ _ ?_ (fun hHeld8 => ?_)
          · exact ⟨hA.below (bel), hC.below (bel), hV.below (bel), hX.below (bel)⟩
          clear hKK
          refine wpAnyH_ready (rs := [10]) (by kernel_rfl) (by simp) ?_
          refine AllReadyH.cons rfl (fun KK hKK => ?_) AllReadyH.nil
          go_simp
          go_at_call 10
          refine Calls.mono (specNot_any xk xn xs _) ?_
          rintro x w6 ⟨rfl, hb6⟩
          have hz6 := hb6.size
          (try simp at hz6)
          try go_wp2_with fail
          refine hKK.out _ _ ?_ (fun hHeld10 => ?_)
          · exact ⟨hA.below (bel), hC.below (bel), hV.below (bel), hX.below (bel)⟩
          clear hKK
          refine takeYes (i := 11) (d := 41) (v := ?_) rfl rfl (by kernel_rfl) (by kernel_rfl) (by kernel_rfl) (fun _ _ _ h => h) (by rfl) (by assumption) ?_ ?_
          rotate_left
          · intro w' hSw; obtain ⟨⟨_, _, a0, a1, a2⟩, ⟨_, _, c0, c1, c2⟩, ⟨_, _, v0, v1, v2⟩, ⟨_, _, x0, x1, x2⟩⟩ := hSw; go_simp; try exact rfl
          try simp only [List.setIfInBounds_toArray, List.set_cons_zero, List.set_cons_succ]
          refine takeYes (i := 12) (d := 42) (v := ?_) rfl rfl (by kernel_rfl) (by kernel_rfl) (by kernel_rfl) (fun _ _ _ h => h) (by rfl) (by assumption) ?_ ?_
          rotate_left
          · intro w' hSw; obtain ⟨⟨_, _, a0, a1, a2⟩, ⟨_, _, c0, c1, c2⟩, ⟨_, _, v0, v1, v2⟩, ⟨_, _, x0, x1, x2⟩⟩ := hSw; go_simp; try exact rfl
          try simp only [List.setIfInBounds_toArray, List.set_cons_zero, List.set_cons_succ]
          refine takeYes (i := 13) (d := 43) (v := ?_) rfl rfl (by kernel_rfl) (by kernel_rfl) (by kernel_rfl) (fun _ _ _ h => h) (by rfl) (by assumption) ?_ ?_
          rotate_left
          · intro w' hSw; obtain ⟨⟨_, _, a0, a1, a2⟩, ⟨_, _, c0, c1, c2⟩, ⟨_, _, v0, v1, v2⟩, ⟨_, _, x0, x1, x2⟩⟩ := hSw; go_simp; try exact rfl
          try simp only [List.setIfInBounds_toArray, List.set_cons_zero, List.set_cons_succ]
          refine takeYes (i := 14) (d := 44) (v := ?_) rfl rfl (by kernel_rfl) (by kernel_rfl) (by kernel_rfl) (fun _ _ _ h => h) (by rfl) (by assumption) ?_ ?_
          rotate_left
          · intro w' hSw; obtain ⟨⟨_, _, a0, a1, a2⟩, ⟨_, _, c0, c1, c2⟩, ⟨_, _, v0, v1, v2⟩, ⟨_, _, x0, x1, x2⟩⟩ := hSw; go_simp; try exact rfl
          try simp only [List.setIfInBounds_toArray, List.set_cons_zero, List.set_cons_succ]
          refine takeYes (i := 16) (d := 46) (v := ?_) rfl rfl (by kernel_rfl) (by kernel_rfl) (by kernel_rfl) (fun _ _ _ h => h) (by rfl) (by assumption) ?_ ?_
          rotate_left
          · intro w' hSw; obtain ⟨⟨_, _, a0, a1, a2⟩, ⟨_, _, c0, c1, c2⟩, ⟨_, _, v0, v1, v2⟩, ⟨_, _, x0, x1, x2⟩⟩ := hSw; go_simp; try exact rfl
          try simp only [List.setIfInBounds_toArray, List.set_cons_zero, List.set_cons_succ]
          refine wpAnyH_ready (rs := [15]) (by kernel_rfl) (by simp) ?_
          refine AllReadyH.cons rfl (fun KK hKK => ?_) AllReadyH.nil
          go_simp
          go_at_call 11
          refine Calls.mono (implNul_any xk xn xs _) ?_
          rintro x w7 ⟨rfl, hb7⟩
          have hz7 := hb7.size
          (try simp at hz7)
          try go_wp2_with fail
          refine hKK.out _ _ ?_ (fun hHeld15 => ?_)
          · exact ⟨hA.below (bel), hC.below (bel), hV.below (bel), hX.below (bel)⟩
          clear hKK
          refine wpAnyH_ready (rs := [17]) (by kernel_rfl) (by simp) ?_
          refine AllReadyH.cons rfl (fun KK hKK => ?_) AllReadyH.nil
          go_simp
          go_at_call 12
          refine Calls.mono (specNul_any xk xn xs _) ?_
          rintro x w8 ⟨rfl, hb8⟩
          have hz8 := hb8.size
          (try simp at hz8)
          try go_wp2_with fail
          refine hKK.out _ _ ?_ (fun hHeld17 => ?_)
          · exact ⟨hA.below (bel), hC.below (bel), hV.below (bel), hX.below (bel)⟩
          clear hKK
          refine takeYes (i := 18) (d := 48) (v := ?_) rfl rfl (by kernel_rfl) (by kernel_rfl) (by kernel_rfl) (fun _ _ _ h => h) (by rfl) (by assumption) ?_ ?_
          rotate_left
          · intro w' hSw; obtain ⟨⟨_, _, a0, a1, a2⟩, ⟨_, _, c0, c1, c2⟩, ⟨_, _, v0, v1, v2⟩, ⟨_, _, x0, x1, x2⟩⟩ := hSw; go_simp; try exact rfl
          try simp only [List.setIfInBounds_toArray, List.set_cons_zero, List.set_cons_succ]
          refine takeYes (i := 19) (d := 49) (v := ?_) rfl rfl (by kernel_rfl) (by kernel_rfl) (by kernel_rfl) (fun _ _ _ h => h) (by rfl) (by assumption) ?_ ?_
          rotate_left
          · intro w' hSw; obtain ⟨⟨_, _, a0, a1, a2⟩, ⟨_, _, c0, c1, c2⟩, ⟨_, _, v0, v1, v2⟩, ⟨_, _, x0, x1, x2⟩⟩ := hSw; go_simp; try exact rfl
          try simp only [List.setIfInBounds_toArray, List.set_cons_zero, List.set_cons_succ]
          refine takeYes (i := 20) (d := 50) (v := ?_) rfl rfl (by kernel_rfl) (by kernel_rfl) (by kernel_rfl) (fun _ _ _ h => h) (by rfl) (by assumption) ?_ ?_
          rotate_left
          · intro w' hSw; obtain ⟨⟨_, _, a0, a1, a2⟩, ⟨_, _, c0, c1, c2⟩, ⟨_, _, v0, v1, v2⟩, ⟨_, _, x0, x1, x2⟩⟩ := hSw; go_simp; try exact rfl
          try simp only [List.setIfInBounds_toArray, List.set_cons_zero, List.set_cons_succ]
          refine takeYes (i := 21) (d := 51) (v := ?_) rfl rfl (by kernel_rfl) (by kernel_rfl) (by kernel_rfl) (fun _ _ _ h => h) (by rfl) (by assumption) ?_ ?_
          rotate_left
          · intro w' hSw; obtain ⟨⟨_, _, a0, a1, a2⟩, ⟨_, _, c0, c1, c2⟩, ⟨_, _, v0, v1, v2⟩, ⟨_, _, x0, x1, x2⟩⟩ := hSw; go_simp; try exact rfl
          try simp only [List.setIfInBounds_toArray, List.set_cons_zero, List.set_cons_succ]
          refine takeYes (i := 23) (d := 53) (v := ?_) rfl rfl (by kernel_rfl) (by kernel_rfl) (by kernel_rfl) (fun _ _ _ h => h) (by rfl) (by assumption) ?_ ?_
          rotate_left
          · intro w' hSw; obtain ⟨⟨_, _, a0, a1, a2⟩, ⟨_, _, c0, c1, c2⟩, ⟨_, _, v0, v1, v2⟩, ⟨_, _, x0, x1, x2⟩⟩ := hSw; go_simp; try exact rfl
          try simp only [List.setIfInBounds_toArray, List.set_cons_zero, List.set_cons_succ]
          refine wpAnyH_ready (rs := [22]) (by kernel_rfl) (by simp) ?_
          refine AllReadyH.cons rfl (fun KK hKK => ?_) AllReadyH.nil
          go_simp
          go_at_call 13
          refine Calls.mono (implIsTrue_any xk xn xs _) ?_
          rintro x w9 ⟨rfl, hb9⟩
          have hz9 := hb9.size
          (try simp at hz9)
          try go_wp2_with fail
          refine hKK.out _ _ ?_ (fun hHeld22 => ?_)
          · exact ⟨hA.below (bel), hC.below (bel), hV.below (bel), hX.below (bel)⟩
          clear hKK
          refine wpAnyH_ready (rs := [24]) (by kernel_rfl) (by simp) ?_
          refine AllReadyH.cons rfl (fun KK hKK => ?_) AllReadyH.nil
          go_simp
          go_at_call 14
          refine Calls.mono (specIsTrue_any xk xn xs _) ?_
          rintro x w10 ⟨rfl, hb10⟩
          have hz10 := hb10.size
          (try simp at hz10)
          try go_wp2_with fail
          refine hKK.out _ _ ?_ (fun hHeld24 => ?_)
          · exact ⟨hA.below (bel), hC.below (bel), hV.below (bel), hX.below (bel)⟩
          clear hKK
          refine takeYes (i := 25) (d := 55) (v := ?_) rfl rfl (by kernel_rfl) (by kernel_rfl) (by kernel_rfl) (fun _ _ _ h => h) (by rfl) (by assumption) ?_ ?_
          rotate_left
          · intro w' hSw; obtain ⟨⟨_, _, a0, a1, a2⟩, ⟨_, _, c0, c1, c2⟩, ⟨_, _, v0, v1, v2⟩, ⟨_, _, x0, x1, x2⟩⟩ := hSw; go_simp; try exact rfl
          try simp only [List.setIfInBounds_toArray, List.set_cons_zero, List.set_cons_succ]
          refine takeYes (i := 26) (d := 56) (v := ?_) rfl rfl (by kernel_rfl) (by kernel_rfl) (by kernel_rfl) (fun _ _ _ h => h) (by rfl) (by assumption) ?_ ?_
          rotate_left
          · intro w' hSw; obtain ⟨⟨_, _, a0, a1, a2⟩, ⟨_, _, c0, c1, c2⟩, ⟨_, _, v0, v1, v2⟩, ⟨_, _, x0, x1, x2⟩⟩ := hSw; go_simp; try exact rfl
          try simp only [List.setIfInBounds_toArray, List.set_cons_zero, List.set_cons_succ]
          refine takeYes (i := 27) (d := 57) (v := ?_) rfl rfl (by kernel_rfl) (by kernel_rfl) (by kernel_rfl) (fun _ _ _ h => h) (by rfl) (by assumption) ?_ ?_
          rotate_left
          · intro w' hSw; obtain ⟨⟨_, _, a0, a1, a2⟩, ⟨_, _, c0, c1, c2⟩, ⟨_, _, v0, v1, v2⟩, ⟨_, _, x0, x1, x2⟩⟩ := hSw; go_simp; try exact rfl
          try simp only [List.setIfInBounds_toArray, List.set_cons_zero, List.set_cons_succ]
          refine takeYes (i := 28) (d := 58) (v := ?_) rfl rfl (by kernel_rfl) (by kernel_rfl) (by kernel_rfl) (fun _ _ _ h => h) (by rfl) (by assumption) ?_ ?_
          rotate_left
          · intro w' hSw; obtain ⟨⟨_, _, a0, a1, a2⟩, ⟨_, _, c0, c1, c2⟩, ⟨_, _, v0, v1, v2⟩, ⟨_, _, x0, x1, x2⟩⟩ := hSw; go_simp; try exact rfl
          try simp only [List.setIfInBounds_toArray, List.set_cons_zero, List.set_cons_succ]
          refine wpAnyH_ready (rs := [29]) (by kernel_rfl) (by simp) ?_
          refine AllReadyH.cons rfl (fun KK hKK => ?_) AllReadyH.nil
          go_simp
          go_at_call 15
          refine Calls.mono (specValueOk_any k n s _ hs2) ?_
          rintro x w11 ⟨rfl, hb11⟩
          have hz11 := hb11.size
          (try simp at hz11)
          rw [hoa.out]
          try go_wp2_with fail
          refine hKK.out _ _ ?_ (fun hHeld29 => ?_)
          · exact ⟨hA.below (bel), hC.below (bel), hV.below (bel), hX.below (bel)⟩
          clear hKK
          refine takeYes (i := 30) (d := 60) (v := ?_) rfl rfl (by kernel_rfl) (by kernel_rfl) (by kernel_rfl) (fun _ _ _ h => h) (by rfl) (by assumption) ?_ ?_
          rotate_left
          · intro w' hSw; obtain ⟨⟨_, _, a0, a1, a2⟩, ⟨_, _, c0, c1, c2⟩, ⟨_, _, v0, v1, v2⟩, ⟨_, _, x0, x1, x2⟩⟩ := hSw; go_simp; try exact rfl
          try simp only [List.setIfInBounds_toArray, List.set_cons_zero, List.set_cons_succ]
          refine takeNo (i := 31) (d := 61) rfl rfl (by kernel_rfl) (by kernel_rfl) (by kernel_rfl) (fun _ _ _ h => h) (by rfl) (by assumption) ?_
          try simp only [List.setIfInBounds_toArray, List.set_cons_zero, List.set_cons_succ]
          refine wpAnyH_ready (rs := [32]) (by kernel_rfl) (by simp) ?_
          refine AllReadyH.cons rfl (fun KK hKK => ?_) AllReadyH.nil
          go_simp
          refine hKK.out _ _ ?_ (fun hHeld32 => ?_)
          · exact ⟨hA.below (bel), hC.below (bel), hV.below (bel), hX.below (bel)⟩
          clear hKK
          refine takeYes (i := 33) (d := 63) (v := ?_) rfl rfl (by kernel_rfl) (by kernel_rfl) (by kernel_rfl) (fun _ _ _ h => h) (by rfl) (by assumption) ?_ ?_
          rotate_left
          · intro w' hSw; obtain ⟨⟨_, _, a0, a1, a2⟩, ⟨_, _, c0, c1, c2⟩, ⟨_, _, v0, v1, v2⟩, ⟨_, _, x0, x1, x2⟩⟩ := hSw; go_simp; try exact rfl
          try simp only [List.setIfInBounds_toArray, List.set_cons_zero, List.set_cons_succ]
          refine takeYes (i := 34) (d := 64) (v := ?_) rfl rfl (by kernel_rfl) (by kernel_rfl) (by kernel_rfl) (fun _ _ _ h => h) (by rfl) (by assumption) ?_ ?_
          rotate_left
          · intro w' hSw; obtain ⟨⟨_, _, a0, a1, a2⟩, ⟨_, _, c0, c1, c2⟩, ⟨_, _, v0, v1, v2⟩, ⟨_, _, x0, x1, x2⟩⟩ := hSw; go_simp; try exact rfl
          try simp only [List.setIfInBounds_toArray, List.set_cons_zero, List.set_cons_succ]
          refine takeNo (i := 35) (d := 65) rfl rfl (by kernel_rfl) (by kernel_rfl) (by kernel_rfl) (fun _ _ _ h => h) (by rfl) (by assumption) ?_
          try simp only [List.setIfInBounds_toArray, List.set_cons_zero, List.set_cons_succ]
          refine wpAnyH_ready (rs := [36]) (by kernel_rfl) (by simp) ?_
          refine AllReadyH.cons rfl (fun KK hKK => ?_) AllReadyH.nil
          go_simp
          refine hKK.out _ _ ?_ (fun hHeld36 => ?_)
          · exact ⟨hA.below (bel), hC.below (bel), hV.below (bel), hX.below (bel)⟩
          clear hKK
          refine takeNo (i := 37) (d := 67) rfl rfl (by kernel_rfl) (by kernel_rfl) (by kernel_rfl) (fun _ _ _ h => h) (by rfl) (by assumption) ?_
          try simp only [List.setIfInBounds_toArray, List.set_cons_zero, List.set_cons_succ]
          refine takeYes (i := 38) (d := 68) (v := ?_) rfl rfl (by kernel_rfl) (by kernel_rfl) (by kernel_rfl) (fun _ _ _ h => h) (by rfl) (by assumption) ?_ ?_
          rotate_left
          · intro w' hSw; obtain ⟨⟨_, _, a0, a1, a2⟩, ⟨_, _, c0, c1, c2⟩, ⟨_, _, v0, v1, v2⟩, ⟨_, _, x0, x1, x2⟩⟩ := hSw; go_simp; try exact rfl
          try simp only [List.setIfInBounds_toArray, List.set_cons_zero, List.set_cons_succ]
          refine takeYes (i := 39) (d := 69) (v := ?_) rfl rfl (by kernel_rfl) (by kernel_rfl) (by kernel_rfl) (fun _ _ _ h => h) (by rfl) (by assumption) ?_ ?_
          rotate_left
          · intro w' hSw; obtain ⟨⟨_, _, a0, a1, a2⟩, ⟨_, _, c0, c1, c2⟩, ⟨_, _, v0, v1, v2⟩, ⟨_, _, x0, x1, x2⟩⟩ := hSw; go_simp; try exact rfl
          try simp only [List.setIfInBounds_toArray, List.set_cons_zero, List.set_cons_succ]
          refine wpAnyH_done (by kernel_rfl) ?_ _
          go_wp2_with fail
          (try go_meet)
          (try (case rel => exact ⟨rfl, bel⟩))
      cases eb : okB k' n' s'
      · as_aux_lemma =>
          have hoa : Hid (okB k n s = true) := ea
          have hob : Hid (okB k' n' s' = false) := eb
          clear ea eb
          refine wp_region_held_drew (S := (fun w' => VarV w' bA k n s ∧ VarV w' bC k' n' s' ∧ VarV w' bV K N ⟨#[]⟩ ∧ VarV w' bX xk xn xs)) (by kernel_rfl) ?_ (fun hHeld => ?_)
          · exact ⟨hA.below (bel), hC.below (bel), hV.below (bel), hX.below (bel)⟩
          refine takeYes (i := 0) (d := 30) (v := ?_) rfl rfl (by kernel_rfl) (by kernel_rfl) (by kernel_rfl) (fun _ _ _ h => h) (by rfl) (by assumption) ?_ ?_
          rotate_left
          · intro w' hSw; obtain ⟨⟨_, _, a0, a1, a2⟩, ⟨_, _, c0, c1, c2⟩, ⟨_, _, v0, v1, v2⟩, ⟨_, _, x0, x1, x2⟩⟩ := hSw; go_simp; try exact rfl
          try simp only [List.setIfInBounds_toArray, List.set_cons_zero, List.set_cons_succ]
          refine takeYes (i := 1) (d := 31) (v := ?_) rfl rfl (by kernel_rfl) (by kernel_rfl) (by kernel_rfl) (fun _ _ _ h => h) (by rfl) (by assumption) ?_ ?_
          rotate_left
          · intro w' hSw; obtain ⟨⟨_, _, a0, a1, a2⟩, ⟨_, _, c0, c1, c2⟩, ⟨_, _, v0, v1, v2⟩, ⟨_, _, x0, x1, x2⟩⟩ := hSw; go_simp; try exact rfl
          try simp only [List.setIfInBounds_toArray, List.set_cons_zero, List.set_cons_succ]
          refine takeYes (i := 2) (d := 32) (v := ?_) rfl rfl (by kernel_rfl) (by kernel_rfl) (by kernel_rfl) (fun _ _ _ h => h) (by rfl) (by assumption) ?_ ?_
          rotate_left
          · intro w' hSw; obtain ⟨⟨_, _, a0, a1, a2⟩, ⟨_, _, c0, c1, c2⟩, ⟨_, _, v0, v1, v2⟩, ⟨_, _, x0, x1, x2⟩⟩ := hSw; go_simp; try exact rfl
          try simp only [List.setIfInBounds_toArray, List.set_cons_zero, List.set_cons_succ]
          refine takeYes (i := 3) (d := 33) (v := ?_) rfl rfl (by kernel_rfl) (by kernel_rfl) (by kernel_rfl) (fun _ _ _ h => h) (by rfl) (by assumption) ?_ ?_
          rotate_left
          · intro w' hSw; obtain ⟨⟨_, _, a0, a1, a2⟩, ⟨_, _, c0, c1, c2⟩, ⟨_, _, v0, v1, v2⟩, ⟨_, _, x0, x1, x2⟩⟩ := hSw; go_simp; try exact rfl
          try simp only [List.setIfInBounds_toArray, List.set_cons_zero, List.set_cons_succ]
          refine wpAnyH_ready (rs := [4]) (by kernel_rfl) (by simp) ?_
          refine AllReadyH.cons rfl (fun KK hKK => ?_) AllReadyH.nil
          go_simp
          go_at_call 8
          refine Calls.mono (HS.out _) ?_
          rintro x w4 ⟨rfl, hb4⟩
          have hz4 := hb4.size
          (try simp at hz4)
          try go_wp2_with fail
          refine hKK.out _ _ ?_ (fun hHeld4 => ?_)
          · exact ⟨hA.below (bel), hC.below (bel), hV.below (bel), hX.below (bel)⟩
          clear hKK
          refine takeYes (i := 5) (d := 35) (v := ?_) rfl rfl (by kernel_rfl) (by kernel_rfl) (by kernel_rfl) (fun _ _ _ h => h) (by rfl) (by assumption) ?_ ?_
          rotate_left
          · intro w' hSw; obtain ⟨⟨_, _, a0, a1, a2⟩, ⟨_, _, c0, c1, c2⟩, ⟨_, _, v0, v1, v2⟩, ⟨_, _, x0, x1, x2⟩⟩ := hSw; go_simp; try exact rfl
          try simp only [List.setIfInBounds_toArray, List.set_cons_zero, List.set_cons_succ]
          refine takeYes (i := 6) (d := 36) (v := ?_) rfl rfl (by kernel_rfl) (by kernel_rfl) (by kernel_rfl) (fun _ _ _ h => h) (by rfl) (by assumption) ?_ ?_
          rotate_left
          · intro w' hSw; obtain ⟨⟨_, _, a0, a1, a2⟩, ⟨_, _, c0, c1, c2⟩, ⟨_, _, v0, v1, v2⟩, ⟨_, _, x0, x1, x2⟩⟩ := hSw; go_simp; try exact rfl
          try simp only [List.setIfInBounds_toArray, List.set_cons_zero, List.set_cons_succ]
          refine takeYes (i := 7) (d := 37) (v := ?_) rfl rfl (by kernel_rfl) (by kernel_rfl) (by kernel_rfl) (fun _ _ _ h => h) (by rfl) (by assumption) ?_ ?_
          rotate_left
          · intro w' hSw; obtain ⟨⟨_, _, a0, a1, a2⟩, ⟨_, _, c0, c1, c2⟩, ⟨_, _, v0, v1, v2⟩, ⟨_, _, x0, x1, x2⟩⟩ := hSw; go_simp; try exact rfl
          try simp only [List.setIfInBounds_toArray, List.set_cons_zero, List.set_cons_succ]
          refine takeYes (i := 9) (d := 39) (v := ?_) rfl rfl (by kernel_rfl) (by kernel_rfl) (by kernel_rfl) (fun _ _ _ h => h) (by rfl) (by assumption) ?_ ?_
          rotate_left
          · intro w' hSw; obtain ⟨⟨_, _, a0, a1, a2⟩, ⟨_, _, c0, c1, c2⟩, ⟨_, _, v0, v1, v2⟩, ⟨_, _, x0, x1, x2⟩⟩ := hSw; go_simp; try exact rfl
          try simp only [List.setIfInBounds_toArray, List.set_cons_zero, List.set_cons_succ]
          refine wpAnyH_ready (rs := [8]) (by kernel_rfl) (by simp) ?_
          refine AllReadyH.cons rfl (fun KK hKK => ?_) AllReadyH.nil
          go_simp
          go_at_call 9
          refine Calls.mono (implNot_any xk xn xs _) ?_
          rintro x w5 ⟨rfl, hb5⟩
          have hz5 := hb5.size
          (try simp at hz5)
          try go_wp2_with fail
          refine hKK.out _ _ ?_ (fun hHeld8 => ?_)
          · exact ⟨hA.below (bel), hC.below (bel), hV.below (bel), hX.below (bel)⟩
          clear hKK
          refine wpAnyH_ready (rs := [10]) (by kernel_rfl) (by simp) ?_
          refine AllReadyH.cons rfl (fun KK hKK => ?_) AllReadyH.nil
          go_simp
          go_at_call 10
          refine Calls.mono (specNot_any xk xn xs _) ?_
          rintro x w6 ⟨rfl, hb6⟩
          have hz6 := hb6.size
          (try simp at hz6)
          try go_wp2_with fail
          refine hKK.out _ _ ?_ (fun hHeld10 => ?_)
          · exact ⟨hA.below (bel), hC.below (bel), hV.below (bel), hX.below (bel)⟩
          clear hKK
          refine takeYes (i := 11) (d := 41) (v := ?_) rfl rfl (by kernel_rfl) (by kernel_rfl) (by kernel_rfl) (fun _ _ _ h => h) (by rfl) (by assumption) ?_ ?_
          rotate_left
          · intro w' hSw; obtain ⟨⟨_, _, a0, a1, a2⟩, ⟨_, _, c0, c1, c2⟩, ⟨_, _, v0, v1, v2⟩, ⟨_, _, x0, x1, x2⟩⟩ := hSw; go_simp; try exact rfl
          try simp only [List.setIfInBounds_toArray, List.set_cons_zero, List.set_cons_succ]
          refine takeYes (i := 12) (d := 42) (v := ?_) rfl rfl (by kernel_rfl) (by kernel_rfl) (by kernel_rfl) (fun _ _ _ h => h) (by rfl) (by assumption) ?_ ?_
          rotate_left
          · intro w' hSw; obtain ⟨⟨_, _, a0, a1, a2⟩, ⟨_, _, c0, c1, c2⟩, ⟨_, _, v0, v1, v2⟩, ⟨_, _, x0, x1, x2⟩⟩ := hSw; go_simp; try exact rfl
          try simp only [List.setIfInBounds_toArray, List.set_cons_zero, List.set_cons_succ]
          refine takeYes (i := 13) (d := 43) (v := ?_) rfl rfl (by kernel_rfl) (by kernel_rfl) (by kernel_rfl) (fun _ _ _ h => h) (by rfl) (by assumption) ?_ ?_
          rotate_left
          · intro w' hSw; obtain ⟨⟨_, _, a0, a1, a2⟩, ⟨_, _, c0, c1, c2⟩, ⟨_, _, v0, v1, v2⟩, ⟨_, _, x0, x1, x2⟩⟩ := hSw; go_simp; try exact rfl
          try simp only [List.setIfInBounds_toArray, List.set_cons_zero, List.set_cons_succ]
          refine takeYes (i := 14) (d := 44) (v := ?_) rfl rfl (by kernel_rfl) (by kernel_rfl) (by kernel_rfl) (fun _ _ _ h => h) (by rfl) (by assumption) ?_ ?_
          rotate_left
          · intro w' hSw; obtain ⟨⟨_, _, a0, a1, a2⟩, ⟨_, _, c0, c1, c2⟩, ⟨_, _, v0, v1, v2⟩, ⟨_, _, x0, x1, x2⟩⟩ := hSw; go_simp; try exact rfl
          try simp only [List.setIfInBounds_toArray, List.set_cons_zero, List.set_cons_succ]
          refine takeYes (i := 16) (d := 46) (v := ?_) rfl rfl (by kernel_rfl) (by kernel_rfl) (by kernel_rfl) (fun _ _ _ h => h) (by rfl) (by assumption) ?_ ?_
          rotate_left
          · intro w' hSw; obtain ⟨⟨_, _, a0, a1, a2⟩, ⟨_, _, c0, c1, c2⟩, ⟨_, _, v0, v1, v2⟩, ⟨_, _, x0, x1, x2⟩⟩ := hSw; go_simp; try exact rfl
          try simp only [List.setIfInBounds_toArray, List.set_cons_zero, List.set_cons_succ]
          refine wpAnyH_ready (rs := [15]) (by kernel_rfl) (by simp) ?_
          refine AllReadyH.cons rfl (fun KK hKK => ?_) AllReadyH.nil
          go_simp
          go_at_call 11
          refine Calls.mono (implNul_any xk xn xs _) ?_
          rintro x w7 ⟨rfl, hb7⟩
          have hz7 := hb7.size
          (try simp at hz7)
          try go_wp2_with fail
          refine hKK.out _ _ ?_ (fun hHeld15 => ?_)
          · exact ⟨hA.below (bel), hC.below (bel), hV.below (bel), hX.below (bel)⟩
          clear hKK
          refine wpAnyH_ready (rs := [17]) (by kernel_rfl) (by simp) ?_
          refine AllReadyH.cons rfl (fun KK hKK => ?_) AllReadyH.nil
          go_simp
          go_at_call 12
          refine Calls.mono (specNul_any xk xn xs _) ?_
          rintro x w8 ⟨rfl, hb8⟩
          have hz8 := hb8.size
          (try simp at hz8)
          try go_wp2_with fail
          refine hKK.out _ _ ?_ (fun hHeld17 => ?_)
          · exact ⟨hA.below (bel), hC.below (bel), hV.below (bel), hX.below (bel)⟩
          clear hKK
          refine takeYes (i := 18) (d := 48) (v := ?_) rfl rfl (by kernel_rfl) (by kernel_rfl) (by kernel_rfl) (fun _ _ _ h => h) (by rfl) (by assumption) ?_ ?_
          rotate_left
          · intro w' hSw; obtain ⟨⟨_, _, a0, a1, a2⟩, ⟨_, _, c0, c1, c2⟩, ⟨_, _, v0, v1, v2⟩, ⟨_, _, x0, x1, x2⟩⟩ := hSw; go_simp; try exact rfl
          try simp only [List.setIfInBounds_toArray, List.set_cons_zero, List.set_cons_succ]
          refine takeYes (i := 19) (d := 49) (v := ?_) rfl rfl (by kernel_rfl) (by kernel_rfl) (by kernel_rfl) (fun _ _ _ h => h) (by rfl) (by assumption) ?_ ?_
          rotate_left
          · intro w' hSw; obtain ⟨⟨_, _, a0, a1, a2⟩, ⟨_, _, c0, c1, c2⟩, ⟨_, _, v0, v1, v2⟩, ⟨_, _, x0, x1, x2⟩⟩ := hSw; go_simp; try exact rfl
          try simp only [List.setIfInBounds_toArray, List.set_cons_zero, List.set_cons_succ]
          refine takeYes (i := 20) (d := 50) (v := ?_) rfl rfl (by kernel_rfl) (by kernel_rfl) (by kernel_rfl) (fun _ _ _ h => h) (by rfl) (by assumption) ?_ ?_
          rotate_left
          · intro w' hSw; obtain ⟨⟨_, _, a0, a1, a2⟩, ⟨_, _, c0, c1, c2⟩, ⟨_, _, v0, v1, v2⟩, ⟨_, _, x0, x1, x2⟩⟩ := hSw; go_simp; try exact rfl
          try simp only [List.setIfInBounds_toArray, List.set_cons_zero, List.set_cons_succ]
          refine takeYes (i := 21) (d := 51) (v := ?_) rfl rfl (by kernel_rfl) (by kernel_rfl) (by kernel_rfl) (fun _ _ _ h => h) (by rfl) (by assumption) ?_ ?_
          rotate_left
          · intro w' hSw; obtain ⟨⟨_, _, a0, a1, a2⟩, ⟨_, _, c0, c1, c2⟩, ⟨_, _, v0, v1, v2⟩, ⟨_, _, x0, x1, x2⟩⟩ := hSw; go_simp; try exact rfl
          try simp only [List.setIfInBounds_toArray, List.set_cons_zero, List.set_cons_succ]
          refine takeYes (i := 23) (d := 53) (v := ?_) rfl rfl (by kernel_rfl) (by kernel_rfl) (by kernel_rfl) (fun _ _ _ h => h) (by rfl) (by assumption) ?_ ?_
          rotate_left
          · intro w' hSw; obtain ⟨⟨_, _, a0, a1, a2⟩, ⟨_, _, c0, c1, c2⟩, ⟨_, _, v0, v1, v2⟩, ⟨_, _, x0, x1, x2⟩⟩ := hSw; go_simp; try exact rfl
          try simp only [List.setIfInBounds_toArray, List.set_cons_zero, List.set_cons_succ]
          refine wpAnyH_ready (rs := [22]) (by kernel_rfl) (by simp) ?_
          refine AllReadyH.cons rfl (fun KK hKK => ?_) AllReadyH.nil
          go_simp
          go_at_call 13
          refine Calls.mono (implIsTrue_any xk xn xs _) ?_
          rintro x w9 ⟨rfl, hb9⟩
          have hz9 := hb9.size
          (try simp at hz9)
          try go_wp2_with fail
          refine hKK.out _ _ ?_ (fun hHeld22 => ?_)
          · exact ⟨hA.below (bel), hC.below (bel), hV.below (bel), hX.below (bel)⟩
          clear hKK
          refine wpAnyH_ready (rs := [24]) (by kernel_rfl) (by simp) ?_
          refine AllReadyH.cons rfl (fun KK hKK => ?_) AllReadyH.nil
          go_simp
          go_at_call 14
          refine Calls.mono (specIsTrue_any xk xn xs _) ?_
          rintro x w10 ⟨rfl, hb10⟩
          have hz10 := hb10.size
          (try simp at hz10)
          try go_wp2_with fail
          refine hKK.out _ _ ?_ (fun hHeld24 => ?_)
          · exact ⟨hA.below (bel), hC.below (bel), hV.below (bel), hX.below (bel)⟩
          clear hKK
          refine takeYes (i := 25) (d := 55) (v := ?_) rfl rfl (by kernel_rfl) (by kernel_rfl) (by kernel_rfl) (fun _ _ _ h => h) (by rfl) (by assumption) ?_ ?_
          rotate_left
          · intro w' hSw; obtain ⟨⟨_, _, a0, a1, a2⟩, ⟨_, _, c0, c1, c2⟩, ⟨_, _, v0, v1, v2⟩, ⟨_, _, x0, x1, x2⟩⟩ := hSw; go_simp; try exact rfl
          try simp only [List.setIfInBounds_toArray, List.set_cons_zero, List.set_cons_succ]
          refine takeYes (i := 26) (d := 56) (v := ?_) rfl rfl (by kernel_rfl) (by kernel_rfl) (by kernel_rfl) (fun _ _ _ h => h) (by rfl) (by assumption) ?_ ?_
          rotate_left
          · intro w' hSw; obtain ⟨⟨_, _, a0, a1, a2⟩, ⟨_, _, c0, c1, c2⟩, ⟨_, _, v0, v1, v2⟩, ⟨_, _, x0, x1, x2⟩⟩ := hSw; go_simp; try exact rfl
          try simp only [List.setIfInBounds_toArray, List.set_cons_zero, List.set_cons_succ]
          refine takeYes (i := 27) (d := 57) (v := ?_) rfl rfl (by kernel_rfl) (by kernel_rfl) (by kernel_rfl) (fun _ _ _ h => h) (by rfl) (by assumption) ?_ ?_
          rotate_left
          · intro w' hSw; obtain ⟨⟨_, _, a0, a1, a2⟩, ⟨_, _, c0, c1, c2⟩, ⟨_, _, v0, v1, v2⟩, ⟨_, _, x0, x1, x2⟩⟩ := hSw; go_simp; try exact rfl
          try simp only [List.setIfInBounds_toArray, List.set_cons_zero, List.set_cons_succ]
          refine takeYes (i := 28) (d := 58) (v := ?_) rfl rfl (by kernel_rfl) (by kernel_rfl) (by kernel_rfl) (fun _ _ _ h => h) (by rfl) (by assumption) ?_ ?_
          rotate_left
          · intro w' hSw; obtain ⟨⟨_, _, a0, a1, a2⟩, ⟨_, _, c0, c1, c2⟩, ⟨_, _, v0, v1, v2⟩, ⟨_, _, x0, x1, x2⟩⟩ := hSw; go_simp; try exact rfl
          try simp only [List.setIfInBounds_toArray, List.set_cons_zero, List.set_cons_succ]
          refine wpAnyH_ready (rs := [29]) (by kernel_rfl) (by simp) ?_
          refine AllReadyH.cons rfl (fun KK hKK => ?_) AllReadyH.nil
          go_simp
          go_at_call 15
          refine Calls.mono (specValueOk_any k n s _ hs2) ?_
          rintro x w11 ⟨rfl, hb11⟩
          have hz11 := hb11.size
          (try simp at hz11)
          rw [hoa.out]
          try go_wp2_with fail
          refine hKK.out _ _ ?_ (fun hHeld29 => ?_)
          · exact ⟨hA.below (bel), hC.below (bel), hV.below (bel), hX.below (bel)⟩
          clear hKK
          refine takeYes (i := 30) (d := 60) (v := ?_) rfl rfl (by kernel_rfl) (by kernel_rfl) (by kernel_rfl) (fun _ _ _ h => h) (by rfl) (by assumption) ?_ ?_
          rotate_left
          · intro w' hSw; obtain ⟨⟨_, _, a0, a1, a2⟩, ⟨_, _, c0, c1, c2⟩, ⟨_, _, v0, v1, v2⟩, ⟨_, _, x0, x1, x2⟩⟩ := hSw; go_simp; try exact rfl
          try simp only [List.setIfInBounds_toArray, List.set_cons_zero, List.set_cons_succ]
          refine takeYes (i := 31) (d := 61) (v := ?_) rfl rfl (by kernel_rfl) (by kernel_rfl) (by kernel_rfl) (fun _ _ _ h => h) (by rfl) (by assumption) ?_ ?_
          rotate_left
          · intro w' hSw; obtain ⟨⟨_, _, a0, a1, a2⟩, ⟨_, _, c0, c1, c2⟩, ⟨_, _, v0, v1, v2⟩, ⟨_, _, x0, x1, x2⟩⟩ := hSw; go_simp; try exact rfl
          try simp only [List.setIfInBounds_toArray, List.set_cons_zero, List.set_cons_succ]
          refine wpAnyH_ready (rs := [32]) (by kernel_rfl) (by simp) ?_
          refine AllReadyH.cons rfl (fun KK hKK => ?_) AllReadyH.nil
          go_simp
          go_at_call 15
          refine Calls.mono (specValueOk_any k' n' s' _ hs2') ?_
          rintro x w12 ⟨rfl, hb12⟩
          have hz12 := hb12.size
          (try simp at hz12)
          rw [hob.out]
          try go_wp2_with fail
          refine hKK.out _ _ ?_ (fun hHeld32 => ?_)
          · exact ⟨hA.below (bel), hC.below (bel), hV.below (bel), hX.below (bel)⟩
          clear hKK
          refine takeYes (i := 33) (d := 63) (v := ?_) rfl rfl (by kernel_rfl) (by kernel_rfl) (by kernel_rfl) (fun _ _ _ h => h) (by rfl) (by assumption) ?_ ?_
          rotate_left
          · intro w' hSw; obtain ⟨⟨_, _, a0, a1, a2⟩, ⟨_, _, c0, c1, c2⟩, ⟨_, _, v0, v1, v2⟩, ⟨_, _, x0, x1, x2⟩⟩ := hSw; go_simp; try exact rfl
          try simp only [List.setIfInBounds_toArray, List.set_cons_zero, List.set_cons_succ]
          refine takeYes (i := 34) (d := 64) (v := ?_) rfl rfl (by kernel_rfl) (by kernel_rfl) (by kernel_rfl) (fun _ _ _ h => h) (by rfl) (by assumption) ?_ ?_
          rotate_left
          · intro w' hSw; obtain ⟨⟨_, _, a0, a1, a2⟩, ⟨_, _, c0, c1, c2⟩, ⟨_, _, v0, v1, v2⟩, ⟨_, _, x0, x1, x2⟩⟩ := hSw; go_simp; try exact rfl
          try simp only [List.setIfInBounds_toArray, List.set_cons_zero, List.set_cons_succ]
          refine takeNo (i := 35) (d := 65) rfl rfl (by kernel_rfl) (by kernel_rfl) (by kernel_rfl) (fun _ _ _ h => h) (by rfl) (by assumption) ?_
          try simp only [List.setIfInBounds_toArray, List.set_cons_zero, List.set_cons_succ]
          refine wpAnyH_ready (rs := [36]) (by kernel_rfl) (by simp) ?_
          refine AllReadyH.cons rfl (fun KK hKK => ?_) AllReadyH.nil
          go_simp
          refine hKK.out _ _ ?_ (fun hHeld36 => ?_)
          · exact ⟨hA.below (bel), hC.below (bel), hV.below (bel), hX.below (bel)⟩
          clear hKK
          refine takeNo (i := 37) (d := 67) rfl rfl (by kernel_rfl) (by kernel_rfl) (by kernel_rfl) (fun _ _ _ h => h) (by rfl) (by assumption) ?_
          try simp only [List.setIfInBounds_toArray, List.set_cons_zero, List.set_cons_succ]
          refine takeYes (i := 38) (d := 68) (v := ?_) rfl rfl (by kernel_rfl) (by kernel_rfl) (by kernel_rfl) (fun _ _ _ h => h) (by rfl) (by assumption) ?_ ?_
          rotate_left
          · intro w' hSw; obtain ⟨⟨_, _, a0, a1, a2⟩, ⟨_, _, c0, c1, c2⟩, ⟨_, _, v0, v1, v2⟩, ⟨_, _, x0, x1, x2⟩⟩ := hSw; go_simp; try exact rfl
          try simp only [List.setIfInBounds_toArray, List.set_cons_zero, List.set_cons_succ]
          refine takeYes (i := 39) (d := 69) (v := ?_) rfl rfl (by kernel_rfl) (by kernel_rfl) (by kernel_rfl) (fun _ _ _ h => h) (by rfl) (by assumption) ?_ ?_
          rotate_left
          · intro w' hSw; obtain ⟨⟨_, _, a0, a1, a2⟩, ⟨_, _, c0, c1, c2⟩, ⟨_, _, v0, v1, v2⟩, ⟨_, _, x0, x1, x2⟩⟩ := hSw; go_simp; try exact rfl
          try simp only [List.setIfInBounds_toArray, List.set_cons_zero, List.set_cons_succ]
          refine wpAnyH_done (by kernel_rfl) ?_ _
          go_wp2_with fail
          (try go_meet)
          (try (case rel => exact ⟨rfl, bel⟩))
      as_aux_lemma =>
        have hoa : Hid (okB k n s = true) := ea
        have hob : Hid (okB k' n' s' = true) := eb
        clear ea eb
        refine wp_region_held_drew (S := (fun w' => VarV w' bA k n s ∧ VarV w' bC k' n' s' ∧ VarV w' bV K N ⟨#[]⟩ ∧ VarV w' bX xk xn xs)) (by kernel_rfl) ?_ (fun hHeld => ?_)
        · exact ⟨hA.below (bel), hC.below (bel), hV.below (bel), hX.below (bel)⟩
        refine takeYes (i := 0) (d := 30) (v := ?_) rfl rfl (by kernel_rfl) (by kernel_rfl) (by kernel_rfl) (fun _ _ _ h => h) (by rfl) (by assumption) ?_ ?_
        rotate_left
        · intro w' hSw; obtain ⟨⟨_, _, a0, a1, a2⟩, ⟨_, _, c0, c1, c2⟩, ⟨_, _, v0, v1, v2⟩, ⟨_, _, x0, x1, x2⟩⟩ := hSw; go_simp; try exact rfl
        try simp only [List.setIfInBounds_toArray, List.set_cons_zero, List.set_cons_succ]
        refine takeYes (i := 1) (d := 31) (v := ?_) rfl rfl (by kernel_rfl) (by kernel_rfl) (by kernel_rfl) (fun _ _ _ h => h) (by rfl) (by assumption) ?_ ?_
        rotate_left
        · intro w' hSw; obtain ⟨⟨_, _, a0, a1, a2⟩, ⟨_, _, c0, c1, c2⟩, ⟨_, _, v0, v1, v2⟩, ⟨_, _, x0, x1, x2⟩⟩ := hSw; go_simp; try exact rfl
        try simp only [List.setIfInBounds_toArray, List.set_cons_zero, List.set_cons_succ]
        refine takeYes (i := 2) (d := 32) (v := ?_) rfl rfl (by kernel_rfl) (by kernel_rfl) (by kernel_rfl) (fun _ _ _ h => h) (by rfl) (by assumption) ?_ ?_
        rotate_left
        · intro w' hSw; obtain ⟨⟨_, _, a0, a1, a2⟩, ⟨_, _, c0, c1, c2⟩, ⟨_, _, v0, v1, v2⟩, ⟨_, _, x0, x1, x2⟩⟩ := hSw; go_simp; try exact rfl
        try simp only [List.setIfInBounds_toArray, List.set_cons_zero, List.set_cons_succ]
        refine takeYes (i := 3) (d := 33) (v := ?_) rfl rfl (by kernel_rfl) (by kernel_rfl) (by kernel_rfl) (fun _ _ _ h => h) (by rfl) (by assumption) ?_ ?_
        rotate_left
        · intro w' hSw; obtain ⟨⟨_, _, a0, a1, a2⟩, ⟨_, _, c0, c1, c2⟩, ⟨_, _, v0, v1, v2⟩, ⟨_, _, x0, x1, x2⟩⟩ := hSw; go_simp; try exact rfl
        try simp only [List.setIfInBounds_toArray, List.set_cons_zero, List.set_cons_succ]
        refine wpAnyH_ready (rs := [4]) (by kernel_rfl) (by simp) ?_
        refine AllReadyH.cons rfl (fun KK hKK => ?_) AllReadyH.nil
        go_simp
        go_at_call 8
        refine Calls.mono (HS.out _) ?_
        rintro x w4 ⟨rfl, hb4⟩
        have hz4 := hb4.size
        (try simp at hz4)
        try go_wp2_with fail
        refine hKK.out _ _ ?_ (fun hHeld4 => ?_)
        · exact ⟨hA.below (bel), hC.below (bel), hV.below (bel), hX.below (bel)⟩
        clear hKK
        refine takeYes (i := 5) (d := 35) (v := ?_) rfl rfl (by kernel_rfl) (by kernel_rfl) (by kernel_rfl) (fun _ _ _ h => h) (by rfl) (by assumption) ?_ ?_
        rotate_left
        · intro w' hSw; obtain ⟨⟨_, _, a0, a1, a2⟩, ⟨_, _, c0, c1, c2⟩, ⟨_, _, v0, v1, v2⟩, ⟨_, _, x0, x1, x2⟩⟩ := hSw; go_simp; try exact rfl
        try simp only [List.setIfInBounds_toArray, List.set_cons_zero, List.set_cons_succ]
        refine takeYes (i := 6) (d := 36) (v := ?_) rfl rfl (by kernel_rfl) (by kernel_rfl) (by kernel_rfl) (fun _ _ _ h => h) (by rfl) (by assumption) ?_ ?_
        rotate_left
        · intro w' hSw; obtain ⟨⟨_, _, a0, a1, a2⟩, ⟨_, _, c0, c1, c2⟩, ⟨_, _, v0, v1, v2⟩, ⟨_, _, x0, x1, x2⟩⟩ := hSw; go_simp; try exact rfl
        try simp only [List.setIfInBounds_toArray, List.set_cons_zero, List.set_cons_succ]
        refine takeYes (i := 7) (d := 37) (v := ?_) rfl rfl (by kernel_rfl) (by kernel_rfl) (by kernel_rfl) (fun _ _ _ h => h) (by rfl) (by assumption) ?_ ?_
        rotate_left
        · intro w' hSw; obtain ⟨⟨_, _, a0, a1, a2⟩, ⟨_, _, c0, c1, c2⟩, ⟨_, _, v0, v1, v2⟩, ⟨_, _, x0, x1, x2⟩⟩ := hSw; go_simp; try exact rfl
        try simp only [List.setIfInBounds_toArray, List.set_cons_zero, List.set_cons_succ]
        refine takeYes (i := 9) (d := 39) (v := ?_) rfl rfl (by kernel_rfl) (by kernel_rfl) (by kernel_rfl) (fun _ _ _ h => h) (by rfl) (by assumption) ?_ ?_
        rotate_left
        · intro w' hSw; obtain ⟨⟨_, _, a0, a1, a2⟩, ⟨_, _, c0, c1, c2⟩, ⟨_, _, v0, v1, v2⟩, ⟨_, _, x0, x1, x2⟩⟩ := hSw; go_simp; try exact rfl
        try simp only [List.setIfInBounds_toArray, List.set_cons_zero, List.set_cons_succ]
        refine wpAnyH_ready (rs := [8]) (by kernel_rfl) (by simp) ?_
        refine AllReadyH.cons rfl (fun KK hKK => ?_) AllReadyH.nil
        go_simp
        go_at_call 9
        refine Calls.mono (implNot_any xk xn xs _) ?_
        rintro x w5 ⟨rfl, hb5⟩
        have hz5 := hb5.size
        (try simp at hz5)
        try go_wp2_with fail
        refine hKK.out _ _ ?_ (fun hHeld8 => ?_)
        · exact ⟨hA.below (bel), hC.below (bel), hV.below (bel), hX.below (bel)⟩
        clear hKK
        refine wpAnyH_ready (rs := [10]) (by kernel_rfl) (by simp) ?_
        refine AllReadyH.cons rfl (fun KK hKK => ?_) AllReadyH.nil
        go_simp
        go_at_call 10
        refine Calls.mono (specNot_any xk xn xs _) ?_
        rintro x w6 ⟨rfl, hb6⟩
        have hz6 := hb6.size
        (try simp at hz6)
        try go_wp2_with fail
        refine hKK.out _ _ ?_ (fun hHeld10 => ?_)
        · exact ⟨hA.below (bel), hC.below (bel), hV.below (bel), hX.below (bel)⟩
        clear hKK
        refine takeYes (i := 11) (d := 41) (v := ?_) rfl rfl (by kernel_rfl) (by kernel_rfl) (by kernel_rfl) (fun _ _ _ h => h) (by rfl) (by assumption) ?_ ?_
        rotate_left
        · intro w' hSw; obtain ⟨⟨_, _, a0, a1, a2⟩, ⟨_, _, c0, c1, c2⟩, ⟨_, _, v0, v1, v2⟩, ⟨_, _, x0, x1, x2⟩⟩ := hSw; go_simp; try exact rfl
        try simp only [List.setIfInBounds_toArray, List.set_cons_zero, List.set_cons_succ]
        refine takeYes (i := 12) (d := 42) (v := ?_) rfl rfl (by kernel_rfl) (by kernel_rfl) (by kernel_rfl) (fun _ _ _ h => h) (by rfl) (by assumption) ?_ ?_
        rotate_left
        · intro w' hSw; obtain ⟨⟨_, _, a0, a1, a2⟩, ⟨_, _, c0, c1, c2⟩, ⟨_, _, v0, v1, v2⟩, ⟨_, _, x0, x1, x2⟩⟩ := hSw; go_simp; try exact rfl
        try simp only [List.setIfInBounds_toArray, List.set_cons_zero, List.set_cons_succ]
        refine takeYes (i := 13) (d := 43) (v := ?_) rfl rfl (by kernel_rfl) (by kernel_rfl) (by kernel_rfl) (fun _ _ _ h => h) (by rfl) (by assumption) ?_ ?_
        rotate_left
        · intro w' hSw; obtain ⟨⟨_, _, a0, a1, a2⟩, ⟨_, _, c0, c1, c2⟩, ⟨_, _, v0, v1, v2⟩, ⟨_, _, x0, x1, x2⟩⟩ := hSw; go_simp; try exact rfl
        try simp only [List.setIfInBounds_toArray, List.set_cons_zero, List.set_cons_succ]
        refine takeYes (i := 14) (d := 44) (v := ?_) rfl rfl (by kernel_rfl) (by kernel_rfl) (by kernel_rfl) (fun _ _ _ h => h) (by rfl) (by assumption) ?_ ?_
        rotate_left
        · intro w' hSw; obtain ⟨⟨_, _, a0, a1, a2⟩, ⟨_, _, c0, c1, c2⟩, ⟨_, _, v0, v1, v2⟩, ⟨_, _, x0, x1, x2⟩⟩ := hSw; go_simp; try exact rfl
        try simp only [List.setIfInBounds_toArray, List.set_cons_zero, List.set_cons_succ]
        refine takeYes (i := 16) (d := 46) (v := ?_) rfl rfl (by kernel_rfl) (by kernel_rfl) (by kernel_rfl) (fun _ _ _ h => h) (by rfl) (by assumption) ?_ ?_
        rotate_left
        · intro w' hSw; obtain ⟨⟨_, _, a0, a1, a2⟩, ⟨_, _, c0, c1, c2⟩, ⟨_, _, v0, v1, v2⟩, ⟨_, _, x0, x1, x2⟩⟩ := hSw; go_simp; try exact rfl
        try simp only [List.setIfInBounds_toArray, List.set_cons_zero, List.set_cons_succ]
        refine wpAnyH_ready (rs := [15]) (by kernel_rfl) (by simp) ?_
        refine AllReadyH.cons rfl (fun KK hKK => ?_) AllReadyH.nil
        go_simp
        go_at_call 11
        refine Calls.mono (implNul_any xk xn xs _) ?_
        rintro x w7 ⟨rfl, hb7⟩
        have hz7 := hb7.size
        (try simp at hz7)
        try go_wp2_with fail
        refine hKK.out _ _ ?_ (fun hHeld15 => ?_)
        · exact ⟨hA.below (bel), hC.below (bel), hV.below (bel), hX.below (bel)⟩
        clear hKK
        refine wpAnyH_ready (rs := [17]) (by kernel_rfl) (by simp) ?_
        refine AllReadyH.cons rfl (fun KK hKK => ?_) AllReadyH.nil
        go_simp
        go_at_call 12
        refine Calls.mono (specNul_any xk xn xs _) ?_
        rintro x w8 ⟨rfl, hb8⟩
        have hz8 := hb8.size
        (try simp at hz8)
        try go_wp2_with fail
        refine hKK.out _ _ ?_ (fun hHeld17 => ?_)
        · exact ⟨hA.below (bel), hC.below (bel), hV.below (bel), hX.below (bel)⟩
        clear hKK
        refine takeYes (i := 18) (d := 48) (v := ?_) rfl rfl (by kernel_rfl) (by kernel_rfl) (by kernel_rfl) (fun _ _ _ h => h) (by rfl) (by assumption) ?_ ?_
        rotate_left
        · intro w' hSw; obtain ⟨⟨_, _, a0, a1, a2⟩, ⟨_, _, c0, c1, c2⟩, ⟨_, _, v0, v1, v2⟩, ⟨_, _, x0, x1, x2⟩⟩ := hSw; go_simp; try exact rfl
        try simp only [List.setIfInBounds_toArray, List.set_cons_zero, List.set_cons_succ]
        refine takeYes (i := 19) (d := 49) (v := ?_) rfl rfl (by kernel_rfl) (by kernel_rfl) (by kernel_rfl) (fun _ _ _ h => h) (by rfl) (by assumption) ?_ ?_
        rotate_left
        · intro w' hSw; obtain ⟨⟨_, _, a0, a1, a2⟩, ⟨_, _, c0, c1, c2⟩, ⟨_, _, v0, v1, v2⟩, ⟨_, _, x0, x1, x2⟩⟩ := hSw; go_simp; try exact rfl
        try simp only [List.setIfInBounds_toArray, List.set_cons_zero, List.set_cons_succ]
        refine takeYes (i := 20) (d := 50) (v := ?_) rfl rfl (by kernel_rfl) (by kernel_rfl) (by kernel_rfl) (fun _ _ _ h => h) (by rfl) (by assumption) ?_ ?_
        rotate_left
        · intro w' hSw; obtain ⟨⟨_, _, a0, a1, a2⟩, ⟨_, _, c0, c1, c2⟩, ⟨_, _, v0, v1, v2⟩, ⟨_, _, x0, x1, x2⟩⟩ := hSw; go_simp; try exact rfl
        try simp only [List.setIfInBounds_toArray, List.set_cons_zero, List.set_cons_succ]
        refine takeYes (i := 21) (d := 51) (v := ?_) rfl rfl (by kernel_rfl) (by kernel_rfl) (by kernel_rfl) (fun _ _ _ h => h) (by rfl) (by assumption) ?_ ?_
        rotate_left
        · intro w' hSw; obtain ⟨⟨_, _, a0, a1, a2⟩, ⟨_, _, c0, c1, c2⟩, ⟨_, _, v0, v1, v2⟩, ⟨_, _, x0, x1, x2⟩⟩ := hSw; go_simp; try exact rfl
        try simp only [List.setIfInBounds_toArray, List.set_cons_zero, List.set_cons_succ]
        refine takeYes (i := 23) (d := 53) (v := ?_) rfl rfl (by kernel_rfl) (by kernel_rfl) (by kernel_rfl) (fun _ _ _ h => h) (by rfl) (by assumption) ?_ ?_
        rotate_left
        · intro w' hSw; obtain ⟨⟨_, _, a0, a1, a2⟩, ⟨_, _, c0, c1, c2⟩, ⟨_, _, v0, v1, v2⟩, ⟨_, _, x0, x1, x2⟩⟩ := hSw; go_simp; try exact rfl
        try simp only [List.setIfInBounds_toArray, List.set_cons_zero, List.set_cons_succ]
        refine wpAnyH_ready (rs := [22]) (by kernel_rfl) (by simp) ?_
        refine AllReadyH.cons rfl (fun KK hKK => ?_) AllReadyH.nil
        go_simp
        go_at_call 13
        refine Calls.mono (implIsTrue_any xk xn xs _) ?_
        rintro x w9 ⟨rfl, hb9⟩
        have hz9 := hb9.size
        (try simp at hz9)
        try go_wp2_with fail
        refine hKK.out _ _ ?_ (fun hHeld22 => ?_)
        · exact ⟨hA.below (bel), hC.below (bel), hV.below (bel), hX.below (bel)⟩
        clear hKK
        refine wpAnyH_ready (rs := [24]) (by kernel_rfl) (by simp) ?_
        refine AllReadyH.cons rfl (fun KK hKK => ?_) AllReadyH.nil
        go_simp
        go_at_call 14
        refine Calls.mono (specIsTrue_any xk xn xs _) ?_
        rintro x w10 ⟨rfl, hb10⟩
        have hz10 := hb10.size
        (try simp at hz10)
        try go_wp2_with fail
        refine hKK.out _ _ ?_ (fun hHeld24 => ?_)
        · exact ⟨hA.below (bel), hC.below (bel), hV.below (bel), hX.below (bel)⟩
        clear hKK
        refine takeYes (i := 25) (d := 55) (v := ?_) rfl rfl (by kernel_rfl) (by kernel_rfl) (by kernel_rfl) (fun _ _ _ h => h) (by rfl) (by assumption) ?_ ?_
        rotate_left
        · intro w' hSw; obtain ⟨⟨_, _, a0, a1, a2⟩, ⟨_, _, c0, c1, c2⟩, ⟨_, _, v0, v1, v2⟩, ⟨_, _, x0, x1, x2⟩⟩ := hSw; go_simp; try exact rfl
        try simp only [List.setIfInBounds_toArray, List.set_cons_zero, List.set_cons_succ]
        refine takeYes (i := 26) (d := 56) (v := ?_) rfl rfl (by kernel_rfl) (by kernel_rfl) (by kernel_rfl) (fun _ _ _ h => h) (by rfl) (by assumption) ?_ ?_
        rotate_left
        · intro w' hSw; obtain ⟨⟨_, _, a0, a1, a2⟩, ⟨_, _, c0, c1, c2⟩, ⟨_, _, v0, v1, v2⟩, ⟨_, _, x0, x1, x2⟩⟩ := hSw; go_simp; try exact rfl
        try simp only [List.setIfInBounds_toArray, List.set_cons_zero, List.set_cons_succ]
        refine takeYes (i := 27) (d := 57) (v := ?_) rfl rfl (by kernel_rfl) (by kernel_rfl) (by kernel_rfl) (fun _ _ _ h => h) (by rfl) (by assumption) ?_ ?_
        rotate_left
        · intro w' hSw; obtain ⟨⟨_, _, a0, a1, a2⟩, ⟨_, _, c0, c1, c2⟩, ⟨_, _, v0, v1, v2⟩, ⟨_, _, x0, x1, x2⟩⟩ := hSw; go_simp; try exact rfl
        try simp only [List.setIfInBounds_toArray, List.set_cons_zero, List.set_cons_succ]
        refine takeYes (i := 28) (d := 58) (v := ?_) rfl rfl (by kernel_rfl) (by kernel_rfl) (by kernel_rfl) (fun _ _ _ h => h) (by rfl) (by assumption) ?_ ?_
        rotate_left
        · intro w' hSw; obtain ⟨⟨_, _, a0, a1, a2⟩, ⟨_, _, c0, c1, c2⟩, ⟨_, _, v0, v1, v2⟩, ⟨_, _, x0, x1, x2⟩⟩ := hSw; go_simp; try exact rfl
        try simp only [List.setIfInBounds_toArray, List.set_cons_zero, List.set_cons_succ]
        refine wpAnyH_ready (rs := [29]) (by kernel_rfl) (by simp) ?_
        refine AllReadyH.cons rfl (fun KK hKK => ?_) AllReadyH.nil
        go_simp
        go_at_call 15
        refine Calls.mono (specValueOk_any k n s _ hs2) ?_
        rintro x w11 ⟨rfl, hb11⟩
        have hz11 := hb11.size
        (try simp at hz11)
        rw [hoa.out]
        try go_wp2_with fail
        refine hKK.out _ _ ?_ (fun hHeld29 => ?_)
        · exact ⟨hA.below (bel), hC.below (bel), hV.below (bel), hX.below (bel)⟩
        clear hKK
        refine takeYes (i := 30) (d := 60) (v := ?_) rfl rfl (by kernel_rfl) (by kernel_rfl) (by kernel_rfl) (fun _ _ _ h => h) (by rfl) (by assumption) ?_ ?_
        rotate_left
        · intro w' hSw; obtain ⟨⟨_, _, a0, a1, a2⟩, ⟨_, _, c0, c1, c2⟩, ⟨_, _, v0, v1, v2⟩, ⟨_, _, x0, x1, x2⟩⟩ := hSw; go_simp; try exact rfl
        try simp only [List.setIfInBounds_toArray, List.set_cons_zero, List.set_cons_succ]
        refine takeYes (i := 31) (d := 61) (v := ?_) rfl rfl (by kernel_rfl) (by kernel_rfl) (by kernel_rfl) (fun _ _ _ h => h) (by rfl) (by assumption) ?_ ?_
        rotate_left
        · intro w' hSw; obtain ⟨⟨_, _, a0, a1, a2⟩, ⟨_, _, c0, c1, c2⟩, ⟨_, _, v0, v1, v2⟩, ⟨_, _, x0, x1, x2⟩⟩ := hSw; go_simp; try exact rfl
        try simp only [List.setIfInBounds_toArray, List.set_cons_zero, List.set_cons_succ]
        refine wpAnyH_ready (rs := [32]) (by kernel_rfl) (by simp) ?_
        refine AllReadyH.cons rfl (fun KK hKK => ?_) AllReadyH.nil
        go_simp
        go_at_call 15
        refine Calls.mono (specValueOk_any k' n' s' _ hs2') ?_
        rintro x w12 ⟨rfl, hb12⟩
        have hz12 := hb12.size
        (try simp at hz12)
        rw [hob.out]
        try go_wp2_with fail
        refine hKK.out _ _ ?_ (fun hHeld32 => ?_)
        · exact ⟨hA.below (bel), hC.below (bel), hV.below (bel), hX.below (bel)⟩
        clear hKK
        refine takeYes (i := 33) (d := 63) (v := ?_) rfl rfl (by kernel_rfl) (by kernel_rfl) (by kernel_rfl) (fun _ _ _ h => h) (by rfl) (by assumption) ?_ ?_
        rotate_left
        · intro w' hSw; obtain ⟨⟨_, _, a0, a1, a2⟩, ⟨_, _, c0, c1, c2⟩, ⟨_, _, v0, v1, v2⟩, ⟨_, _, x0, x1, x2⟩⟩ := hSw; go_simp; try exact rfl
        try simp only [List.setIfInBounds_toArray, List.set_cons_zero, List.set_cons_succ]
        refine takeYes (i := 34) (d := 64) (v := ?_) rfl rfl (by kernel_rfl) (by kernel_rfl) (by kernel_rfl) (fun _ _ _ h => h) (by rfl) (by assumption) ?_ ?_
        rotate_left
        · intro w' hSw; obtain ⟨⟨_, _, a0, a1, a2⟩, ⟨_, _, c0, c1, c2⟩, ⟨_, _, v0, v1, v2⟩, ⟨_, _, x0, x1, x2⟩⟩ := hSw; go_simp; try exact rfl
        try simp only [List.setIfInBounds_toArray, List.set_cons_zero, List.set_cons_succ]
        refine takeYes (i := 35) (d := 65) (v := ?_) rfl rfl (by kernel_rfl) (by kernel_rfl) (by kernel_rfl) (fun _ _ _ h => h) (by rfl) (by assumption) ?_ ?_
        rotate_left
        · intro w' hSw; obtain ⟨⟨_, _, a0, a1, a2⟩, ⟨_, _, c0, c1, c2⟩, ⟨_, _, v0, v1, v2⟩, ⟨_, _, x0, x1, x2⟩⟩ := hSw; go_simp; try exact rfl
        try simp only [List.setIfInBounds_toArray, List.set_cons_zero, List.set_cons_succ]
        refine wpAnyH_ready (rs := [36]) (by kernel_rfl) (by simp) ?_
        refine AllReadyH.cons rfl (fun KK hKK => ?_) AllReadyH.nil
        go_simp
        go_at_call 16
        refine Calls.mono (implValueOk_any K N ⟨#[]⟩ _ (by decide)) ?_
        rintro x w13 ⟨rfl, hb13⟩
        have hz13 := hb13.size
        (try simp at hz13)
        rw [hok]
        try go_wp2_with fail
        refine hKK.out _ _ ?_ (fun hHeld36 => ?_)
        · exact ⟨hA.below (bel), hC.below (bel), hV.below (bel), hX.below (bel)⟩
        clear hKK
        refine takeYes (i := 37) (d := 67) (v := ?_) rfl rfl (by kernel_rfl) (by kernel_rfl) (by kernel_rfl) (fun _ _ _ h => h) (by rfl) (by assumption) ?_ ?_
        rotate_left
        · intro w' hSw; obtain ⟨⟨_, _, a0, a1, a2⟩, ⟨_, _, c0, c1, c2⟩, ⟨_, _, v0, v1, v2⟩, ⟨_, _, x0, x1, x2⟩⟩ := hSw; go_simp; try exact rfl
        try simp only [List.setIfInBounds_toArray, List.set_cons_zero, List.set_cons_succ]
        refine takeYes (i := 38) (d := 68) (v := ?_) rfl rfl (by kernel_rfl) (by kernel_rfl) (by kernel_rfl) (fun _ _ _ h => h) (by rfl) (by assumption) ?_ ?_
        rotate_left
        · intro w' hSw; obtain ⟨⟨_, _, a0, a1, a2⟩, ⟨_, _, c0, c1, c2⟩, ⟨_, _, v0, v1, v2⟩, ⟨_, _, x0, x1, x2⟩⟩ := hSw; go_simp; try exact rfl
        try simp only [List.setIfInBounds_toArray, List.set_cons_zero, List.set_cons_succ]
        refine takeYes (i := 39) (d := 69) (v := ?_) rfl rfl (by kernel_rfl) (by kernel_rfl) (by kernel_rfl) (fun _ _ _ h => h) (by rfl) (by assumption) ?_ ?_
        rotate_left
        · intro w' hSw; obtain ⟨⟨_, _, a0, a1, a2⟩, ⟨_, _, c0, c1, c2⟩, ⟨_, _, v0, v1, v2⟩, ⟨_, _, x0, x1, x2⟩⟩ := hSw; go_simp; try exact rfl
        try simp only [List.setIfInBounds_toArray, List.set_cons_zero, List.set_cons_succ]
        refine wpAnyH_done (by kernel_rfl) ?_ _
        go_wp2_with fail
        (try go_meet)
        (try (case rel => exact ⟨rfl, bel⟩))
  case rest =>
    as_aux_lemma =>
      obtain ⟨rfl, hbL⟩ := hcut
      replace hA := hA.below hbL
      replace hC := hC.below hbL
      replace hbw : Below w.heap.size w wc := hbw.trans (hbL.mono hzw)
      replace hzw := hbw.size
      clear hbL
      clear hV hX q1 q2 q3 hok HS
      go_wp2_with fail
      obtain ⟨Ka, Na, ra0, rb0, ta, da⟩ := and_both k n s k' n' s'
      obtain ⟨Ko, No, ro0, rp0, tt⟩ := or_both k n s k' n' s'
      have ra : Hid _ := ra0
      have rb : Hid _ := rb0
      have ro : Hid _ := ro0
      have rp : Hid _ := rp0
      have Ta : Hid _ := ta
      have Da : Hid _ := da
      have To : Hid _ := tt
      clear ra0 rb0 ro0 rp0 ta da tt
      go_cut [8, 9] (fun v8 v9 wz => ∃ g h, v8 = .pointer (some ⟨g, 0, none⟩) ∧ v9 = .pointer (some ⟨h, 0, none⟩) ∧ VarV wz g Ka Na ⟨#[]⟩ ∧ VarV wz h Ko No ⟨#[]⟩ ∧ Below wc.heap.size wc wz)
      case first =>
        as_aux_lemma =>
          refine wp_region_held_drew (S := (fun w' => VarV w' bA k n s ∧ VarV w' bC k' n' s')) (by kernel_rfl) ?_ (fun hHeld => ?_)
          · exact ⟨hA.below (bel), hC.below (bel)⟩
          refine takeYes (i := 0) (d := 70) (v := ?_) rfl rfl (by kernel_rfl) (by kernel_rfl) (by kernel_rfl) (fun _ _ _ h => h) (by rfl) (by assumption) ?_ ?_
          rotate_left
          · intro w' hSw; obtain ⟨⟨_, _, a0, a1, a2⟩, ⟨_, _, c0, c1, c2⟩⟩ := hSw; go_simp; try exact rfl
          try simp only [List.setIfInBounds_toArray, List.set_cons_zero, List.set_cons_succ]
          refine takeYes (i := 1) (d := 71) (v := ?_) rfl rfl (by kernel_rfl) (by kernel_rfl) (by kernel_rfl) (fun _ _ _ h => h) (by rfl) (by assumption) ?_ ?_
          rotate_left
          · intro w' hSw; obtain ⟨⟨_, _, a0, a1, a2⟩, ⟨_, _, c0, c1, c2⟩⟩ := hSw; go_simp; try exact rfl
          try simp only [List.setIfInBounds_toArray, List.set_cons_zero, List.set_cons_succ]
          refine takeYes (i := 3) (d := 73) (v := ?_) rfl rfl (by kernel_rfl) (by kernel_rfl) (by kernel_rfl) (fun _ _ _ h => h) (by rfl) (by assumption) ?_ ?_
          rotate_left
          · intro w' hSw; obtain ⟨⟨_, _, a0, a1, a2⟩, ⟨_, _, c0, c1, c2⟩⟩ := hSw; go_simp; try exact rfl
          try simp only [List.setIfInBounds_toArray, List.set_cons_zero, List.set_cons_succ]
          refine takeYes (i := 4) (d := 74) (v := ?_) rfl rfl (by kernel_rfl) (by kernel_rfl) (by kernel_rfl) (fun _ _ _ h => h) (by rfl) (by assumption) ?_ ?_
          rotate_left
          · intro w' hSw; obtain ⟨⟨_, _, a0, a1, a2⟩, ⟨_, _, c0, c1, c2⟩⟩ := hSw; go_simp; try exact rfl
          try simp only [List.setIfInBounds_toArray, List.set_cons_zero, List.set_cons_succ]
          refine calls_vars (f0 := 2) [(2, 72, (.agg #[.int .i64 Ka, .int .i64 Na, .string ⟨#[]⟩])), (5, 75, (.agg #[.int .i64 Ko, .int .i64 No, .string ⟨#[]⟩]))] [(6, 8), (7, 9)] 25 (Lend := #[true, true, true, true, true, true, true, true, false, false]) (by kernel_rfl) (by kernel_rfl) (by simp) (by simp) (by kernel_rfl) (by kernel_rfl) (fun w' hb => ⟨hHeld.1.below hb, hHeld.2.below hb⟩) ?_ ?_ ?_
          · intro c hc
            simp only [List.mem_cons, List.not_mem_nil, or_false] at hc
            rcases hc with rfl | rfl
            · intro a wq K hO hbq hK
              refine wpOp_step rfl (fun K' hK' => ?_)
              have hKK : Shut (∀ a w, K a w → K' a w) := hK'
              clear hK'
              obtain ⟨ats, ads⟩ := a
              have e0 : ats.getD 70 undef = (.agg #[.int .i64 k, .int .i64 n, .string s]) := (hO.2.2 70 (by simp)).trans rfl
              have e1 : ats.getD 71 undef = (.agg #[.int .i64 k', .int .i64 n', .string s']) := (hO.2.2 71 (by simp)).trans rfl
              clear hO
              rw [if_pos (by rfl)]
              go_simp
              refine (ra.out wq).mono ?_
              rintro x w' ⟨rfl, hb⟩
              exact hKK.out _ _ (hK.out w' hb)
            · intro a wq K hO hbq hK
              refine wpOp_step rfl (fun K' hK' => ?_)
              have hKK : Shut (∀ a w, K a w → K' a w) := hK'
              clear hK'
              obtain ⟨ats, ads⟩ := a
              have e0 : ats.getD 73 undef = (.agg #[.int .i64 k, .int .i64 n, .string s]) := (hO.2.2 73 (by simp)).trans rfl
              have e1 : ats.getD 74 undef = (.agg #[.int .i64 k', .int .i64 n', .string s']) := (hO.2.2 74 (by simp)).trans rfl
              clear hO
              rw [if_pos (by rfl)]
              go_simp
              refine (ro.out wq).mono ?_
              rintro x w' ⟨rfl, hb⟩
              exact hKK.out _ _ (hK.out w' hb)
          · intro c hc
            simp only [List.mem_cons, List.not_mem_nil, or_false] at hc
            rcases hc with rfl | rfl
            · intro a wq K hK
              refine wpOp_step rfl (fun K' hK' => ?_)
              have hKK := hK' _ _ hK
              clear hK hK'
              rw [if_pos (by rfl)]
              go_simp
              exact hKK
            · intro a wq K hK
              refine wpOp_step rfl (fun K' hK' => ?_)
              have hKK := hK' _ _ hK
              clear hK hK'
              rw [if_pos (by rfl)]
              go_simp
              exact hKK
          intro NN w5 hb5 hv5 hd5
          simp only [List.map, List.foldl, List.cons_append, List.nil_append]
          try simp only [List.setIfInBounds_toArray, List.set_cons_zero, List.set_cons_succ]
          obtain ⟨lg, hg⟩ := hv5 (6, 8) (by simp)
          obtain ⟨lh, hh⟩ := hv5 (7, 9) (by simp)
          have ngh := hd5 (6, 8) (by simp) (7, 9) (by simp) (by decide)
          clear hv5 hd5
          obtain ⟨g, eg⟩ : ∃ g, g = NN 6 := ⟨_, rfl⟩
          obtain ⟨h, eh⟩ : ∃ g, g = NN 7 := ⟨_, rfl⟩
          simp only [← eg, ← eh] at lg lh hg hh ngh ⊢
          clear eg eh
          have l_hA := hA.lt
          replace hA := hHeld.1.below hb5
          have l_hC := hC.lt
          replace hC := hHeld.2.below hb5
          have zW : wc.drew.heap.size = wc.heap.size := rfl
          rw [zW] at lg lh
          clear zW
          refine wpAnyH_ready (rs := [8]) (by kernel_rfl) (by simp) ?_
          refine AllReadyH.cons rfl (fun KK hKK => ?_) AllReadyH.nil
          have hq := hg
          obtain ⟨_, f6, z0, z1, z2⟩ := hq
          go_simp
          clear f6 z0 z1 z2
          replace hb5 := below3 hb5 lg (.int .i64 Ka) (.int .i64 Na) (.string ⟨#[]⟩)
          replace hg := hg.put Ka Na ⟨#[]⟩
          replace hA := hA.far (show bA ≠ g by omega) (.int .i64 Ka) (.int .i64 Na) (.string ⟨#[]⟩)
          replace hC := hC.far (show bC ≠ g by omega) (.int .i64 Ka) (.int .i64 Na) (.string ⟨#[]⟩)
          replace hh := hh.far (show h ≠ g by omega) (.int .i64 Ka) (.int .i64 Na) (.string ⟨#[]⟩)
          obtain ⟨V6, hW⟩ : ∃ x, x = (((w5.setCell ⟨g, 0, none⟩ (.int .i64 Ka)).setCell ⟨g, 1, none⟩ (.int .i64 Na)).setCell ⟨g, 2, none⟩ (.string ⟨#[]⟩)) := ⟨_, rfl⟩
          rw [← hW] at hb5 hA hC hg hh
          rw [← hW]
          clear hW
          refine hKK.out _ _ ⟨hA, hC⟩ (fun hHeld8 => ?_)
          clear hKK hHeld8
          refine wpAnyH_ready (rs := [9]) (by kernel_rfl) (by simp) ?_
          refine AllReadyH.cons rfl (fun KK hKK => ?_) AllReadyH.nil
          have hq := hh
          obtain ⟨_, f6, z0, z1, z2⟩ := hq
          go_simp
          clear f6 z0 z1 z2
          replace hb5 := below3 hb5 lh (.int .i64 Ko) (.int .i64 No) (.string ⟨#[]⟩)
          replace hh := hh.put Ko No ⟨#[]⟩
          replace hA := hA.far (show bA ≠ h by omega) (.int .i64 Ko) (.int .i64 No) (.string ⟨#[]⟩)
          replace hC := hC.far (show bC ≠ h by omega) (.int .i64 Ko) (.int .i64 No) (.string ⟨#[]⟩)
          replace hg := hg.far (show g ≠ h by omega) (.int .i64 Ko) (.int .i64 No) (.string ⟨#[]⟩)
          obtain ⟨W5, hW⟩ : ∃ x, x = (((V6.setCell ⟨h, 0, none⟩ (.int .i64 Ko)).setCell ⟨h, 1, none⟩ (.int .i64 No)).setCell ⟨h, 2, none⟩ (.string ⟨#[]⟩)) := ⟨_, rfl⟩
          rw [← hW] at hb5 hA hC hg hh
          rw [← hW]
          clear hW
          refine hKK.out _ _ ⟨hA, hC⟩ (fun hHeld9 => ?_)
          clear hKK hHeld9
          refine wpAnyH_done (by kernel_rfl) ?_ _
          clear hHeld
          have hbx : Below wc.heap.size wc W5 := bel
          go_wp2_with fail
          (try go_meet)
          (try (case rel => exact ⟨g, h, rfl, rfl, hg, hh, hbx⟩))
      case rest =>
        as_aux_lemma =>
          obtain ⟨g, h, rfl, rfl, hg, hh, hbL⟩ := hcut
          rename World => W5
          replace hA := hA.below hbL
          replace hC := hC.below hbL
          replace hbw : Below w.heap.size w W5 := hbw.trans (hbL.mono hzw)
          replace hzw := hbw.size
          clear hbL
          clear ra ro
          go_wp2_with fail
          go_cut [87] (fun v wz => v = .bool false ∧ Below W5.heap.size W5 wz)
          case first =>
            as_aux_lemma =>
              have q4 := neS Ka Na ⟨#[]⟩
              have q5 := neS Ko No ⟨#[]⟩
              refine wp_region_held_drew (S := (fun w' => VarV w' bA k n s ∧ VarV w' bC k' n' s' ∧ VarV w' g Ka Na ⟨#[]⟩ ∧ VarV w' h Ko No ⟨#[]⟩)) (by kernel_rfl) ?_ (fun hHeld => ?_)
              · exact ⟨hA.below (bel), hC.below (bel), hg.below (bel), hh.below (bel)⟩
              refine takeYes (i := 0) (d := 76) (v := ?_) rfl rfl (by kernel_rfl) (by kernel_rfl) (by kernel_rfl) (fun _ _ _ h => h) (by rfl) (by assumption) ?_ ?_
              rotate_left
              · intro w' hSw; obtain ⟨⟨_, _, a0, a1, a2⟩, ⟨_, _, c0, c1, c2⟩, ⟨_, _, v0, v1, v2⟩, ⟨_, _, x0, x1, x2⟩⟩ := hSw; go_simp; try exact rfl
              try simp only [List.setIfInBounds_toArray, List.set_cons_zero, List.set_cons_succ]
              refine takeYes (i := 1) (d := 77) (v := ?_) rfl rfl (by kernel_rfl) (by kernel_rfl) (by kernel_rfl) (fun _ _ _ h => h) (by rfl) (by assumption) ?_ ?_
              rotate_left
              · intro w' hSw; obtain ⟨⟨_, _, a0, a1, a2⟩, ⟨_, _, c0, c1, c2⟩, ⟨_, _, v0, v1, v2⟩, ⟨_, _, x0, x1, x2⟩⟩ := hSw; go_simp; try exact rfl
              try simp only [List.setIfInBounds_toArray, List.set_cons_zero, List.set_cons_succ]
              refine takeYes (i := 2) (d := 78) (v := ?_) rfl rfl (by kernel_rfl) (by kernel_rfl) (by kernel_rfl) (fun _ _ _ h => h) (by rfl) (by assumption) ?_ ?_
              rotate_left
              · intro w' hSw; obtain ⟨⟨_, _, a0, a1, a2⟩, ⟨_, _, c0, c1, c2⟩, ⟨_, _, v0, v1, v2⟩, ⟨_, _, x0, x1, x2⟩⟩ := hSw; go_simp; try exact rfl
              try simp only [List.setIfInBounds_toArray, List.set_cons_zero, List.set_cons_succ]
              refine wpAnyH_ready (rs := [3]) (by kernel_rfl) (by simp) ?_
              refine AllReadyH.cons rfl (fun KK hKK => ?_) AllReadyH.nil
              go_simp
              go_at_call 6
              refine Calls.mono (rb.out _) ?_
              rintro x w6 ⟨rfl, hb6⟩
              have hz6 := hb6.size
              (try simp at hz6)
              try go_wp2_with fail
              refine hKK.out _ _ ?_ (fun hHeld3 => ?_)
              · exact ⟨hA.below (bel), hC.below (bel), hg.below (bel), hh.below (bel)⟩
              clear hKK
              refine takeYes (i := 4) (d := 80) (v := ?_) rfl rfl (by kernel_rfl) (by kernel_rfl) (by kernel_rfl) (fun _ _ _ h => h) (by rfl) (by assumption) ?_ ?_
              rotate_left
              · intro w' hSw; obtain ⟨⟨_, _, a0, a1, a2⟩, ⟨_, _, c0, c1, c2⟩, ⟨_, _, v0, v1, v2⟩, ⟨_, _, x0, x1, x2⟩⟩ := hSw; go_simp; try exact rfl
              try simp only [List.setIfInBounds_toArray, List.set_cons_zero, List.set_cons_succ]
              refine takeYes (i := 5) (d := 81) (v := ?_) rfl rfl (by kernel_rfl) (by kernel_rfl) (by kernel_rfl) (fun _ _ _ h => h) (by rfl) (by assumption) ?_ ?_
              rotate_left
              · intro w' hSw; obtain ⟨⟨_, _, a0, a1, a2⟩, ⟨_, _, c0, c1, c2⟩, ⟨_, _, v0, v1, v2⟩, ⟨_, _, x0, x1, x2⟩⟩ := hSw; go_simp; try exact rfl
              try simp only [List.setIfInBounds_toArray, List.set_cons_zero, List.set_cons_succ]
              refine takeYes (i := 6) (d := 82) (v := ?_) rfl rfl (by kernel_rfl) (by kernel_rfl) (by kernel_rfl) (fun _ _ _ h => h) (by rfl) (by assumption) ?_ ?_
              rotate_left
              · intro w' hSw; obtain ⟨⟨_, _, a0, a1, a2⟩, ⟨_, _, c0, c1, c2⟩, ⟨_, _, v0, v1, v2⟩, ⟨_, _, x0, x1, x2⟩⟩ := hSw; go_simp; try exact rfl
              try simp only [List.setIfInBounds_toArray, List.set_cons_zero, List.set_cons_succ]
              refine takeYes (i := 7) (d := 83) (v := ?_) rfl rfl (by kernel_rfl) (by kernel_rfl) (by kernel_rfl) (fun _ _ _ h => h) (by rfl) (by assumption) ?_ ?_
              rotate_left
              · intro w' hSw; obtain ⟨⟨_, _, a0, a1, a2⟩, ⟨_, _, c0, c1, c2⟩, ⟨_, _, v0, v1, v2⟩, ⟨_, _, x0, x1, x2⟩⟩ := hSw; go_simp; try exact rfl
              try simp only [List.setIfInBounds_toArray, List.set_cons_zero, List.set_cons_succ]
              refine takeYes (i := 8) (d := 84) (v := ?_) rfl rfl (by kernel_rfl) (by kernel_rfl) (by kernel_rfl) (fun _ _ _ h => h) (by rfl) (by assumption) ?_ ?_
              rotate_left
              · intro w' hSw; obtain ⟨⟨_, _, a0, a1, a2⟩, ⟨_, _, c0, c1, c2⟩, ⟨_, _, v0, v1, v2⟩, ⟨_, _, x0, x1, x2⟩⟩ := hSw; go_simp; try exact rfl
              try simp only [List.setIfInBounds_toArray, List.set_cons_zero, List.set_cons_succ]
              refine wpAnyH_ready (rs := [9]) (by kernel_rfl) (by simp) ?_
              refine AllReadyH.cons rfl (fun KK hKK => ?_) AllReadyH.nil
              go_simp
              go_at_call 6
              refine Calls.mono (rp.out _) ?_
              rintro x w7 ⟨rfl, hb7⟩
              have hz7 := hb7.size
              (try simp at hz7)
              try go_wp2_with fail
              refine hKK.out _ _ ?_ (fun hHeld9 => ?_)
              · exact ⟨hA.below (bel), hC.below (bel), hg.below (bel), hh.below (bel)⟩
              clear hKK
              refine takeYes (i := 10) (d := 86) (v := ?_) rfl rfl (by kernel_rfl) (by kernel_rfl) (by kernel_rfl) (fun _ _ _ h => h) (by rfl) (by assumption) ?_ ?_
              rotate_left
              · intro w' hSw; obtain ⟨⟨_, _, a0, a1, a2⟩, ⟨_, _, c0, c1, c2⟩, ⟨_, _, v0, v1, v2⟩, ⟨_, _, x0, x1, x2⟩⟩ := hSw; go_simp; try exact rfl
              try simp only [List.setIfInBounds_toArray, List.set_cons_zero, List.set_cons_succ]
              refine takeYes (i := 11) (d := 87) (v := ?_) rfl rfl (by kernel_rfl) (by kernel_rfl) (by kernel_rfl) (fun _ _ _ h => h) (by rfl) (by assumption) ?_ ?_
              rotate_left
              · intro w' hSw; obtain ⟨⟨_, _, a0, a1, a2⟩, ⟨_, _, c0, c1, c2⟩, ⟨_, _, v0, v1, v2⟩, ⟨_, _, x0, x1, x2⟩⟩ := hSw; go_simp; try exact rfl
              try simp only [List.setIfInBounds_toArray, List.set_cons_zero, List.set_cons_succ]
              refine wpAnyH_done (by kernel_rfl) ?_ _
              go_wp2_with fail
              (try go_meet)
              (try (case rel => exact ⟨rfl, bel⟩))
          case rest =>
            as_aux_lemma =>
              obtain ⟨rfl, hbL⟩ := hcut
              replace hA := hA.below hbL
              replace hC := hC.below hbL
              replace hg := hg.below hbL
              replace hh := hh.below hbL
              replace hbw : Below w.heap.size w wc := hbw.trans (hbL.mono hzw)
              replace hzw := hbw.size
              clear hbL
              go_wp2_with fail
              clear rb rp
              go_cut [115] (fun v wz => v = .bool false ∧ Below wc.heap.size wc wz)
              case first =>
                as_aux_lemma =>
                  cases ea : okB k n s
                  · as_aux_lemma =>
                      have hoa : Hid (okB k n s = false) := ea
                      clear ea
                      refine wp_region_held_drew (S := (fun w' => VarV w' bA k n s ∧ VarV w' bC k' n' s' ∧ VarV w' g Ka Na ⟨#[]⟩ ∧ VarV w' h Ko No ⟨#[]⟩)) (by kernel_rfl) ?_ (fun hHeld => ?_)
                      · exact ⟨hA.below (bel), hC.below (bel), hg.below (bel), hh.below (bel)⟩
                      refine takeYes (i := 0) (d := 88) (v := ?_) rfl rfl (by kernel_rfl) (by kernel_rfl) (by kernel_rfl) (fun _ _ _ h => h) (by rfl) (by assumption) ?_ ?_
                      rotate_left
                      · intro w' hSw; obtain ⟨⟨_, _, a0, a1, a2⟩, ⟨_, _, c0, c1, c2⟩, ⟨_, _, v0, v1, v2⟩, ⟨_, _, x0, x1, x2⟩⟩ := hSw; go_simp; try exact rfl
                      try simp only [List.setIfInBounds_toArray, List.set_cons_zero, List.set_cons_succ]
                      refine wpAnyH_ready (rs := [1]) (by kernel_rfl) (by simp) ?_
                      refine AllReadyH.cons rfl (fun KK hKK => ?_) AllReadyH.nil
                      go_simp
                      go_at_call 15
                      refine Calls.mono (specValueOk_any k n s _ hs2) ?_
                      rintro x w8 ⟨rfl, hb8⟩
                      have hz8 := hb8.size
                      (try simp at hz8)
                      rw [hoa.out]
                      try go_wp2_with fail
                      refine hKK.out _ _ ?_ (fun hHeld1 => ?_)
                      · exact ⟨hA.below (bel), hC.below (bel), hg.below (bel), hh.below (bel)⟩
                      clear hKK
                      refine takeYes (i := 2) (d := 90) (v := ?_) rfl rfl (by kernel_rfl) (by kernel_rfl) (by kernel_rfl) (fun _ _ _ h => h) (by rfl) (by assumption) ?_ ?_
                      rotate_left
                      · intro w' hSw; obtain ⟨⟨_, _, a0, a1, a2⟩, ⟨_, _, c0, c1, c2⟩, ⟨_, _, v0, v1, v2⟩, ⟨_, _, x0, x1, x2⟩⟩ := hSw; go_simp; try exact rfl
                      try simp only [List.setIfInBounds_toArray, List.set_cons_zero, List.set_cons_succ]
                      refine takeNo (i := 3) (d := 91) rfl rfl (by kernel_rfl) (by kernel_rfl) (by kernel_rfl) (fun _ _ _ h => h) (by rfl) (by assumption) ?_
                      try simp only [List.setIfInBounds_toArray, List.set_cons_zero, List.set_cons_succ]
                      refine takeNo (i := 4) (d := 92) rfl rfl (by kernel_rfl) (by kernel_rfl) (by kernel_rfl) (fun _ _ _ h => h) (by rfl) (by assumption) ?_
                      try simp only [List.setIfInBounds_toArray, List.set_cons_zero, List.set_cons_succ]
                      refine takeYes (i := 5) (d := 93) (v := ?_) rfl rfl (by kernel_rfl) (by kernel_rfl) (by kernel_rfl) (fun _ _ _ h => h) (by rfl) (by assumption) ?_ ?_
                      rotate_left
                      · intro w' hSw; obtain ⟨⟨_, _, a0, a1, a2⟩, ⟨_, _, c0, c1, c2⟩, ⟨_, _, v0, v1, v2⟩, ⟨_, _, x0, x1, x2⟩⟩ := hSw; go_simp; try exact rfl
                      try simp only [List.setIfInBounds_toArray, List.set_cons_zero, List.set_cons_succ]
                      refine takeYes (i := 6) (d := 94) (v := ?_) rfl rfl (by kernel_rfl) (by kernel_rfl) (by kernel_rfl) (fun _ _ _ h => h) (by rfl) (by assumption) ?_ ?_
                      rotate_left
                      · intro w' hSw; obtain ⟨⟨_, _, a0, a1, a2⟩, ⟨_, _, c0, c1, c2⟩, ⟨_, _, v0, v1, v2⟩, ⟨_, _, x0, x1, x2⟩⟩ := hSw; go_simp; try exact rfl
                      try simp only [List.setIfInBounds_toArray, List.set_cons_zero, List.set_cons_succ]
                      refine takeNo (i := 7) (d := 95) rfl rfl (by kernel_rfl) (by kernel_rfl) (by kernel_rfl) (fun _ _ _ h => h) (by rfl) (by assumption) ?_
                      try simp only [List.setIfInBounds_toArray, List.set_cons_zero, List.set_cons_succ]
                      refine takeNo (i := 8) (d := 96) rfl rfl (by kernel_rfl) (by kernel_rfl) (by kernel_rfl) (fun _ _ _ h => h) (by rfl) (by assumption) ?_
                      try simp only [List.setIfInBounds_toArray, List.set_cons_zero, List.set_cons_succ]
                      refine takeNo (i := 9) (d := 97) rfl rfl (by kernel_rfl) (by kernel_rfl) (by kernel_rfl) (fun _ _ _ h => h) (by rfl) (by assumption) ?_
                      try simp only [List.setIfInBounds_toArray, List.set_cons_zero, List.set_cons_succ]
                      refine takeNo (i := 10) (d := 98) rfl rfl (by kernel_rfl) (by kernel_rfl) (by kernel_rfl) (fun _ _ _ h => h) (by rfl) (by assumption) ?_
                      try simp only [List.setIfInBounds_toArray, List.set_cons_zero, List.set_cons_succ]
                      refine takeNo (i := 11) (d := 99) rfl rfl (by kernel_rfl) (by kernel_rfl) (by kernel_rfl) (fun _ _ _ h => h) (by rfl) (by assumption) ?_
                      try simp only [List.setIfInBounds_toArray, List.set_cons_zero, List.set_cons_succ]
                      refine takeNo (i := 12) (d := 100) rfl rfl (by kernel_rfl) (by kernel_rfl) (by kernel_rfl) (fun _ _ _ h => h) (by rfl) (by assumption) ?_
                      try simp only [List.setIfInBounds_toArray, List.set_cons_zero, List.set_cons_succ]
                      refine takeNo (i := 13) (d := 101) rfl rfl (by kernel_rfl) (by kernel_rfl) (by kernel_rfl) (fun _ _ _ h => h) (by rfl) (by assumption) ?_
                      try simp only [List.setIfInBounds_toArray, List.set_cons_zero, List.set_cons_succ]
                      refine takeNo (i := 14) (d := 102) rfl rfl (by kernel_rfl) (by kernel_rfl) (by kernel_rfl) (fun _ _ _ h => h) (by rfl) (by assumption) ?_
                      try simp only [List.setIfInBounds_toArray, List.set_cons_zero, List.set_cons_succ]
                      refine takeNo (i := 15) (d := 103) rfl rfl (by kernel_rfl) (by kernel_rfl) (by kernel_rfl) (fun _ _ _ h => h) (by rfl) (by assumption) ?_
                      try simp only [List.setIfInBounds_toArray, List.set_cons_zero, List.set_cons_succ]
                      refine takeNo (i := 16) (d := 104) rfl rfl (by kernel_rfl) (by kernel_rfl) (by kernel_rfl) (fun _ _ _ h => h) (by rfl) (by assumption) ?_
                      try simp only [List.setIfInBounds_toArray, List.set_cons_zero, List.set_cons_succ]
                      refine takeNo (i := 17) (d := 105) rfl rfl (by kernel_rfl) (by kernel_rfl) (by kernel_rfl) (fun _ _ _ h => h) (by rfl) (by assumption) ?_
                      try simp only [List.setIfInBounds_toArray, List.set_cons_zero, List.set_cons_succ]
                      refine takeNo (i := 18) (d := 106) rfl rfl (by kernel_rfl) (by kernel_rfl) (by kernel_rfl) (fun _ _ _ h => h) (by rfl) (by assumption) ?_
                      try simp only [List.setIfInBounds_toArray, List.set_cons_zero, List.set_cons_succ]
                      refine takeNo (i := 19) (d := 107) rfl rfl (by kernel_rfl) (by kernel_rfl) (by kernel_rfl) (fun _ _ _ h => h) (by rfl) (by assumption) ?_
                      try simp only [List.setIfInBounds_toArray, List.set_cons_zero, List.set_cons_succ]
                      refine takeNo (i := 20) (d := 108) rfl rfl (by kernel_rfl) (by kernel_rfl) (by kernel_rfl) (fun _ _ _ h => h) (by rfl) (by assumption) ?_
                      try simp only [List.setIfInBounds_toArray, List.set_cons_zero, List.set_cons_succ]
                      refine takeNo (i := 21) (d := 109) rfl rfl (by kernel_rfl) (by kernel_rfl) (by kernel_rfl) (fun _ _ _ h => h) (by rfl) (by assumption) ?_
                      try simp only [List.setIfInBounds_toArray, List.set_cons_zero, List.set_cons_succ]
                      refine takeNo (i := 22) (d := 110) rfl rfl (by kernel_rfl) (by kernel_rfl) (by kernel_rfl) (fun _ _ _ h => h) (by rfl) (by assumption) ?_
                      try simp only [List.setIfInBounds_toArray, List.set_cons_zero, List.set_cons_succ]
                      refine takeNo (i := 23) (d := 111) rfl rfl (by kernel_rfl) (by kernel_rfl) (by kernel_rfl) (fun _ _ _ h => h) (by rfl) (by assumption) ?_
                      try simp only [List.setIfInBounds_toArray, List.set_cons_zero, List.set_cons_succ]
                      refine takeNo (i := 24) (d := 112) rfl rfl (by kernel_rfl) (by kernel_rfl) (by kernel_rfl) (fun _ _ _ h => h) (by rfl) (by assumption) ?_
                      try simp only [List.setIfInBounds_toArray, List.set_cons_zero, List.set_cons_succ]
                      refine takeNo (i := 25) (d := 113) rfl rfl (by kernel_rfl) (by kernel_rfl) (by kernel_rfl) (fun _ _ _ h => h) (by rfl) (by assumption) ?_
                      try simp only [List.setIfInBounds_toArray, List.set_cons_zero, List.set_cons_succ]
                      refine takeNo (i := 26) (d := 114) rfl rfl (by kernel_rfl) (by kernel_rfl) (by kernel_rfl) (fun _ _ _ h => h) (by rfl) (by assumption) ?_
                      try simp only [List.setIfInBounds_toArray, List.set_cons_zero, List.set_cons_succ]
                      refine takeYes (i := 27) (d := 115) (v := ?_) rfl rfl (by kernel_rfl) (by kernel_rfl) (by kernel_rfl) (fun _ _ _ h => h) (by rfl) (by assumption) ?_ ?_
                      rotate_left
                      · intro w' hSw; obtain ⟨⟨_, _, a0, a1, a2⟩, ⟨_, _, c0, c1, c2⟩, ⟨_, _, v0, v1, v2⟩, ⟨_, _, x0, x1, x2⟩⟩ := hSw; go_simp; try exact rfl
                      try simp only [List.setIfInBounds_toArray, List.set_cons_zero, List.set_cons_succ]
                      refine wpAnyH_done (by kernel_rfl) ?_ _
                      go_wp2_with fail
                      (try go_meet)
                      (try (case rel => exact ⟨rfl, bel⟩))
                  cases eb : okB k' n' s'
                  · as_aux_lemma =>
                      have hoa : Hid (okB k n s = true) := ea
                      have hob : Hid (okB k' n' s' = false) := eb
                      clear ea eb
                      refine wp_region_held_drew (S := (fun w' => VarV w' bA k n s ∧ VarV w' bC k' n' s' ∧ VarV w' g Ka Na ⟨#[]⟩ ∧ VarV w' h Ko No ⟨#[]⟩)) (by kernel_rfl) ?_ (fun hHeld => ?_)
                      · exact ⟨hA.below (bel), hC.below (bel), hg.below (bel), hh.below (bel)⟩
                      refine takeYes (i := 0) (d := 88) (v := ?_) rfl rfl (by kernel_rfl) (by kernel_rfl) (by kernel_rfl) (fun _ _ _ h => h) (by rfl) (by assumption) ?_ ?_
                      rotate_left
                      · intro w' hSw; obtain ⟨⟨_, _, a0, a1, a2⟩, ⟨_, _, c0, c1, c2⟩, ⟨_, _, v0, v1, v2⟩, ⟨_, _, x0, x1, x2⟩⟩ := hSw; go_simp; try exact rfl
                      try simp only [List.setIfInBounds_toArray, List.set_cons_zero, List.set_cons_succ]
                      refine wpAnyH_ready (rs := [1]) (by kernel_rfl) (by simp) ?_
                      refine AllReadyH.cons rfl (fun KK hKK => ?_) AllReadyH.nil
                      go_simp
                      go_at_call 15
                      refine Calls.mono (specValueOk_any k n s _ hs2) ?_
                      rintro x w8 ⟨rfl, hb8⟩
                      have hz8 := hb8.size
                      (try simp at hz8)
                      rw [hoa.out]
                      try go_wp2_with fail
                      refine hKK.out _ _ ?_ (fun hHeld1 => ?_)
                      · exact ⟨hA.below (bel), hC.below (bel), hg.below (bel), hh.below (bel)⟩
                      clear hKK
                      refine takeYes (i := 2) (d := 90) (v := ?_) rfl rfl (by kernel_rfl) (by kernel_rfl) (by kernel_rfl) (fun _ _ _ h => h) (by rfl) (by assumption) ?_ ?_
                      rotate_left
                      · intro w' hSw; obtain ⟨⟨_, _, a0, a1, a2⟩, ⟨_, _, c0, c1, c2⟩, ⟨_, _, v0, v1, v2⟩, ⟨_, _, x0, x1, x2⟩⟩ := hSw; go_simp; try exact rfl
                      try simp only [List.setIfInBounds_toArray, List.set_cons_zero, List.set_cons_succ]
                      refine takeYes (i := 3) (d := 91) (v := ?_) rfl rfl (by kernel_rfl) (by kernel_rfl) (by kernel_rfl) (fun _ _ _ h => h) (by rfl) (by assumption) ?_ ?_
                      rotate_left
                      · intro w' hSw; obtain ⟨⟨_, _, a0, a1, a2⟩, ⟨_, _, c0, c1, c2⟩, ⟨_, _, v0, v1, v2⟩, ⟨_, _, x0, x1, x2⟩⟩ := hSw; go_simp; try exact rfl
                      try simp only [List.setIfInBounds_toArray, List.set_cons_zero, List.set_cons_succ]
                      refine wpAnyH_ready (rs := [4]) (by kernel_rfl) (by simp) ?_
                      refine AllReadyH.cons rfl (fun KK hKK => ?_) AllReadyH.nil
                      go_simp
                      go_at_call 15
                      refine Calls.mono (specValueOk_any k' n' s' _ hs2') ?_
                      rintro x w9 ⟨rfl, hb9⟩
                      have hz9 := hb9.size
                      (try simp at hz9)
                      rw [hob.out]
                      try go_wp2_with fail
                      refine hKK.out _ _ ?_ (fun hHeld4 => ?_)
                      · exact ⟨hA.below (bel), hC.below (bel), hg.below (bel), hh.below (bel)⟩
                      clear hKK
                      refine takeYes (i := 5) (d := 93) (v := ?_) rfl rfl (by kernel_rfl) (by kernel_rfl) (by kernel_rfl) (fun _ _ _ h => h) (by rfl) (by assumption) ?_ ?_
                      rotate_left
                      · intro w' hSw; obtain ⟨⟨_, _, a0, a1, a2⟩, ⟨_, _, c0, c1, c2⟩, ⟨_, _, v0, v1, v2⟩, ⟨_, _, x0, x1, x2⟩⟩ := hSw; go_simp; try exact rfl
                      try simp only [List.setIfInBounds_toArray, List.set_cons_zero, List.set_cons_succ]
                      refine takeYes (i := 6) (d := 94) (v := ?_) rfl rfl (by kernel_rfl) (by kernel_rfl) (by kernel_rfl) (fun _ _ _ h => h) (by rfl) (by assumption) ?_ ?_
                      rotate_left
                      · intro w' hSw; obtain ⟨⟨_, _, a0, a1, a2⟩, ⟨_, _, c0, c1, c2⟩, ⟨_, _, v0, v1, v2⟩, ⟨_, _, x0, x1, x2⟩⟩ := hSw; go_simp; try exact rfl
                      try simp only [List.setIfInBounds_toArray, List.set_cons_zero, List.set_cons_succ]
                      refine takeNo (i := 7) (d := 95) rfl rfl (by kernel_rfl) (by kernel_rfl) (by kernel_rfl) (fun _ _ _ h => h) (by rfl) (by assumption) ?_
                      try simp only [List.setIfInBounds_toArray, List.set_cons_zero, List.set_cons_succ]
                      refine takeNo (i := 8) (d := 96) rfl rfl (by kernel_rfl) (by kernel_rfl) (by kernel_rfl) (fun _ _ _ h => h) (by rfl) (by assumption) ?_
                      try simp only [List.setIfInBounds_toArray, List.set_cons_zero, List.set_cons_succ]
                      refine takeNo (i := 9) (d := 97) rfl rfl (by kernel_rfl) (by kernel_rfl) (by kernel_rfl) (fun _ _ _ h => h) (by rfl) (by assumption) ?_
                      try simp only [List.setIfInBounds_toArray, List.set_cons_zero, List.set_cons_succ]
                      refine takeNo (i := 10) (d := 98) rfl rfl (by kernel_rfl) (by kernel_rfl) (by kernel_rfl) (fun _ _ _ h => h) (by rfl) (by assumption) ?_
                      try simp only [List.setIfInBounds_toArray, List.set_cons_zero, List.set_cons_succ]
                      refine takeNo (i := 11) (d := 99) rfl rfl (by kernel_rfl) (by kernel_rfl) (by kernel_rfl) (fun _ _ _ h => h) (by rfl) (by assumption) ?_
                      try simp only [List.setIfInBounds_toArray, List.set_cons_zero, List.set_cons_succ]
                      refine takeNo (i := 12) (d := 100) rfl rfl (by kernel_rfl) (by kernel_rfl) (by kernel_rfl) (fun _ _ _ h => h) (by rfl) (by assumption) ?_
                      try simp only [List.setIfInBounds_toArray, List.set_cons_zero, List.set_cons_succ]
                      refine takeNo (i := 13) (d := 101) rfl rfl (by kernel_rfl) (by kernel_rfl) (by kernel_rfl) (fun _ _ _ h => h) (by rfl) (by assumption) ?_
                      try simp only [List.setIfInBounds_toArray, List.set_cons_zero, List.set_cons_succ]
                      refine takeNo (i := 14) (d := 102) rfl rfl (by kernel_rfl) (by kernel_rfl) (by kernel_rfl) (fun _ _ _ h => h) (by rfl) (by assumption) ?_
                      try simp only [List.setIfInBounds_toArray, List.set_cons_zero, List.set_cons_succ]
                      refine takeNo (i := 15) (d := 103) rfl rfl (by kernel_rfl) (by kernel_rfl) (by kernel_rfl) (fun _ _ _ h => h) (by rfl) (by assumption) ?_
                      try simp only [List.setIfInBounds_toArray, List.set_cons_zero, List.set_cons_succ]
                      refine takeNo (i := 16) (d := 104) rfl rfl (by kernel_rfl) (by kernel_rfl) (by kernel_rfl) (fun _ _ _ h => h) (by rfl) (by assumption) ?_
                      try simp only [List.setIfInBounds_toArray, List.set_cons_zero, List.set_cons_succ]
                      refine takeNo (i := 17) (d := 105) rfl rfl (by kernel_rfl) (by kernel_rfl) (by kernel_rfl) (fun _ _ _ h => h) (by rfl) (by assumption) ?_
                      try simp only [List.setIfInBounds_toArray, List.set_cons_zero, List.set_cons_succ]
                      refine takeNo (i := 18) (d := 106) rfl rfl (by kernel_rfl) (by kernel_rfl) (by kernel_rfl) (fun _ _ _ h => h) (by rfl) (by assumption) ?_
                      try simp only [List.setIfInBounds_toArray, List.set_cons_zero, List.set_cons_succ]
                      refine takeNo (i := 19) (d := 107) rfl rfl (by kernel_rfl) (by kernel_rfl) (by kernel_rfl) (fun _ _ _ h => h) (by rfl) (by assumption) ?_
                      try simp only [List.setIfInBounds_toArray, List.set_cons_zero, List.set_cons_succ]
                      refine takeNo (i := 20) (d := 108) rfl rfl (by kernel_rfl) (by kernel_rfl) (by kernel_rfl) (fun _ _ _ h => h) (by rfl) (by assumption) ?_
                      try simp only [List.setIfInBounds_toArray, List.set_cons_zero, List.set_cons_succ]
                      refine takeNo (i := 21) (d := 109) rfl rfl (by kernel_rfl) (by kernel_rfl) (by kernel_rfl) (fun _ _ _ h => h) (by rfl) (by assumption) ?_
                      try simp only [List.setIfInBounds_toArray, List.set_cons_zero, List.set_cons_succ]
                      refine takeNo (i := 22) (d := 110) rfl rfl (by kernel_rfl) (by kernel_rfl) (by kernel_rfl) (fun _ _ _ h => h) (by rfl) (by assumption) ?_
                      try simp only [List.setIfInBounds_toArray, List.set_cons_zero, List.set_cons_succ]
                      refine takeNo (i := 23) (d := 111) rfl rfl (by kernel_rfl) (by kernel_rfl) (by kernel_rfl) (fun _ _ _ h => h) (by rfl) (by assumption) ?_
                      try simp only [List.setIfInBounds_toArray, List.set_cons_zero, List.set_cons_succ]
                      refine takeNo (i := 24) (d := 112) rfl rfl (by kernel_rfl) (by kernel_rfl) (by kernel_rfl) (fun _ _ _ h => h) (by rfl) (by assumption) ?_
                      try simp only [List.setIfInBounds_toArray, List.set_cons_zero, List.set_cons_succ]
                      refine takeNo (i := 25) (d := 113) rfl rfl (by kernel_rfl) (by kernel_rfl) (by kernel_rfl) (fun _ _ _ h => h) (by rfl) (by assumption) ?_
                      try simp only [List.setIfInBounds_toArray, List.set_cons_zero, List.set_cons_succ]
                      refine takeNo (i := 26) (d := 114) rfl rfl (by kernel_rfl) (by kernel_rfl) (by kernel_rfl) (fun _ _ _ h => h) (by rfl) (by assumption) ?_
                      try simp only [List.setIfInBounds_toArray, List.set_cons_zero, List.set_cons_succ]
                      refine takeYes (i := 27) (d := 115) (v := ?_) rfl rfl (by kernel_rfl) (by kernel_rfl) (by kernel_rfl) (fun _ _ _ h => h) (by rfl) (by assumption) ?_ ?_
                      rotate_left
                      · intro w' hSw; obtain ⟨⟨_, _, a0, a1, a2⟩, ⟨_, _, c0, c1, c2⟩, ⟨_, _, v0, v1, v2⟩, ⟨_, _, x0, x1, x2⟩⟩ := hSw; go_simp; try exact rfl
                      try simp only [List.setIfInBounds_toArray, List.set_cons_zero, List.set_cons_succ]
                      refine wpAnyH_done (by kernel_rfl) ?_ _
                      go_wp2_with fail
                      (try go_meet)
                      (try (case rel => exact ⟨rfl, bel⟩))
                  as_aux_lemma =>
                    have hoa : Hid (okB k n s = true) := ea
                    have hob : Hid (okB k' n' s' = true) := eb
                    clear ea eb
                    cases et : isT k n
                    · cases eu : isT k' n'
                      · as_aux_lemma =>
                          have ta : Hid (isT k n = false) := et
                          have tb : Hid (isT k' n' = false) := eu
                          clear et eu
                          have tA : Hid (isT Ka Na = false) := by have := Ta.out hoa.out hob.out; rw [ta.out, tb.out] at this; exact this
                          have tO : Hid (isT Ko No = false) := by have := To.out hoa.out hob.out; rw [ta.out, tb.out] at this; exact this
                          refine wp_region_held_drew (S := (fun w' => VarV w' bA k n s ∧ VarV w' bC k' n' s' ∧ VarV w' g Ka Na ⟨#[]⟩ ∧ VarV w' h Ko No ⟨#[]⟩)) (by kernel_rfl) ?_ (fun hHeld => ?_)
                          · exact ⟨hA.below (bel), hC.below (bel), hg.below (bel), hh.below (bel)⟩
                          refine takeYes (i := 0) (d := 88) (v := ?_) rfl rfl (by kernel_rfl) (by kernel_rfl) (by kernel_rfl) (fun _ _ _ h => h) (by rfl) (by assumption) ?_ ?_
                          rotate_left
                          · intro w' hSw; obtain ⟨⟨_, _, a0, a1, a2⟩, ⟨_, _, c0, c1, c2⟩, ⟨_, _, v0, v1, v2⟩, ⟨_, _, x0, x1, x2⟩⟩ := hSw; go_simp; try exact rfl
                          try simp only [List.setIfInBounds_toArray, List.set_cons_zero, List.set_cons_succ]
                          refine wpAnyH_ready (rs := [1]) (by kernel_rfl) (by simp) ?_
                          refine AllReadyH.cons rfl (fun KK hKK => ?_) AllReadyH.nil
                          go_simp
                          go_at_call 15
                          refine Calls.mono (specValueOk_any k n s _ hs2) ?_
                          rintro x w8 ⟨rfl, hb8⟩
                          have hz8 := hb8.size
                          (try simp at hz8)
                          rw [hoa.out]
                          try go_wp2_with fail
                          refine hKK.out _ _ ?_ (fun hHeld1 => ?_)
                          · exact ⟨hA.below (bel), hC.below (bel), hg.below (bel), hh.below (bel)⟩
                          clear hKK
                          refine takeYes (i := 2) (d := 90) (v := ?_) rfl rfl (by kernel_rfl) (by kernel_rfl) (by kernel_rfl) (fun _ _ _ h => h) (by rfl) (by assumption) ?_ ?_
                          rotate_left
                          · intro w' hSw; obtain ⟨⟨_, _, a0, a1, a2⟩, ⟨_, _, c0, c1, c2⟩, ⟨_, _, v0, v1, v2⟩, ⟨_, _, x0, x1, x2⟩⟩ := hSw; go_simp; try exact rfl
                          try simp only [List.setIfInBounds_toArray, List.set_cons_zero, List.set_cons_succ]
                          refine takeYes (i := 3) (d := 91) (v := ?_) rfl rfl (by kernel_rfl) (by kernel_rfl) (by kernel_rfl) (fun _ _ _ h => h) (by rfl) (by assumption) ?_ ?_
                          rotate_left
                          · intro w' hSw; obtain ⟨⟨_, _, a0, a1, a2⟩, ⟨_, _, c0, c1, c2⟩, ⟨_, _, v0, v1, v2⟩, ⟨_, _, x0, x1, x2⟩⟩ := hSw; go_simp; try exact rfl
                          try simp only [List.setIfInBounds_toArray, List.set_cons_zero, List.set_cons_succ]
                          refine wpAnyH_ready (rs := [4]) (by kernel_rfl) (by simp) ?_
                          refine AllReadyH.cons rfl (fun KK hKK => ?_) AllReadyH.nil
                          go_simp
                          go_at_call 15
                          refine Calls.mono (specValueOk_any k' n' s' _ hs2') ?_
                          rintro x w9 ⟨rfl, hb9⟩
                          have hz9 := hb9.size
                          (try simp at hz9)
                          rw [hob.out]
                          try go_wp2_with fail
                          refine hKK.out _ _ ?_ (fun hHeld4 => ?_)
                          · exact ⟨hA.below (bel), hC.below (bel), hg.below (bel), hh.below (bel)⟩
                          clear hKK
                          refine takeYes (i := 5) (d := 93) (v := ?_) rfl rfl (by kernel_rfl) (by kernel_rfl) (by kernel_rfl) (fun _ _ _ h => h) (by rfl) (by assumption) ?_ ?_
                          rotate_left
                          · intro w' hSw; obtain ⟨⟨_, _, a0, a1, a2⟩, ⟨_, _, c0, c1, c2⟩, ⟨_, _, v0, v1, v2⟩, ⟨_, _, x0, x1, x2⟩⟩ := hSw; go_simp; try exact rfl
                          try simp only [List.setIfInBounds_toArray, List.set_cons_zero, List.set_cons_succ]
                          refine takeYes (i := 6) (d := 94) (v := ?_) rfl rfl (by kernel_rfl) (by kernel_rfl) (by kernel_rfl) (fun _ _ _ h => h) (by rfl) (by assumption) ?_ ?_
                          rotate_left
                          · intro w' hSw; obtain ⟨⟨_, _, a0, a1, a2⟩, ⟨_, _, c0, c1, c2⟩, ⟨_, _, v0, v1, v2⟩, ⟨_, _, x0, x1, x2⟩⟩ := hSw; go_simp; try exact rfl
                          try simp only [List.setIfInBounds_toArray, List.set_cons_zero, List.set_cons_succ]
                          refine takeYes (i := 7) (d := 95) (v := ?_) rfl rfl (by kernel_rfl) (by kernel_rfl) (by kernel_rfl) (fun _ _ _ h => h) (by rfl) (by assumption) ?_ ?_
                          rotate_left
                          · intro w' hSw; obtain ⟨⟨_, _, a0, a1, a2⟩, ⟨_, _, c0, c1, c2⟩, ⟨_, _, v0, v1, v2⟩, ⟨_, _, x0, x1, x2⟩⟩ := hSw; go_simp; try exact rfl
                          try simp only [List.setIfInBounds_toArray, List.set_cons_zero, List.set_cons_succ]
                          refine takeYes (i := 9) (d := 97) (v := ?_) rfl rfl (by kernel_rfl) (by kernel_rfl) (by kernel_rfl) (fun _ _ _ h => h) (by rfl) (by assumption) ?_ ?_
                          rotate_left
                          · intro w' hSw; obtain ⟨⟨_, _, a0, a1, a2⟩, ⟨_, _, c0, c1, c2⟩, ⟨_, _, v0, v1, v2⟩, ⟨_, _, x0, x1, x2⟩⟩ := hSw; go_simp; try exact rfl
                          try simp only [List.setIfInBounds_toArray, List.set_cons_zero, List.set_cons_succ]
                          refine wpAnyH_ready (rs := [8]) (by kernel_rfl) (by simp) ?_
                          refine AllReadyH.cons rfl (fun KK hKK => ?_) AllReadyH.nil
                          go_simp
                          go_at_call 13
                          refine Calls.mono (implIsTrue_any Ka Na ⟨#[]⟩ _) ?_
                          rintro x w10 ⟨rfl, hb10⟩
                          have hz10 := hb10.size
                          (try simp at hz10)
                          rw [tA.out]
                          try go_wp2_with fail
                          refine hKK.out _ _ ?_ (fun hHeld8 => ?_)
                          · exact ⟨hA.below (bel), hC.below (bel), hg.below (bel), hh.below (bel)⟩
                          clear hKK
                          refine wpAnyH_ready (rs := [10]) (by kernel_rfl) (by simp) ?_
                          refine AllReadyH.cons rfl (fun KK hKK => ?_) AllReadyH.nil
                          go_simp
                          go_at_call 13
                          refine Calls.mono (implIsTrue_any k n s _) ?_
                          rintro x w11 ⟨rfl, hb11⟩
                          have hz11 := hb11.size
                          (try simp at hz11)
                          rw [ta.out]
                          try go_wp2_with fail
                          refine hKK.out _ _ ?_ (fun hHeld10 => ?_)
                          · exact ⟨hA.below (bel), hC.below (bel), hg.below (bel), hh.below (bel)⟩
                          clear hKK
                          refine takeYes (i := 11) (d := 99) (v := ?_) rfl rfl (by kernel_rfl) (by kernel_rfl) (by kernel_rfl) (fun _ _ _ h => h) (by rfl) (by assumption) ?_ ?_
                          rotate_left
                          · intro w' hSw; obtain ⟨⟨_, _, a0, a1, a2⟩, ⟨_, _, c0, c1, c2⟩, ⟨_, _, v0, v1, v2⟩, ⟨_, _, x0, x1, x2⟩⟩ := hSw; go_simp; try exact rfl
                          try simp only [List.setIfInBounds_toArray, List.set_cons_zero, List.set_cons_succ]
                          refine takeNo (i := 12) (d := 100) rfl rfl (by kernel_rfl) (by kernel_rfl) (by kernel_rfl) (fun _ _ _ h => h) (by rfl) (by assumption) ?_
                          try simp only [List.setIfInBounds_toArray, List.set_cons_zero, List.set_cons_succ]
                          refine wpAnyH_ready (rs := [13]) (by kernel_rfl) (by simp) ?_
                          refine AllReadyH.cons rfl (fun KK hKK => ?_) AllReadyH.nil
                          go_simp
                          refine hKK.out _ _ ?_ (fun hHeld13 => ?_)
                          · exact ⟨hA.below (bel), hC.below (bel), hg.below (bel), hh.below (bel)⟩
                          clear hKK
                          refine takeYes (i := 14) (d := 102) (v := ?_) rfl rfl (by kernel_rfl) (by kernel_rfl) (by kernel_rfl) (fun _ _ _ h => h) (by rfl) (by assumption) ?_ ?_
                          rotate_left
                          · intro w' hSw; obtain ⟨⟨_, _, a0, a1, a2⟩, ⟨_, _, c0, c1, c2⟩, ⟨_, _, v0, v1, v2⟩, ⟨_, _, x0, x1, x2⟩⟩ := hSw; go_simp; try exact rfl
                          try simp only [List.setIfInBounds_toArray, List.set_cons_zero, List.set_cons_succ]
                          refine takeYes (i := 15) (d := 103) (v := ?_) rfl rfl (by kernel_rfl) (by kernel_rfl) (by kernel_rfl) (fun _ _ _ h => h) (by rfl) (by assumption) ?_ ?_
                          rotate_left
                          · intro w' hSw; obtain ⟨⟨_, _, a0, a1, a2⟩, ⟨_, _, c0, c1, c2⟩, ⟨_, _, v0, v1, v2⟩, ⟨_, _, x0, x1, x2⟩⟩ := hSw; go_simp; try exact rfl
                          try simp only [List.setIfInBounds_toArray, List.set_cons_zero, List.set_cons_succ]
                          refine takeYes (i := 16) (d := 104) (v := ?_) rfl rfl (by kernel_rfl) (by kernel_rfl) (by kernel_rfl) (fun _ _ _ h => h) (by rfl) (by assumption) ?_ ?_
                          rotate_left
                          · intro w' hSw; obtain ⟨⟨_, _, a0, a1, a2⟩, ⟨_, _, c0, c1, c2⟩, ⟨_, _, v0, v1, v2⟩, ⟨_, _, x0, x1, x2⟩⟩ := hSw; go_simp; try exact rfl
                          try simp only [List.setIfInBounds_toArray, List.set_cons_zero, List.set_cons_succ]
                          refine takeYes (i := 17) (d := 105) (v := ?_) rfl rfl (by kernel_rfl) (by kernel_rfl) (by kernel_rfl) (fun _ _ _ h => h) (by rfl) (by assumption) ?_ ?_
                          rotate_left
                          · intro w' hSw; obtain ⟨⟨_, _, a0, a1, a2⟩, ⟨_, _, c0, c1, c2⟩, ⟨_, _, v0, v1, v2⟩, ⟨_, _, x0, x1, x2⟩⟩ := hSw; go_simp; try exact rfl
                          try simp only [List.setIfInBounds_toArray, List.set_cons_zero, List.set_cons_succ]
                          refine takeYes (i := 19) (d := 107) (v := ?_) rfl rfl (by kernel_rfl) (by kernel_rfl) (by kernel_rfl) (fun _ _ _ h => h) (by rfl) (by assumption) ?_ ?_
                          rotate_left
                          · intro w' hSw; obtain ⟨⟨_, _, a0, a1, a2⟩, ⟨_, _, c0, c1, c2⟩, ⟨_, _, v0, v1, v2⟩, ⟨_, _, x0, x1, x2⟩⟩ := hSw; go_simp; try exact rfl
                          try simp only [List.setIfInBounds_toArray, List.set_cons_zero, List.set_cons_succ]
                          refine wpAnyH_ready (rs := [18]) (by kernel_rfl) (by simp) ?_
                          refine AllReadyH.cons rfl (fun KK hKK => ?_) AllReadyH.nil
                          go_simp
                          go_at_call 13
                          refine Calls.mono (implIsTrue_any Ko No ⟨#[]⟩ _) ?_
                          rintro x w13 ⟨rfl, hb13⟩
                          have hz13 := hb13.size
                          (try simp at hz13)
                          rw [tO.out]
                          try go_wp2_with fail
                          refine hKK.out _ _ ?_ (fun hHeld18 => ?_)
                          · exact ⟨hA.below (bel), hC.below (bel), hg.below (bel), hh.below (bel)⟩
                          clear hKK
                          refine wpAnyH_ready (rs := [20]) (by kernel_rfl) (by simp) ?_
                          refine AllReadyH.cons rfl (fun KK hKK => ?_) AllReadyH.nil
                          go_simp
                          go_at_call 13
                          refine Calls.mono (implIsTrue_any k n s _) ?_
                          rintro x w14 ⟨rfl, hb14⟩
                          have hz14 := hb14.size
                          (try simp at hz14)
                          rw [ta.out]
                          try go_wp2_with fail
                          refine hKK.out _ _ ?_ (fun hHeld20 => ?_)
                          · exact ⟨hA.below (bel), hC.below (bel), hg.below (bel), hh.below (bel)⟩
                          clear hKK
                          refine takeYes (i := 21) (d := 109) (v := ?_) rfl rfl (by kernel_rfl) (by kernel_rfl) (by kernel_rfl) (fun _ _ _ h => h) (by rfl) (by assumption) ?_ ?_
                          rotate_left
                          · intro w' hSw; obtain ⟨⟨_, _, a0, a1, a2⟩, ⟨_, _, c0, c1, c2⟩, ⟨_, _, v0, v1, v2⟩, ⟨_, _, x0, x1, x2⟩⟩ := hSw; go_simp; try exact rfl
                          try simp only [List.setIfInBounds_toArray, List.set_cons_zero, List.set_cons_succ]
                          refine takeYes (i := 22) (d := 110) (v := ?_) rfl rfl (by kernel_rfl) (by kernel_rfl) (by kernel_rfl) (fun _ _ _ h => h) (by rfl) (by assumption) ?_ ?_
                          rotate_left
                          · intro w' hSw; obtain ⟨⟨_, _, a0, a1, a2⟩, ⟨_, _, c0, c1, c2⟩, ⟨_, _, v0, v1, v2⟩, ⟨_, _, x0, x1, x2⟩⟩ := hSw; go_simp; try exact rfl
                          try simp only [List.setIfInBounds_toArray, List.set_cons_zero, List.set_cons_succ]
                          refine wpAnyH_ready (rs := [23]) (by kernel_rfl) (by simp) ?_
                          refine AllReadyH.cons rfl (fun KK hKK => ?_) AllReadyH.nil
                          go_simp
                          go_at_call 13
                          refine Calls.mono (implIsTrue_any k' n' s' _) ?_
                          rintro x w15 ⟨rfl, hb15⟩
                          have hz15 := hb15.size
                          (try simp at hz15)
                          rw [tb.out]
                          try go_wp2_with fail
                          refine hKK.out _ _ ?_ (fun hHeld23 => ?_)
                          · exact ⟨hA.below (bel), hC.below (bel), hg.below (bel), hh.below (bel)⟩
                          clear hKK
                          refine takeYes (i := 24) (d := 112) (v := ?_) rfl rfl (by kernel_rfl) (by kernel_rfl) (by kernel_rfl) (fun _ _ _ h => h) (by rfl) (by assumption) ?_ ?_
                          rotate_left
                          · intro w' hSw; obtain ⟨⟨_, _, a0, a1, a2⟩, ⟨_, _, c0, c1, c2⟩, ⟨_, _, v0, v1, v2⟩, ⟨_, _, x0, x1, x2⟩⟩ := hSw; go_simp; try exact rfl
                          try simp only [List.setIfInBounds_toArray, List.set_cons_zero, List.set_cons_succ]
                          refine takeYes (i := 25) (d := 113) (v := ?_) rfl rfl (by kernel_rfl) (by kernel_rfl) (by kernel_rfl) (fun _ _ _ h => h) (by rfl) (by assumption) ?_ ?_
                          rotate_left
                          · intro w' hSw; obtain ⟨⟨_, _, a0, a1, a2⟩, ⟨_, _, c0, c1, c2⟩, ⟨_, _, v0, v1, v2⟩, ⟨_, _, x0, x1, x2⟩⟩ := hSw; go_simp; try exact rfl
                          try simp only [List.setIfInBounds_toArray, List.set_cons_zero, List.set_cons_succ]
                          refine takeYes (i := 26) (d := 114) (v := ?_) rfl rfl (by kernel_rfl) (by kernel_rfl) (by kernel_rfl) (fun _ _ _ h => h) (by rfl) (by assumption) ?_ ?_
                          rotate_left
                          · intro w' hSw; obtain ⟨⟨_, _, a0, a1, a2⟩, ⟨_, _, c0, c1, c2⟩, ⟨_, _, v0, v1, v2⟩, ⟨_, _, x0, x1, x2⟩⟩ := hSw; go_simp; try exact rfl
                          try simp only [List.setIfInBounds_toArray, List.set_cons_zero, List.set_cons_succ]
                          refine takeYes (i := 27) (d := 115) (v := ?_) rfl rfl (by kernel_rfl) (by kernel_rfl) (by kernel_rfl) (fun _ _ _ h => h) (by rfl) (by assumption) ?_ ?_
                          rotate_left
                          · intro w' hSw; obtain ⟨⟨_, _, a0, a1, a2⟩, ⟨_, _, c0, c1, c2⟩, ⟨_, _, v0, v1, v2⟩, ⟨_, _, x0, x1, x2⟩⟩ := hSw; go_simp; try exact rfl
                          try simp only [List.setIfInBounds_toArray, List.set_cons_zero, List.set_cons_succ]
                          refine wpAnyH_done (by kernel_rfl) ?_ _
                          go_wp2_with fail
                          (try go_meet)
                          (try (case rel => exact ⟨rfl, bel⟩))
                      · as_aux_lemma =>
                          have ta : Hid (isT k n = false) := et
                          have tb : Hid (isT k' n' = true) := eu
                          clear et eu
                          have tA : Hid (isT Ka Na = false) := by have := Ta.out hoa.out hob.out; rw [ta.out, tb.out] at this; exact this
                          have tO : Hid (isT Ko No = true) := by have := To.out hoa.out hob.out; rw [ta.out, tb.out] at this; exact this
                          refine wp_region_held_drew (S := (fun w' => VarV w' bA k n s ∧ VarV w' bC k' n' s' ∧ VarV w' g Ka Na ⟨#[]⟩ ∧ VarV w' h Ko No ⟨#[]⟩)) (by kernel_rfl) ?_ (fun hHeld => ?_)
                          · exact ⟨hA.below (bel), hC.below (bel), hg.below (bel), hh.below (bel)⟩
                          refine takeYes (i := 0) (d := 88) (v := ?_) rfl rfl (by kernel_rfl) (by kernel_rfl) (by kernel_rfl) (fun _ _ _ h => h) (by rfl) (by assumption) ?_ ?_
                          rotate_left
                          · intro w' hSw; obtain ⟨⟨_, _, a0, a1, a2⟩, ⟨_, _, c0, c1, c2⟩, ⟨_, _, v0, v1, v2⟩, ⟨_, _, x0, x1, x2⟩⟩ := hSw; go_simp; try exact rfl
                          try simp only [List.setIfInBounds_toArray, List.set_cons_zero, List.set_cons_succ]
                          refine wpAnyH_ready (rs := [1]) (by kernel_rfl) (by simp) ?_
                          refine AllReadyH.cons rfl (fun KK hKK => ?_) AllReadyH.nil
                          go_simp
                          go_at_call 15
                          refine Calls.mono (specValueOk_any k n s _ hs2) ?_
                          rintro x w8 ⟨rfl, hb8⟩
                          have hz8 := hb8.size
                          (try simp at hz8)
                          rw [hoa.out]
                          try go_wp2_with fail
                          refine hKK.out _ _ ?_ (fun hHeld1 => ?_)
                          · exact ⟨hA.below (bel), hC.below (bel), hg.below (bel), hh.below (bel)⟩
                          clear hKK
                          refine takeYes (i := 2) (d := 90) (v := ?_) rfl rfl (by kernel_rfl) (by kernel_rfl) (by kernel_rfl) (fun _ _ _ h => h) (by rfl) (by assumption) ?_ ?_
                          rotate_left
                          · intro w' hSw; obtain ⟨⟨_, _, a0, a1, a2⟩, ⟨_, _, c0, c1, c2⟩, ⟨_, _, v0, v1, v2⟩, ⟨_, _, x0, x1, x2⟩⟩ := hSw; go_simp; try exact rfl
                          try simp only [List.setIfInBounds_toArray, List.set_cons_zero, List.set_cons_succ]
                          refine takeYes (i := 3) (d := 91) (v := ?_) rfl rfl (by kernel_rfl) (by kernel_rfl) (by kernel_rfl) (fun _ _ _ h => h) (by rfl) (by assumption) ?_ ?_
                          rotate_left
                          · intro w' hSw; obtain ⟨⟨_, _, a0, a1, a2⟩, ⟨_, _, c0, c1, c2⟩, ⟨_, _, v0, v1, v2⟩, ⟨_, _, x0, x1, x2⟩⟩ := hSw; go_simp; try exact rfl
                          try simp only [List.setIfInBounds_toArray, List.set_cons_zero, List.set_cons_succ]
                          refine wpAnyH_ready (rs := [4]) (by kernel_rfl) (by simp) ?_
                          refine AllReadyH.cons rfl (fun KK hKK => ?_) AllReadyH.nil
                          go_simp
                          go_at_call 15
                          refine Calls.mono (specValueOk_any k' n' s' _ hs2') ?_
                          rintro x w9 ⟨rfl, hb9⟩
                          have hz9 := hb9.size
                          (try simp at hz9)
                          rw [hob.out]
                          try go_wp2_with fail
                          refine hKK.out _ _ ?_ (fun hHeld4 => ?_)
                          · exact ⟨hA.below (bel), hC.below (bel), hg.below (bel), hh.below (bel)⟩
                          clear hKK
                          refine takeYes (i := 5) (d := 93) (v := ?_) rfl rfl (by kernel_rfl) (by kernel_rfl) (by kernel_rfl) (fun _ _ _ h => h) (by rfl) (by assumption) ?_ ?_
                          rotate_left
                          · intro w' hSw; obtain ⟨⟨_, _, a0, a1, a2⟩, ⟨_, _, c0, c1, c2⟩, ⟨_, _, v0, v1, v2⟩, ⟨_, _, x0, x1, x2⟩⟩ := hSw; go_simp; try exact rfl
                          try simp only [List.setIfInBounds_toArray, List.set_cons_zero, List.set_cons_succ]
                          refine takeYes (i := 6) (d := 94) (v := ?_) rfl rfl (by kernel_rfl) (by kernel_rfl) (by kernel_rfl) (fun _ _ _ h => h) (by rfl) (by assumption) ?_ ?_
                          rotate_left
                          · intro w' hSw; obtain ⟨⟨_, _, a0, a1, a2⟩, ⟨_, _, c0, c1, c2⟩, ⟨_, _, v0, v1, v2⟩, ⟨_, _, x0, x1, x2⟩⟩ := hSw; go_simp; try exact rfl
                          try simp only [List.setIfInBounds_toArray, List.set_cons_zero, List.set_cons_succ]
                          refine takeYes (i := 7) (d := 95) (v := ?_) rfl rfl (by kernel_rfl) (by kernel_rfl) (by kernel_rfl) (fun _ _ _ h => h) (by rfl) (by assumption) ?_ ?_
                          rotate_left
                          · intro w' hSw; obtain ⟨⟨_, _, a0, a1, a2⟩, ⟨_, _, c0, c1, c2⟩, ⟨_, _, v0, v1, v2⟩, ⟨_, _, x0, x1, x2⟩⟩ := hSw; go_simp; try exact rfl
                          try simp only [List.setIfInBounds_toArray, List.set_cons_zero, List.set_cons_succ]
                          refine takeYes (i := 9) (d := 97) (v := ?_) rfl rfl (by kernel_rfl) (by kernel_rfl) (by kernel_rfl) (fun _ _ _ h => h) (by rfl) (by assumption) ?_ ?_
                          rotate_left
                          · intro w' hSw; obtain ⟨⟨_, _, a0, a1, a2⟩, ⟨_, _, c0, c1, c2⟩, ⟨_, _, v0, v1, v2⟩, ⟨_, _, x0, x1, x2⟩⟩ := hSw; go_simp; try exact rfl
                          try simp only [List.setIfInBounds_toArray, List.set_cons_zero, List.set_cons_succ]
                          refine wpAnyH_ready (rs := [8]) (by kernel_rfl) (by simp) ?_
                          refine AllReadyH.cons rfl (fun KK hKK => ?_) AllReadyH.nil
                          go_simp
                          go_at_call 13
                          refine Calls.mono (implIsTrue_any Ka Na ⟨#[]⟩ _) ?_
                          rintro x w10 ⟨rfl, hb10⟩
                          have hz10 := hb10.size
                          (try simp at hz10)
                          rw [tA.out]
                          try go_wp2_with fail
                          refine hKK.out _ _ ?_ (fun hHeld8 => ?_)
                          · exact ⟨hA.below (bel), hC.below (bel), hg.below (bel), hh.below (bel)⟩
                          clear hKK
                          refine wpAnyH_ready (rs := [10]) (by kernel_rfl) (by simp) ?_
                          refine AllReadyH.cons rfl (fun KK hKK => ?_) AllReadyH.nil
                          go_simp
                          go_at_call 13
                          refine Calls.mono (implIsTrue_any k n s _) ?_
                          rintro x w11 ⟨rfl, hb11⟩
                          have hz11 := hb11.size
                          (try simp at hz11)
                          rw [ta.out]
                          try go_wp2_with fail
                          refine hKK.out _ _ ?_ (fun hHeld10 => ?_)
                          · exact ⟨hA.below (bel), hC.below (bel), hg.below (bel), hh.below (bel)⟩
                          clear hKK
                          refine takeYes (i := 11) (d := 99) (v := ?_) rfl rfl (by kernel_rfl) (by kernel_rfl) (by kernel_rfl) (fun _ _ _ h => h) (by rfl) (by assumption) ?_ ?_
                          rotate_left
                          · intro w' hSw; obtain ⟨⟨_, _, a0, a1, a2⟩, ⟨_, _, c0, c1, c2⟩, ⟨_, _, v0, v1, v2⟩, ⟨_, _, x0, x1, x2⟩⟩ := hSw; go_simp; try exact rfl
                          try simp only [List.setIfInBounds_toArray, List.set_cons_zero, List.set_cons_succ]
                          refine takeNo (i := 12) (d := 100) rfl rfl (by kernel_rfl) (by kernel_rfl) (by kernel_rfl) (fun _ _ _ h => h) (by rfl) (by assumption) ?_
                          try simp only [List.setIfInBounds_toArray, List.set_cons_zero, List.set_cons_succ]
                          refine wpAnyH_ready (rs := [13]) (by kernel_rfl) (by simp) ?_
                          refine AllReadyH.cons rfl (fun KK hKK => ?_) AllReadyH.nil
                          go_simp
                          refine hKK.out _ _ ?_ (fun hHeld13 => ?_)
                          · exact ⟨hA.below (bel), hC.below (bel), hg.below (bel), hh.below (bel)⟩
                          clear hKK
                          refine takeYes (i := 14) (d := 102) (v := ?_) rfl rfl (by kernel_rfl) (by kernel_rfl) (by kernel_rfl) (fun _ _ _ h => h) (by rfl) (by assumption) ?_ ?_
                          rotate_left
                          · intro w' hSw; obtain ⟨⟨_, _, a0, a1, a2⟩, ⟨_, _, c0, c1, c2⟩, ⟨_, _, v0, v1, v2⟩, ⟨_, _, x0, x1, x2⟩⟩ := hSw; go_simp; try exact rfl
                          try simp only [List.setIfInBounds_toArray, List.set_cons_zero, List.set_cons_succ]
                          refine takeYes (i := 15) (d := 103) (v := ?_) rfl rfl (by kernel_rfl) (by kernel_rfl) (by kernel_rfl) (fun _ _ _ h => h) (by rfl) (by assumption) ?_ ?_
                          rotate_left
                          · intro w' hSw; obtain ⟨⟨_, _, a0, a1, a2⟩, ⟨_, _, c0, c1, c2⟩, ⟨_, _, v0, v1, v2⟩, ⟨_, _, x0, x1, x2⟩⟩ := hSw; go_simp; try exact rfl
                          try simp only [List.setIfInBounds_toArray, List.set_cons_zero, List.set_cons_succ]
                          refine takeYes (i := 16) (d := 104) (v := ?_) rfl rfl (by kernel_rfl) (by kernel_rfl) (by kernel_rfl) (fun _ _ _ h => h) (by rfl) (by assumption) ?_ ?_
                          rotate_left
                          · intro w' hSw; obtain ⟨⟨_, _, a0, a1, a2⟩, ⟨_, _, c0, c1, c2⟩, ⟨_, _, v0, v1, v2⟩, ⟨_, _, x0, x1, x2⟩⟩ := hSw; go_simp; try exact rfl
                          try simp only [List.setIfInBounds_toArray, List.set_cons_zero, List.set_cons_succ]
                          refine takeYes (i := 17) (d := 105) (v := ?_) rfl rfl (by kernel_rfl) (by kernel_rfl) (by kernel_rfl) (fun _ _ _ h => h) (by rfl) (by assumption) ?_ ?_
                          rotate_left
                          · intro w' hSw; obtain ⟨⟨_, _, a0, a1, a2⟩, ⟨_, _, c0, c1, c2⟩, ⟨_, _, v0, v1, v2⟩, ⟨_, _, x0, x1, x2⟩⟩ := hSw; go_simp; try exact rfl
                          try simp only [List.setIfInBounds_toArray, List.set_cons_zero, List.set_cons_succ]
                          refine takeYes (i := 19) (d := 107) (v := ?_) rfl rfl (by kernel_rfl) (by kernel_rfl) (by kernel_rfl) (fun _ _ _ h => h) (by rfl) (by assumption) ?_ ?_
                          rotate_left
                          · intro w' hSw; obtain ⟨⟨_, _, a0, a1, a2⟩, ⟨_, _, c0, c1, c2⟩, ⟨_, _, v0, v1, v2⟩, ⟨_, _, x0, x1, x2⟩⟩ := hSw; go_simp; try exact rfl
                          try simp only [List.setIfInBounds_toArray, List.set_cons_zero, List.set_cons_succ]
                          refine wpAnyH_ready (rs := [18]) (by kernel_rfl) (by simp) ?_
                          refine AllReadyH.cons rfl (fun KK hKK => ?_) AllReadyH.nil
                          go_simp
                          go_at_call 13
                          refine Calls.mono (implIsTrue_any Ko No ⟨#[]⟩ _) ?_
                          rintro x w13 ⟨rfl, hb13⟩
                          have hz13 := hb13.size
                          (try simp at hz13)
                          rw [tO.out]
                          try go_wp2_with fail
                          refine hKK.out _ _ ?_ (fun hHeld18 => ?_)
                          · exact ⟨hA.below (bel), hC.below (bel), hg.below (bel), hh.below (bel)⟩
                          clear hKK
                          refine wpAnyH_ready (rs := [20]) (by kernel_rfl) (by simp) ?_
                          refine AllReadyH.cons rfl (fun KK hKK => ?_) AllReadyH.nil
                          go_simp
                          go_at_call 13
                          refine Calls.mono (implIsTrue_any k n s _) ?_
                          rintro x w14 ⟨rfl, hb14⟩
                          have hz14 := hb14.size
                          (try simp at hz14)
                          rw [ta.out]
                          try go_wp2_with fail
                          refine hKK.out _ _ ?_ (fun hHeld20 => ?_)
                          · exact ⟨hA.below (bel), hC.below (bel), hg.below (bel), hh.below (bel)⟩
                          clear hKK
                          refine takeYes (i := 21) (d := 109) (v := ?_) rfl rfl (by kernel_rfl) (by kernel_rfl) (by kernel_rfl) (fun _ _ _ h => h) (by rfl) (by assumption) ?_ ?_
                          rotate_left
                          · intro w' hSw; obtain ⟨⟨_, _, a0, a1, a2⟩, ⟨_, _, c0, c1, c2⟩, ⟨_, _, v0, v1, v2⟩, ⟨_, _, x0, x1, x2⟩⟩ := hSw; go_simp; try exact rfl
                          try simp only [List.setIfInBounds_toArray, List.set_cons_zero, List.set_cons_succ]
                          refine takeYes (i := 22) (d := 110) (v := ?_) rfl rfl (by kernel_rfl) (by kernel_rfl) (by kernel_rfl) (fun _ _ _ h => h) (by rfl) (by assumption) ?_ ?_
                          rotate_left
                          · intro w' hSw; obtain ⟨⟨_, _, a0, a1, a2⟩, ⟨_, _, c0, c1, c2⟩, ⟨_, _, v0, v1, v2⟩, ⟨_, _, x0, x1, x2⟩⟩ := hSw; go_simp; try exact rfl
                          try simp only [List.setIfInBounds_toArray, List.set_cons_zero, List.set_cons_succ]
                          refine wpAnyH_ready (rs := [23]) (by kernel_rfl) (by simp) ?_
                          refine AllReadyH.cons rfl (fun KK hKK => ?_) AllReadyH.nil
                          go_simp
                          go_at_call 13
                          refine Calls.mono (implIsTrue_any k' n' s' _) ?_
                          rintro x w15 ⟨rfl, hb15⟩
                          have hz15 := hb15.size
                          (try simp at hz15)
                          rw [tb.out]
                          try go_wp2_with fail
                          refine hKK.out _ _ ?_ (fun hHeld23 => ?_)
                          · exact ⟨hA.below (bel), hC.below (bel), hg.below (bel), hh.below (bel)⟩
                          clear hKK
                          refine takeYes (i := 24) (d := 112) (v := ?_) rfl rfl (by kernel_rfl) (by kernel_rfl) (by kernel_rfl) (fun _ _ _ h => h) (by rfl) (by assumption) ?_ ?_
                          rotate_left
                          · intro w' hSw; obtain ⟨⟨_, _, a0, a1, a2⟩, ⟨_, _, c0, c1, c2⟩, ⟨_, _, v0, v1, v2⟩, ⟨_, _, x0, x1, x2⟩⟩ := hSw; go_simp; try exact rfl
                          try simp only [List.setIfInBounds_toArray, List.set_cons_zero, List.set_cons_succ]
                          refine takeYes (i := 25) (d := 113) (v := ?_) rfl rfl (by kernel_rfl) (by kernel_rfl) (by kernel_rfl) (fun _ _ _ h => h) (by rfl) (by assumption) ?_ ?_
                          rotate_left
                          · intro w' hSw; obtain ⟨⟨_, _, a0, a1, a2⟩, ⟨_, _, c0, c1, c2⟩, ⟨_, _, v0, v1, v2⟩, ⟨_, _, x0, x1, x2⟩⟩ := hSw; go_simp; try exact rfl
                          try simp only [List.setIfInBounds_toArray, List.set_cons_zero, List.set_cons_succ]
                          refine takeYes (i := 26) (d := 114) (v := ?_) rfl rfl (by kernel_rfl) (by kernel_rfl) (by kernel_rfl) (fun _ _ _ h => h) (by rfl) (by assumption) ?_ ?_
                          rotate_left
                          · intro w' hSw; obtain ⟨⟨_, _, a0, a1, a2⟩, ⟨_, _, c0, c1, c2⟩, ⟨_, _, v0, v1, v2⟩, ⟨_, _, x0, x1, x2⟩⟩ := hSw; go_simp; try exact rfl
                          try simp only [List.setIfInBounds_toArray, List.set_cons_zero, List.set_cons_succ]
                          refine takeYes (i := 27) (d := 115) (v := ?_) rfl rfl (by kernel_rfl) (by kernel_rfl) (by kernel_rfl) (fun _ _ _ h => h) (by rfl) (by assumption) ?_ ?_
                          rotate_left
                          · intro w' hSw; obtain ⟨⟨_, _, a0, a1, a2⟩, ⟨_, _, c0, c1, c2⟩, ⟨_, _, v0, v1, v2⟩, ⟨_, _, x0, x1, x2⟩⟩ := hSw; go_simp; try exact rfl
                          try simp only [List.setIfInBounds_toArray, List.set_cons_zero, List.set_cons_succ]
                          refine wpAnyH_done (by kernel_rfl) ?_ _
                          go_wp2_with fail
                          (try go_meet)
                          (try (case rel => exact ⟨rfl, bel⟩))
                    · cases eu : isT k' n'
                      · as_aux_lemma =>
                          have ta : Hid (isT k n = true) := et
                          have tb : Hid (isT k' n' = false) := eu
                          clear et eu
                          have tA : Hid (isT Ka Na = false) := by have := Ta.out hoa.out hob.out; rw [ta.out, tb.out] at this; exact this
                          have tO : Hid (isT Ko No = true) := by have := To.out hoa.out hob.out; rw [ta.out, tb.out] at this; exact this
                          refine wp_region_held_drew (S := (fun w' => VarV w' bA k n s ∧ VarV w' bC k' n' s' ∧ VarV w' g Ka Na ⟨#[]⟩ ∧ VarV w' h Ko No ⟨#[]⟩)) (by kernel_rfl) ?_ (fun hHeld => ?_)
                          · exact ⟨hA.below (bel), hC.below (bel), hg.below (bel), hh.below (bel)⟩
                          refine takeYes (i := 0) (d := 88) (v := ?_) rfl rfl (by kernel_rfl) (by kernel_rfl) (by kernel_rfl) (fun _ _ _ h => h) (by rfl) (by assumption) ?_ ?_
                          rotate_left
                          · intro w' hSw; obtain ⟨⟨_, _, a0, a1, a2⟩, ⟨_, _, c0, c1, c2⟩, ⟨_, _, v0, v1, v2⟩, ⟨_, _, x0, x1, x2⟩⟩ := hSw; go_simp; try exact rfl
                          try simp only [List.setIfInBounds_toArray, List.set_cons_zero, List.set_cons_succ]
                          refine wpAnyH_ready (rs := [1]) (by kernel_rfl) (by simp) ?_
                          refine AllReadyH.cons rfl (fun KK hKK => ?_) AllReadyH.nil
                          go_simp
                          go_at_call 15
                          refine Calls.mono (specValueOk_any k n s _ hs2) ?_
                          rintro x w8 ⟨rfl, hb8⟩
                          have hz8 := hb8.size
                          (try simp at hz8)
                          rw [hoa.out]
                          try go_wp2_with fail
                          refine hKK.out _ _ ?_ (fun hHeld1 => ?_)
                          · exact ⟨hA.below (bel), hC.below (bel), hg.below (bel), hh.below (bel)⟩
                          clear hKK
                          refine takeYes (i := 2) (d := 90) (v := ?_) rfl rfl (by kernel_rfl) (by kernel_rfl) (by kernel_rfl) (fun _ _ _ h => h) (by rfl) (by assumption) ?_ ?_
                          rotate_left
                          · intro w' hSw; obtain ⟨⟨_, _, a0, a1, a2⟩, ⟨_, _, c0, c1, c2⟩, ⟨_, _, v0, v1, v2⟩, ⟨_, _, x0, x1, x2⟩⟩ := hSw; go_simp; try exact rfl
                          try simp only [List.setIfInBounds_toArray, List.set_cons_zero, List.set_cons_succ]
                          refine takeYes (i := 3) (d := 91) (v := ?_) rfl rfl (by kernel_rfl) (by kernel_rfl) (by kernel_rfl) (fun _ _ _ h => h) (by rfl) (by assumption) ?_ ?_
                          rotate_left
                          · intro w' hSw; obtain ⟨⟨_, _, a0, a1, a2⟩, ⟨_, _, c0, c1, c2⟩, ⟨_, _, v0, v1, v2⟩, ⟨_, _, x0, x1, x2⟩⟩ := hSw; go_simp; try exact rfl
                          try simp only [List.setIfInBounds_toArray, List.set_cons_zero, List.set_cons_succ]
                          refine wpAnyH_ready (rs := [4]) (by kernel_rfl) (by simp) ?_
                          refine AllReadyH.cons rfl (fun KK hKK => ?_) AllReadyH.nil
                          go_simp
                          go_at_call 15
                          refine Calls.mono (specValueOk_any k' n' s' _ hs2') ?_
                          rintro x w9 ⟨rfl, hb9⟩
                          have hz9 := hb9.size
                          (try simp at hz9)
                          rw [hob.out]
                          try go_wp2_with fail
                          refine hKK.out _ _ ?_ (fun hHeld4 => ?_)
                          · exact ⟨hA.below (bel), hC.below (bel), hg.below (bel), hh.below (bel)⟩
                          clear hKK
                          refine takeYes (i := 5) (d := 93) (v := ?_) rfl rfl (by kernel_rfl) (by kernel_rfl) (by kernel_rfl) (fun _ _ _ h => h) (by rfl) (by assumption) ?_ ?_
                          rotate_left
                          · intro w' hSw; obtain ⟨⟨_, _, a0, a1, a2⟩, ⟨_, _, c0, c1, c2⟩, ⟨_, _, v0, v1, v2⟩, ⟨_, _, x0, x1, x2⟩⟩ := hSw; go_simp; try exact rfl
                          try simp only [List.setIfInBounds_toArray, List.set_cons_zero, List.set_cons_succ]
                          refine takeYes (i := 6) (d := 94) (v := ?_) rfl rfl (by kernel_rfl) (by kernel_rfl) (by kernel_rfl) (fun _ _ _ h => h) (by rfl) (by assumption) ?_ ?_
                          rotate_left
                          · intro w' hSw; obtain ⟨⟨_, _, a0, a1, a2⟩, ⟨_, _, c0, c1, c2⟩, ⟨_, _, v0, v1, v2⟩, ⟨_, _, x0, x1, x2⟩⟩ := hSw; go_simp; try exact rfl
                          try simp only [List.setIfInBounds_toArray, List.set_cons_zero, List.set_cons_succ]
                          refine takeYes (i := 7) (d := 95) (v := ?_) rfl rfl (by kernel_rfl) (by kernel_rfl) (by kernel_rfl) (fun _ _ _ h => h) (by rfl) (by assumption) ?_ ?_
                          rotate_left
                          · intro w' hSw; obtain ⟨⟨_, _, a0, a1, a2⟩, ⟨_, _, c0, c1, c2⟩, ⟨_, _, v0, v1, v2⟩, ⟨_, _, x0, x1, x2⟩⟩ := hSw; go_simp; try exact rfl
                          try simp only [List.setIfInBounds_toArray, List.set_cons_zero, List.set_cons_succ]
                          refine takeYes (i := 9) (d := 97) (v := ?_) rfl rfl (by kernel_rfl) (by kernel_rfl) (by kernel_rfl) (fun _ _ _ h => h) (by rfl) (by assumption) ?_ ?_
                          rotate_left
                          · intro w' hSw; obtain ⟨⟨_, _, a0, a1, a2⟩, ⟨_, _, c0, c1, c2⟩, ⟨_, _, v0, v1, v2⟩, ⟨_, _, x0, x1, x2⟩⟩ := hSw; go_simp; try exact rfl
                          try simp only [List.setIfInBounds_toArray, List.set_cons_zero, List.set_cons_succ]
                          refine wpAnyH_ready (rs := [8]) (by kernel_rfl) (by simp) ?_
                          refine AllReadyH.cons rfl (fun KK hKK => ?_) AllReadyH.nil
                          go_simp
                          go_at_call 13
                          refine Calls.mono (implIsTrue_any Ka Na ⟨#[]⟩ _) ?_
                          rintro x w10 ⟨rfl, hb10⟩
                          have hz10 := hb10.size
                          (try simp at hz10)
                          rw [tA.out]
                          try go_wp2_with fail
                          refine hKK.out _ _ ?_ (fun hHeld8 => ?_)
                          · exact ⟨hA.below (bel), hC.below (bel), hg.below (bel), hh.below (bel)⟩
                          clear hKK
                          refine wpAnyH_ready (rs := [10]) (by kernel_rfl) (by simp) ?_
                          refine AllReadyH.cons rfl (fun KK hKK => ?_) AllReadyH.nil
                          go_simp
                          go_at_call 13
                          refine Calls.mono (implIsTrue_any k n s _) ?_
                          rintro x w11 ⟨rfl, hb11⟩
                          have hz11 := hb11.size
                          (try simp at hz11)
                          rw [ta.out]
                          try go_wp2_with fail
                          refine hKK.out _ _ ?_ (fun hHeld10 => ?_)
                          · exact ⟨hA.below (bel), hC.below (bel), hg.below (bel), hh.below (bel)⟩
                          clear hKK
                          refine takeYes (i := 11) (d := 99) (v := ?_) rfl rfl (by kernel_rfl) (by kernel_rfl) (by kernel_rfl) (fun _ _ _ h => h) (by rfl) (by assumption) ?_ ?_
                          rotate_left
                          · intro w' hSw; obtain ⟨⟨_, _, a0, a1, a2⟩, ⟨_, _, c0, c1, c2⟩, ⟨_, _, v0, v1, v2⟩, ⟨_, _, x0, x1, x2⟩⟩ := hSw; go_simp; try exact rfl
                          try simp only [List.setIfInBounds_toArray, List.set_cons_zero, List.set_cons_succ]
                          refine takeYes (i := 12) (d := 100) (v := ?_) rfl rfl (by kernel_rfl) (by kernel_rfl) (by kernel_rfl) (fun _ _ _ h => h) (by rfl) (by assumption) ?_ ?_
                          rotate_left
                          · intro w' hSw; obtain ⟨⟨_, _, a0, a1, a2⟩, ⟨_, _, c0, c1, c2⟩, ⟨_, _, v0, v1, v2⟩, ⟨_, _, x0, x1, x2⟩⟩ := hSw; go_simp; try exact rfl
                          try simp only [List.setIfInBounds_toArray, List.set_cons_zero, List.set_cons_succ]
                          refine wpAnyH_ready (rs := [13]) (by kernel_rfl) (by simp) ?_
                          refine AllReadyH.cons rfl (fun KK hKK => ?_) AllReadyH.nil
                          go_simp
                          go_at_call 13
                          refine Calls.mono (implIsTrue_any k' n' s' _) ?_
                          rintro x w12 ⟨rfl, hb12⟩
                          have hz12 := hb12.size
                          (try simp at hz12)
                          rw [tb.out]
                          try go_wp2_with fail
                          refine hKK.out _ _ ?_ (fun hHeld13 => ?_)
                          · exact ⟨hA.below (bel), hC.below (bel), hg.below (bel), hh.below (bel)⟩
                          clear hKK
                          refine takeYes (i := 14) (d := 102) (v := ?_) rfl rfl (by kernel_rfl) (by kernel_rfl) (by kernel_rfl) (fun _ _ _ h => h) (by rfl) (by assumption) ?_ ?_
                          rotate_left
                          · intro w' hSw; obtain ⟨⟨_, _, a0, a1, a2⟩, ⟨_, _, c0, c1, c2⟩, ⟨_, _, v0, v1, v2⟩, ⟨_, _, x0, x1, x2⟩⟩ := hSw; go_simp; try exact rfl
                          try simp only [List.setIfInBounds_toArray, List.set_cons_zero, List.set_cons_succ]
                          refine takeYes (i := 15) (d := 103) (v := ?_) rfl rfl (by kernel_rfl) (by kernel_rfl) (by kernel_rfl) (fun _ _ _ h => h) (by rfl) (by assumption) ?_ ?_
                          rotate_left
                          · intro w' hSw; obtain ⟨⟨_, _, a0, a1, a2⟩, ⟨_, _, c0, c1, c2⟩, ⟨_, _, v0, v1, v2⟩, ⟨_, _, x0, x1, x2⟩⟩ := hSw; go_simp; try exact rfl
                          try simp only [List.setIfInBounds_toArray, List.set_cons_zero, List.set_cons_succ]
                          refine takeYes (i := 16) (d := 104) (v := ?_) rfl rfl (by kernel_rfl) (by kernel_rfl) (by kernel_rfl) (fun _ _ _ h => h) (by rfl) (by assumption) ?_ ?_
                          rotate_left
                          · intro w' hSw; obtain ⟨⟨_, _, a0, a1, a2⟩, ⟨_, _, c0, c1, c2⟩, ⟨_, _, v0, v1, v2⟩, ⟨_, _, x0, x1, x2⟩⟩ := hSw; go_simp; try exact rfl
                          try simp only [List.setIfInBounds_toArray, List.set_cons_zero, List.set_cons_succ]
                          refine takeYes (i := 17) (d := 105) (v := ?_) rfl rfl (by kernel_rfl) (by kernel_rfl) (by kernel_rfl) (fun _ _ _ h => h) (by rfl) (by assumption) ?_ ?_
                          rotate_left
                          · intro w' hSw; obtain ⟨⟨_, _, a0, a1, a2⟩, ⟨_, _, c0, c1, c2⟩, ⟨_, _, v0, v1, v2⟩, ⟨_, _, x0, x1, x2⟩⟩ := hSw; go_simp; try exact rfl
                          try simp only [List.setIfInBounds_toArray, List.set_cons_zero, List.set_cons_succ]
                          refine takeYes (i := 19) (d := 107) (v := ?_) rfl rfl (by kernel_rfl) (by kernel_rfl) (by kernel_rfl) (fun _ _ _ h => h) (by rfl) (by assumption) ?_ ?_
                          rotate_left
                          · intro w' hSw; obtain ⟨⟨_, _, a0, a1, a2⟩, ⟨_, _, c0, c1, c2⟩, ⟨_, _, v0, v1, v2⟩, ⟨_, _, x0, x1, x2⟩⟩ := hSw; go_simp; try exact rfl
                          try simp only [List.setIfInBounds_toArray, List.set_cons_zero, List.set_cons_succ]
                          refine wpAnyH_ready (rs := [18]) (by kernel_rfl) (by simp) ?_
                          refine AllReadyH.cons rfl (fun KK hKK => ?_) AllReadyH.nil
                          go_simp
                          go_at_call 13
                          refine Calls.mono (implIsTrue_any Ko No ⟨#[]⟩ _) ?_
                          rintro x w13 ⟨rfl, hb13⟩
                          have hz13 := hb13.size
                          (try simp at hz13)
                          rw [tO.out]
                          try go_wp2_with fail
                          refine hKK.out _ _ ?_ (fun hHeld18 => ?_)
                          · exact ⟨hA.below (bel), hC.below (bel), hg.below (bel), hh.below (bel)⟩
                          clear hKK
                          refine wpAnyH_ready (rs := [20]) (by kernel_rfl) (by simp) ?_
                          refine AllReadyH.cons rfl (fun KK hKK => ?_) AllReadyH.nil
                          go_simp
                          go_at_call 13
                          refine Calls.mono (implIsTrue_any k n s _) ?_
                          rintro x w14 ⟨rfl, hb14⟩
                          have hz14 := hb14.size
                          (try simp at hz14)
                          rw [ta.out]
                          try go_wp2_with fail
                          refine hKK.out _ _ ?_ (fun hHeld20 => ?_)
                          · exact ⟨hA.below (bel), hC.below (bel), hg.below (bel), hh.below (bel)⟩
                          clear hKK
                          refine takeYes (i := 21) (d := 109) (v := ?_) rfl rfl (by kernel_rfl) (by kernel_rfl) (by kernel_rfl) (fun _ _ _ h => h) (by rfl) (by assumption) ?_ ?_
                          rotate_left
                          · intro w' hSw; obtain ⟨⟨_, _, a0, a1, a2⟩, ⟨_, _, c0, c1, c2⟩, ⟨_, _, v0, v1, v2⟩, ⟨_, _, x0, x1, x2⟩⟩ := hSw; go_simp; try exact rfl
                          try simp only [List.setIfInBounds_toArray, List.set_cons_zero, List.set_cons_succ]
                          refine takeNo (i := 22) (d := 110) rfl rfl (by kernel_rfl) (by kernel_rfl) (by kernel_rfl) (fun _ _ _ h => h) (by rfl) (by assumption) ?_
                          try simp only [List.setIfInBounds_toArray, List.set_cons_zero, List.set_cons_succ]
                          refine wpAnyH_ready (rs := [23]) (by kernel_rfl) (by simp) ?_
                          refine AllReadyH.cons rfl (fun KK hKK => ?_) AllReadyH.nil
                          go_simp
                          refine hKK.out _ _ ?_ (fun hHeld23 => ?_)
                          · exact ⟨hA.below (bel), hC.below (bel), hg.below (bel), hh.below (bel)⟩
                          clear hKK
                          refine takeYes (i := 24) (d := 112) (v := ?_) rfl rfl (by kernel_rfl) (by kernel_rfl) (by kernel_rfl) (fun _ _ _ h => h) (by rfl) (by assumption) ?_ ?_
                          rotate_left
                          · intro w' hSw; obtain ⟨⟨_, _, a0, a1, a2⟩, ⟨_, _, c0, c1, c2⟩, ⟨_, _, v0, v1, v2⟩, ⟨_, _, x0, x1, x2⟩⟩ := hSw; go_simp; try exact rfl
                          try simp only [List.setIfInBounds_toArray, List.set_cons_zero, List.set_cons_succ]
                          refine takeYes (i := 25) (d := 113) (v := ?_) rfl rfl (by kernel_rfl) (by kernel_rfl) (by kernel_rfl) (fun _ _ _ h => h) (by rfl) (by assumption) ?_ ?_
                          rotate_left
                          · intro w' hSw; obtain ⟨⟨_, _, a0, a1, a2⟩, ⟨_, _, c0, c1, c2⟩, ⟨_, _, v0, v1, v2⟩, ⟨_, _, x0, x1, x2⟩⟩ := hSw; go_simp; try exact rfl
                          try simp only [List.setIfInBounds_toArray, List.set_cons_zero, List.set_cons_succ]
                          refine takeYes (i := 26) (d := 114) (v := ?_) rfl rfl (by kernel_rfl) (by kernel_rfl) (by kernel_rfl) (fun _ _ _ h => h) (by rfl) (by assumption) ?_ ?_
                          rotate_left
                          · intro w' hSw; obtain ⟨⟨_, _, a0, a1, a2⟩, ⟨_, _, c0, c1, c2⟩, ⟨_, _, v0, v1, v2⟩, ⟨_, _, x0, x1, x2⟩⟩ := hSw; go_simp; try exact rfl
                          try simp only [List.setIfInBounds_toArray, List.set_cons_zero, List.set_cons_succ]
                          refine takeYes (i := 27) (d := 115) (v := ?_) rfl rfl (by kernel_rfl) (by kernel_rfl) (by kernel_rfl) (fun _ _ _ h => h) (by rfl) (by assumption) ?_ ?_
                          rotate_left
                          · intro w' hSw; obtain ⟨⟨_, _, a0, a1, a2⟩, ⟨_, _, c0, c1, c2⟩, ⟨_, _, v0, v1, v2⟩, ⟨_, _, x0, x1, x2⟩⟩ := hSw; go_simp; try exact rfl
                          try simp only [List.setIfInBounds_toArray, List.set_cons_zero, List.set_cons_succ]
                          refine wpAnyH_done (by kernel_rfl) ?_ _
                          go_wp2_with fail
                          (try go_meet)
                          (try (case rel => exact ⟨rfl, bel⟩))
                      · as_aux_lemma =>
                          have ta : Hid (isT k n = true) := et
                          have tb : Hid (isT k' n' = true) := eu
                          clear et eu
                          have tA : Hid (isT Ka Na = true) := by have := Ta.out hoa.out hob.out; rw [ta.out, tb.out] at this; exact this
                          have tO : Hid (isT Ko No = true) := by have := To.out hoa.out hob.out; rw [ta.out, tb.out] at this; exact this
                          refine wp_region_held_drew (S := (fun w' => VarV w' bA k n s ∧ VarV w' bC k' n' s' ∧ VarV w' g Ka Na ⟨#[]⟩ ∧ VarV w' h Ko No ⟨#[]⟩)) (by kernel_rfl) ?_ (fun hHeld => ?_)
                          · exact ⟨hA.below (bel), hC.below (bel), hg.below (bel), hh.below (bel)⟩
                          refine takeYes (i := 0) (d := 88) (v := ?_) rfl rfl (by kernel_rfl) (by kernel_rfl) (by kernel_rfl) (fun _ _ _ h => h) (by rfl) (by assumption) ?_ ?_
                          rotate_left
                          · intro w' hSw; obtain ⟨⟨_, _, a0, a1, a2⟩, ⟨_, _, c0, c1, c2⟩, ⟨_, _, v0, v1, v2⟩, ⟨_, _, x0, x1, x2⟩⟩ := hSw; go_simp; try exact rfl
                          try simp only [List.setIfInBounds_toArray, List.set_cons_zero, List.set_cons_succ]
                          refine wpAnyH_ready (rs := [1]) (by kernel_rfl) (by simp) ?_
                          refine AllReadyH.cons rfl (fun KK hKK => ?_) AllReadyH.nil
                          go_simp
                          go_at_call 15
                          refine Calls.mono (specValueOk_any k n s _ hs2) ?_
                          rintro x w8 ⟨rfl, hb8⟩
                          have hz8 := hb8.size
                          (try simp at hz8)
                          rw [hoa.out]
                          try go_wp2_with fail
                          refine hKK.out _ _ ?_ (fun hHeld1 => ?_)
                          · exact ⟨hA.below (bel), hC.below (bel), hg.below (bel), hh.below (bel)⟩
                          clear hKK
                          refine takeYes (i := 2) (d := 90) (v := ?_) rfl rfl (by kernel_rfl) (by kernel_rfl) (by kernel_rfl) (fun _ _ _ h => h) (by rfl) (by assumption) ?_ ?_
                          rotate_left
                          · intro w' hSw; obtain ⟨⟨_, _, a0, a1, a2⟩, ⟨_, _, c0, c1, c2⟩, ⟨_, _, v0, v1, v2⟩, ⟨_, _, x0, x1, x2⟩⟩ := hSw; go_simp; try exact rfl
                          try simp only [List.setIfInBounds_toArray, List.set_cons_zero, List.set_cons_succ]
                          refine takeYes (i := 3) (d := 91) (v := ?_) rfl rfl (by kernel_rfl) (by kernel_rfl) (by kernel_rfl) (fun _ _ _ h => h) (by rfl) (by assumption) ?_ ?_
                          rotate_left
                          · intro w' hSw; obtain ⟨⟨_, _, a0, a1, a2⟩, ⟨_, _, c0, c1, c2⟩, ⟨_, _, v0, v1, v2⟩, ⟨_, _, x0, x1, x2⟩⟩ := hSw; go_simp; try exact rfl
                          try simp only [List.setIfInBounds_toArray, List.set_cons_zero, List.set_cons_succ]
                          refine wpAnyH_ready (rs := [4]) (by kernel_rfl) (by simp) ?_
                          refine AllReadyH.cons rfl (fun KK hKK => ?_) AllReadyH.nil
                          go_simp
                          go_at_call 15
                          refine Calls.mono (specValueOk_any k' n' s' _ hs2') ?_
                          rintro x w9 ⟨rfl, hb9⟩
                          have hz9 := hb9.size
                          (try simp at hz9)
                          rw [hob.out]
                          try go_wp2_with fail
                          refine hKK.out _ _ ?_ (fun hHeld4 => ?_)
                          · exact ⟨hA.below (bel), hC.below (bel), hg.below (bel), hh.below (bel)⟩
                          clear hKK
                          refine takeYes (i := 5) (d := 93) (v := ?_) rfl rfl (by kernel_rfl) (by kernel_rfl) (by kernel_rfl) (fun _ _ _ h => h) (by rfl) (by assumption) ?_ ?_
                          rotate_left
                          · intro w' hSw; obtain ⟨⟨_, _, a0, a1, a2⟩, ⟨_, _, c0, c1, c2⟩, ⟨_, _, v0, v1, v2⟩, ⟨_, _, x0, x1, x2⟩⟩ := hSw; go_simp; try exact rfl
                          try simp only [List.setIfInBounds_toArray, List.set_cons_zero, List.set_cons_succ]
                          refine takeYes (i := 6) (d := 94) (v := ?_) rfl rfl (by kernel_rfl) (by kernel_rfl) (by kernel_rfl) (fun _ _ _ h => h) (by rfl) (by assumption) ?_ ?_
                          rotate_left
                          · intro w' hSw; obtain ⟨⟨_, _, a0, a1, a2⟩, ⟨_, _, c0, c1, c2⟩, ⟨_, _, v0, v1, v2⟩, ⟨_, _, x0, x1, x2⟩⟩ := hSw; go_simp; try exact rfl
                          try simp only [List.setIfInBounds_toArray, List.set_cons_zero, List.set_cons_succ]
                          refine takeYes (i := 7) (d := 95) (v := ?_) rfl rfl (by kernel_rfl) (by kernel_rfl) (by kernel_rfl) (fun _ _ _ h => h) (by rfl) (by assumption) ?_ ?_
                          rotate_left
                          · intro w' hSw; obtain ⟨⟨_, _, a0, a1, a2⟩, ⟨_, _, c0, c1, c2⟩, ⟨_, _, v0, v1, v2⟩, ⟨_, _, x0, x1, x2⟩⟩ := hSw; go_simp; try exact rfl
                          try simp only [List.setIfInBounds_toArray, List.set_cons_zero, List.set_cons_succ]
                          refine takeYes (i := 9) (d := 97) (v := ?_) rfl rfl (by kernel_rfl) (by kernel_rfl) (by kernel_rfl) (fun _ _ _ h => h) (by rfl) (by assumption) ?_ ?_
                          rotate_left
                          · intro w' hSw; obtain ⟨⟨_, _, a0, a1, a2⟩, ⟨_, _, c0, c1, c2⟩, ⟨_, _, v0, v1, v2⟩, ⟨_, _, x0, x1, x2⟩⟩ := hSw; go_simp; try exact rfl
                          try simp only [List.setIfInBounds_toArray, List.set_cons_zero, List.set_cons_succ]
                          refine wpAnyH_ready (rs := [8]) (by kernel_rfl) (by simp) ?_
                          refine AllReadyH.cons rfl (fun KK hKK => ?_) AllReadyH.nil
                          go_simp
                          go_at_call 13
                          refine Calls.mono (implIsTrue_any Ka Na ⟨#[]⟩ _) ?_
                          rintro x w10 ⟨rfl, hb10⟩
                          have hz10 := hb10.size
                          (try simp at hz10)
                          rw [tA.out]
                          try go_wp2_with fail
                          refine hKK.out _ _ ?_ (fun hHeld8 => ?_)
                          · exact ⟨hA.below (bel), hC.below (bel), hg.below (bel), hh.below (bel)⟩
                          clear hKK
                          refine wpAnyH_ready (rs := [10]) (by kernel_rfl) (by simp) ?_
                          refine AllReadyH.cons rfl (fun KK hKK => ?_) AllReadyH.nil
                          go_simp
                          go_at_call 13
                          refine Calls.mono (implIsTrue_any k n s _) ?_
                          rintro x w11 ⟨rfl, hb11⟩
                          have hz11 := hb11.size
                          (try simp at hz11)
                          rw [ta.out]
                          try go_wp2_with fail
                          refine hKK.out _ _ ?_ (fun hHeld10 => ?_)
                          · exact ⟨hA.below (bel), hC.below (bel), hg.below (bel), hh.below (bel)⟩
                          clear hKK
                          refine takeYes (i := 11) (d := 99) (v := ?_) rfl rfl (by kernel_rfl) (by kernel_rfl) (by kernel_rfl) (fun _ _ _ h => h) (by rfl) (by assumption) ?_ ?_
                          rotate_left
                          · intro w' hSw; obtain ⟨⟨_, _, a0, a1, a2⟩, ⟨_, _, c0, c1, c2⟩, ⟨_, _, v0, v1, v2⟩, ⟨_, _, x0, x1, x2⟩⟩ := hSw; go_simp; try exact rfl
                          try simp only [List.setIfInBounds_toArray, List.set_cons_zero, List.set_cons_succ]
                          refine takeYes (i := 12) (d := 100) (v := ?_) rfl rfl (by kernel_rfl) (by kernel_rfl) (by kernel_rfl) (fun _ _ _ h => h) (by rfl) (by assumption) ?_ ?_
                          rotate_left
                          · intro w' hSw; obtain ⟨⟨_, _, a0, a1, a2⟩, ⟨_, _, c0, c1, c2⟩, ⟨_, _, v0, v1, v2⟩, ⟨_, _, x0, x1, x2⟩⟩ := hSw; go_simp; try exact rfl
                          try simp only [List.setIfInBounds_toArray, List.set_cons_zero, List.set_cons_succ]
                          refine wpAnyH_ready (rs := [13]) (by kernel_rfl) (by simp) ?_
                          refine AllReadyH.cons rfl (fun KK hKK => ?_) AllReadyH.nil
                          go_simp
                          go_at_call 13
                          refine Calls.mono (implIsTrue_any k' n' s' _) ?_
                          rintro x w12 ⟨rfl, hb12⟩
                          have hz12 := hb12.size
                          (try simp at hz12)
                          rw [tb.out]
                          try go_wp2_with fail
                          refine hKK.out _ _ ?_ (fun hHeld13 => ?_)
                          · exact ⟨hA.below (bel), hC.below (bel), hg.below (bel), hh.below (bel)⟩
                          clear hKK
                          refine takeYes (i := 14) (d := 102) (v := ?_) rfl rfl (by kernel_rfl) (by kernel_rfl) (by kernel_rfl) (fun _ _ _ h => h) (by rfl) (by assumption) ?_ ?_
                          rotate_left
                          · intro w' hSw; obtain ⟨⟨_, _, a0, a1, a2⟩, ⟨_, _, c0, c1, c2⟩, ⟨_, _, v0, v1, v2⟩, ⟨_, _, x0, x1, x2⟩⟩ := hSw; go_simp; try exact rfl
                          try simp only [List.setIfInBounds_toArray, List.set_cons_zero, List.set_cons_succ]
                          refine takeYes (i := 15) (d := 103) (v := ?_) rfl rfl (by kernel_rfl) (by kernel_rfl) (by kernel_rfl) (fun _ _ _ h => h) (by rfl) (by assumption) ?_ ?_
                          rotate_left
                          · intro w' hSw; obtain ⟨⟨_, _, a0, a1, a2⟩, ⟨_, _, c0, c1, c2⟩, ⟨_, _, v0, v1, v2⟩, ⟨_, _, x0, x1, x2⟩⟩ := hSw; go_simp; try exact rfl
                          try simp only [List.setIfInBounds_toArray, List.set_cons_zero, List.set_cons_succ]
                          refine takeYes (i := 16) (d := 104) (v := ?_) rfl rfl (by kernel_rfl) (by kernel_rfl) (by kernel_rfl) (fun _ _ _ h => h) (by rfl) (by assumption) ?_ ?_
                          rotate_left
                          · intro w' hSw; obtain ⟨⟨_, _, a0, a1, a2⟩, ⟨_, _, c0, c1, c2⟩, ⟨_, _, v0, v1, v2⟩, ⟨_, _, x0, x1, x2⟩⟩ := hSw; go_simp; try exact rfl
                          try simp only [List.setIfInBounds_toArray, List.set_cons_zero, List.set_cons_succ]
                          refine takeYes (i := 17) (d := 105) (v := ?_) rfl rfl (by kernel_rfl) (by kernel_rfl) (by kernel_rfl) (fun _ _ _ h => h) (by rfl) (by assumption) ?_ ?_
                          rotate_left
                          · intro w' hSw; obtain ⟨⟨_, _, a0, a1, a2⟩, ⟨_, _, c0, c1, c2⟩, ⟨_, _, v0, v1, v2⟩, ⟨_, _, x0, x1, x2⟩⟩ := hSw; go_simp; try exact rfl
                          try simp only [List.setIfInBounds_toArray, List.set_cons_zero, List.set_cons_succ]
                          refine takeYes (i := 19) (d := 107) (v := ?_) rfl rfl (by kernel_rfl) (by kernel_rfl) (by kernel_rfl) (fun _ _ _ h => h) (by rfl) (by assumption) ?_ ?_
                          rotate_left
                          · intro w' hSw; obtain ⟨⟨_, _, a0, a1, a2⟩, ⟨_, _, c0, c1, c2⟩, ⟨_, _, v0, v1, v2⟩, ⟨_, _, x0, x1, x2⟩⟩ := hSw; go_simp; try exact rfl
                          try simp only [List.setIfInBounds_toArray, List.set_cons_zero, List.set_cons_succ]
                          refine wpAnyH_ready (rs := [18]) (by kernel_rfl) (by simp) ?_
                          refine AllReadyH.cons rfl (fun KK hKK => ?_) AllReadyH.nil
                          go_simp
                          go_at_call 13
                          refine Calls.mono (implIsTrue_any Ko No ⟨#[]⟩ _) ?_
                          rintro x w13 ⟨rfl, hb13⟩
                          have hz13 := hb13.size
                          (try simp at hz13)
                          rw [tO.out]
                          try go_wp2_with fail
                          refine hKK.out _ _ ?_ (fun hHeld18 => ?_)
                          · exact ⟨hA.below (bel), hC.below (bel), hg.below (bel), hh.below (bel)⟩
                          clear hKK
                          refine wpAnyH_ready (rs := [20]) (by kernel_rfl) (by simp) ?_
                          refine AllReadyH.cons rfl (fun KK hKK => ?_) AllReadyH.nil
                          go_simp
                          go_at_call 13
                          refine Calls.mono (implIsTrue_any k n s _) ?_
                          rintro x w14 ⟨rfl, hb14⟩
                          have hz14 := hb14.size
                          (try simp at hz14)
                          rw [ta.out]
                          try go_wp2_with fail
                          refine hKK.out _ _ ?_ (fun hHeld20 => ?_)
                          · exact ⟨hA.below (bel), hC.below (bel), hg.below (bel), hh.below (bel)⟩
                          clear hKK
                          refine takeYes (i := 21) (d := 109) (v := ?_) rfl rfl (by kernel_rfl) (by kernel_rfl) (by kernel_rfl) (fun _ _ _ h => h) (by rfl) (by assumption) ?_ ?_
                          rotate_left
                          · intro w' hSw; obtain ⟨⟨_, _, a0, a1, a2⟩, ⟨_, _, c0, c1, c2⟩, ⟨_, _, v0, v1, v2⟩, ⟨_, _, x0, x1, x2⟩⟩ := hSw; go_simp; try exact rfl
                          try simp only [List.setIfInBounds_toArray, List.set_cons_zero, List.set_cons_succ]
                          refine takeNo (i := 22) (d := 110) rfl rfl (by kernel_rfl) (by kernel_rfl) (by kernel_rfl) (fun _ _ _ h => h) (by rfl) (by assumption) ?_
                          try simp only [List.setIfInBounds_toArray, List.set_cons_zero, List.set_cons_succ]
                          refine wpAnyH_ready (rs := [23]) (by kernel_rfl) (by simp) ?_
                          refine AllReadyH.cons rfl (fun KK hKK => ?_) AllReadyH.nil
                          go_simp
                          refine hKK.out _ _ ?_ (fun hHeld23 => ?_)
                          · exact ⟨hA.below (bel), hC.below (bel), hg.below (bel), hh.below (bel)⟩
                          clear hKK
                          refine takeYes (i := 24) (d := 112) (v := ?_) rfl rfl (by kernel_rfl) (by kernel_rfl) (by kernel_rfl) (fun _ _ _ h => h) (by rfl) (by assumption) ?_ ?_
                          rotate_left
                          · intro w' hSw; obtain ⟨⟨_, _, a0, a1, a2⟩, ⟨_, _, c0, c1, c2⟩, ⟨_, _, v0, v1, v2⟩, ⟨_, _, x0, x1, x2⟩⟩ := hSw; go_simp; try exact rfl
                          try simp only [List.setIfInBounds_toArray, List.set_cons_zero, List.set_cons_succ]
                          refine takeYes (i := 25) (d := 113) (v := ?_) rfl rfl (by kernel_rfl) (by kernel_rfl) (by kernel_rfl) (fun _ _ _ h => h) (by rfl) (by assumption) ?_ ?_
                          rotate_left
                          · intro w' hSw; obtain ⟨⟨_, _, a0, a1, a2⟩, ⟨_, _, c0, c1, c2⟩, ⟨_, _, v0, v1, v2⟩, ⟨_, _, x0, x1, x2⟩⟩ := hSw; go_simp; try exact rfl
                          try simp only [List.setIfInBounds_toArray, List.set_cons_zero, List.set_cons_succ]
                          refine takeYes (i := 26) (d := 114) (v := ?_) rfl rfl (by kernel_rfl) (by kernel_rfl) (by kernel_rfl) (fun _ _ _ h => h) (by rfl) (by assumption) ?_ ?_
                          rotate_left
                          · intro w' hSw; obtain ⟨⟨_, _, a0, a1, a2⟩, ⟨_, _, c0, c1, c2⟩, ⟨_, _, v0, v1, v2⟩, ⟨_, _, x0, x1, x2⟩⟩ := hSw; go_simp; try exact rfl
                          try simp only [List.setIfInBounds_toArray, List.set_cons_zero, List.set_cons_succ]
                          refine takeYes (i := 27) (d := 115) (v := ?_) rfl rfl (by kernel_rfl) (by kernel_rfl) (by kernel_rfl) (fun _ _ _ h => h) (by rfl) (by assumption) ?_ ?_
                          rotate_left
                          · intro w' hSw; obtain ⟨⟨_, _, a0, a1, a2⟩, ⟨_, _, c0, c1, c2⟩, ⟨_, _, v0, v1, v2⟩, ⟨_, _, x0, x1, x2⟩⟩ := hSw; go_simp; try exact rfl
                          try simp only [List.setIfInBounds_toArray, List.set_cons_zero, List.set_cons_succ]
                          refine wpAnyH_done (by kernel_rfl) ?_ _
                          go_wp2_with fail
                          (try go_meet)
                          (try (case rel => exact ⟨rfl, bel⟩))
              case rest =>
                as_aux_lemma =>
                  obtain ⟨rfl, hbL⟩ := hcut
                  replace hA := hA.below hbL
                  replace hC := hC.below hbL
                  replace hg := hg.below hbL
                  replace hh := hh.below hbL
                  replace hbw : Below w.heap.size w wc := hbw.trans (hbL.mono hzw)
                  replace hzw := hbw.size
                  clear hbL
                  go_wp2_with fail
                  clear Ta To
                  go_cut [141] (fun v wz => v = .bool false ∧ Below wc.heap.size wc wz)
                  case first =>
                    as_aux_lemma =>
                      cases ea : okB k n s
                      · as_aux_lemma =>
                          have hoa : Hid (okB k n s = false) := ea
                          clear ea
                          refine wp_region_held_drew (S := (fun w' => VarV w' bA k n s ∧ VarV w' bC k' n' s' ∧ VarV w' g Ka Na ⟨#[]⟩ ∧ VarV w' h Ko No ⟨#[]⟩)) (by kernel_rfl) ?_ (fun hHeld => ?_)
                          · exact ⟨hA.below (bel), hC.below (bel), hg.below (bel), hh.below (bel)⟩
                          refine takeYes (i := 0) (d := 116) (v := ?_) rfl rfl (by kernel_rfl) (by kernel_rfl) (by kernel_rfl) (fun _ _ _ h => h) (by rfl) (by assumption) ?_ ?_
                          rotate_left
                          · intro w' hSw; obtain ⟨⟨_, _, a0, a1, a2⟩, ⟨_, _, c0, c1, c2⟩, ⟨_, _, v0, v1, v2⟩, ⟨_, _, x0, x1, x2⟩⟩ := hSw; go_simp; try exact rfl
                          try simp only [List.setIfInBounds_toArray, List.set_cons_zero, List.set_cons_succ]
                          refine wpAnyH_ready (rs := [1]) (by kernel_rfl) (by simp) ?_
                          refine AllReadyH.cons rfl (fun KK hKK => ?_) AllReadyH.nil
                          go_simp
                          go_at_call 15
                          refine Calls.mono (specValueOk_any k n s _ hs2) ?_
                          rintro x w8 ⟨rfl, hb8⟩
                          have hz8 := hb8.size
                          (try simp at hz8)
                          rw [hoa.out]
                          try go_wp2_with fail
                          refine hKK.out _ _ ?_ (fun hHeld1 => ?_)
                          · exact ⟨hA.below (bel), hC.below (bel), hg.below (bel), hh.below (bel)⟩
                          clear hKK
                          refine takeYes (i := 2) (d := 118) (v := ?_) rfl rfl (by kernel_rfl) (by kernel_rfl) (by kernel_rfl) (fun _ _ _ h => h) (by rfl) (by assumption) ?_ ?_
                          rotate_left
                          · intro w' hSw; obtain ⟨⟨_, _, a0, a1, a2⟩, ⟨_, _, c0, c1, c2⟩, ⟨_, _, v0, v1, v2⟩, ⟨_, _, x0, x1, x2⟩⟩ := hSw; go_simp; try exact rfl
                          try simp only [List.setIfInBounds_toArray, List.set_cons_zero, List.set_cons_succ]
                          refine takeNo (i := 3) (d := 119) rfl rfl (by kernel_rfl) (by kernel_rfl) (by kernel_rfl) (fun _ _ _ h => h) (by rfl) (by assumption) ?_
                          try simp only [List.setIfInBounds_toArray, List.set_cons_zero, List.set_cons_succ]
                          refine takeNo (i := 4) (d := 120) rfl rfl (by kernel_rfl) (by kernel_rfl) (by kernel_rfl) (fun _ _ _ h => h) (by rfl) (by assumption) ?_
                          try simp only [List.setIfInBounds_toArray, List.set_cons_zero, List.set_cons_succ]
                          refine takeYes (i := 5) (d := 121) (v := ?_) rfl rfl (by kernel_rfl) (by kernel_rfl) (by kernel_rfl) (fun _ _ _ h => h) (by rfl) (by assumption) ?_ ?_
                          rotate_left
                          · intro w' hSw; obtain ⟨⟨_, _, a0, a1, a2⟩, ⟨_, _, c0, c1, c2⟩, ⟨_, _, v0, v1, v2⟩, ⟨_, _, x0, x1, x2⟩⟩ := hSw; go_simp; try exact rfl
                          try simp only [List.setIfInBounds_toArray, List.set_cons_zero, List.set_cons_succ]
                          refine takeYes (i := 6) (d := 122) (v := ?_) rfl rfl (by kernel_rfl) (by kernel_rfl) (by kernel_rfl) (fun _ _ _ h => h) (by rfl) (by assumption) ?_ ?_
                          rotate_left
                          · intro w' hSw; obtain ⟨⟨_, _, a0, a1, a2⟩, ⟨_, _, c0, c1, c2⟩, ⟨_, _, v0, v1, v2⟩, ⟨_, _, x0, x1, x2⟩⟩ := hSw; go_simp; try exact rfl
                          try simp only [List.setIfInBounds_toArray, List.set_cons_zero, List.set_cons_succ]
                          refine takeNo (i := 7) (d := 123) rfl rfl (by kernel_rfl) (by kernel_rfl) (by kernel_rfl) (fun _ _ _ h => h) (by rfl) (by assumption) ?_
                          try simp only [List.setIfInBounds_toArray, List.set_cons_zero, List.set_cons_succ]
                          refine takeNo (i := 8) (d := 124) rfl rfl (by kernel_rfl) (by kernel_rfl) (by kernel_rfl) (fun _ _ _ h => h) (by rfl) (by assumption) ?_
                          try simp only [List.setIfInBounds_toArray, List.set_cons_zero, List.set_cons_succ]
                          refine takeNo (i := 9) (d := 125) rfl rfl (by kernel_rfl) (by kernel_rfl) (by kernel_rfl) (fun _ _ _ h => h) (by rfl) (by assumption) ?_
                          try simp only [List.setIfInBounds_toArray, List.set_cons_zero, List.set_cons_succ]
                          refine takeYes (i := 10) (d := 126) (v := ?_) rfl rfl (by kernel_rfl) (by kernel_rfl) (by kernel_rfl) (fun _ _ _ h => h) (by rfl) (by assumption) ?_ ?_
                          rotate_left
                          · intro w' hSw; obtain ⟨⟨_, _, a0, a1, a2⟩, ⟨_, _, c0, c1, c2⟩, ⟨_, _, v0, v1, v2⟩, ⟨_, _, x0, x1, x2⟩⟩ := hSw; go_simp; try exact rfl
                          try simp only [List.setIfInBounds_toArray, List.set_cons_zero, List.set_cons_succ]
                          refine takeYes (i := 11) (d := 127) (v := ?_) rfl rfl (by kernel_rfl) (by kernel_rfl) (by kernel_rfl) (fun _ _ _ h => h) (by rfl) (by assumption) ?_ ?_
                          rotate_left
                          · intro w' hSw; obtain ⟨⟨_, _, a0, a1, a2⟩, ⟨_, _, c0, c1, c2⟩, ⟨_, _, v0, v1, v2⟩, ⟨_, _, x0, x1, x2⟩⟩ := hSw; go_simp; try exact rfl
                          try simp only [List.setIfInBounds_toArray, List.set_cons_zero, List.set_cons_succ]
                          refine takeNo (i := 12) (d := 128) rfl rfl (by kernel_rfl) (by kernel_rfl) (by kernel_rfl) (fun _ _ _ h => h) (by rfl) (by assumption) ?_
                          try simp only [List.setIfInBounds_toArray, List.set_cons_zero, List.set_cons_succ]
                          refine takeNo (i := 13) (d := 129) rfl rfl (by kernel_rfl) (by kernel_rfl) (by kernel_rfl) (fun _ _ _ h => h) (by rfl) (by assumption) ?_
                          try simp only [List.setIfInBounds_toArray, List.set_cons_zero, List.set_cons_succ]
                          refine takeNo (i := 14) (d := 130) rfl rfl (by kernel_rfl) (by kernel_rfl) (by kernel_rfl) (fun _ _ _ h => h) (by rfl) (by assumption) ?_
                          try simp only [List.setIfInBounds_toArray, List.set_cons_zero, List.set_cons_succ]
                          refine takeYes (i := 15) (d := 131) (v := ?_) rfl rfl (by kernel_rfl) (by kernel_rfl) (by kernel_rfl) (fun _ _ _ h => h) (by rfl) (by assumption) ?_ ?_
                          rotate_left
                          · intro w' hSw; obtain ⟨⟨_, _, a0, a1, a2⟩, ⟨_, _, c0, c1, c2⟩, ⟨_, _, v0, v1, v2⟩, ⟨_, _, x0, x1, x2⟩⟩ := hSw; go_simp; try exact rfl
                          try simp only [List.setIfInBounds_toArray, List.set_cons_zero, List.set_cons_succ]
                          refine takeYes (i := 16) (d := 132) (v := ?_) rfl rfl (by kernel_rfl) (by kernel_rfl) (by kernel_rfl) (fun _ _ _ h => h) (by rfl) (by assumption) ?_ ?_
                          rotate_left
                          · intro w' hSw; obtain ⟨⟨_, _, a0, a1, a2⟩, ⟨_, _, c0, c1, c2⟩, ⟨_, _, v0, v1, v2⟩, ⟨_, _, x0, x1, x2⟩⟩ := hSw; go_simp; try exact rfl
                          try simp only [List.setIfInBounds_toArray, List.set_cons_zero, List.set_cons_succ]
                          refine takeNo (i := 17) (d := 133) rfl rfl (by kernel_rfl) (by kernel_rfl) (by kernel_rfl) (fun _ _ _ h => h) (by rfl) (by assumption) ?_
                          try simp only [List.setIfInBounds_toArray, List.set_cons_zero, List.set_cons_succ]
                          refine takeNo (i := 18) (d := 134) rfl rfl (by kernel_rfl) (by kernel_rfl) (by kernel_rfl) (fun _ _ _ h => h) (by rfl) (by assumption) ?_
                          try simp only [List.setIfInBounds_toArray, List.set_cons_zero, List.set_cons_succ]
                          refine takeNo (i := 19) (d := 135) rfl rfl (by kernel_rfl) (by kernel_rfl) (by kernel_rfl) (fun _ _ _ h => h) (by rfl) (by assumption) ?_
                          try simp only [List.setIfInBounds_toArray, List.set_cons_zero, List.set_cons_succ]
                          refine takeNo (i := 20) (d := 136) rfl rfl (by kernel_rfl) (by kernel_rfl) (by kernel_rfl) (fun _ _ _ h => h) (by rfl) (by assumption) ?_
                          try simp only [List.setIfInBounds_toArray, List.set_cons_zero, List.set_cons_succ]
                          refine takeNo (i := 21) (d := 137) rfl rfl (by kernel_rfl) (by kernel_rfl) (by kernel_rfl) (fun _ _ _ h => h) (by rfl) (by assumption) ?_
                          try simp only [List.setIfInBounds_toArray, List.set_cons_zero, List.set_cons_succ]
                          refine takeNo (i := 22) (d := 138) rfl rfl (by kernel_rfl) (by kernel_rfl) (by kernel_rfl) (fun _ _ _ h => h) (by rfl) (by assumption) ?_
                          try simp only [List.setIfInBounds_toArray, List.set_cons_zero, List.set_cons_succ]
                          refine takeNo (i := 23) (d := 139) rfl rfl (by kernel_rfl) (by kernel_rfl) (by kernel_rfl) (fun _ _ _ h => h) (by rfl) (by assumption) ?_
                          try simp only [List.setIfInBounds_toArray, List.set_cons_zero, List.set_cons_succ]
                          refine takeNo (i := 24) (d := 140) rfl rfl (by kernel_rfl) (by kernel_rfl) (by kernel_rfl) (fun _ _ _ h => h) (by rfl) (by assumption) ?_
                          try simp only [List.setIfInBounds_toArray, List.set_cons_zero, List.set_cons_succ]
                          refine takeYes (i := 25) (d := 141) (v := ?_) rfl rfl (by kernel_rfl) (by kernel_rfl) (by kernel_rfl) (fun _ _ _ h => h) (by rfl) (by assumption) ?_ ?_
                          rotate_left
                          · intro w' hSw; obtain ⟨⟨_, _, a0, a1, a2⟩, ⟨_, _, c0, c1, c2⟩, ⟨_, _, v0, v1, v2⟩, ⟨_, _, x0, x1, x2⟩⟩ := hSw; go_simp; try exact rfl
                          try simp only [List.setIfInBounds_toArray, List.set_cons_zero, List.set_cons_succ]
                          refine wpAnyH_done (by kernel_rfl) ?_ _
                          go_wp2_with fail
                          (try go_meet)
                          (try (case rel => exact ⟨rfl, bel⟩))
                      cases eb : okB k' n' s'
                      · as_aux_lemma =>
                          have hoa : Hid (okB k n s = true) := ea
                          have hob : Hid (okB k' n' s' = false) := eb
                          clear ea eb
                          refine wp_region_held_drew (S := (fun w' => VarV w' bA k n s ∧ VarV w' bC k' n' s' ∧ VarV w' g Ka Na ⟨#[]⟩ ∧ VarV w' h Ko No ⟨#[]⟩)) (by kernel_rfl) ?_ (fun hHeld => ?_)
                          · exact ⟨hA.below (bel), hC.below (bel), hg.below (bel), hh.below (bel)⟩
                          refine takeYes (i := 0) (d := 116) (v := ?_) rfl rfl (by kernel_rfl) (by kernel_rfl) (by kernel_rfl) (fun _ _ _ h => h) (by rfl) (by assumption) ?_ ?_
                          rotate_left
                          · intro w' hSw; obtain ⟨⟨_, _, a0, a1, a2⟩, ⟨_, _, c0, c1, c2⟩, ⟨_, _, v0, v1, v2⟩, ⟨_, _, x0, x1, x2⟩⟩ := hSw; go_simp; try exact rfl
                          try simp only [List.setIfInBounds_toArray, List.set_cons_zero, List.set_cons_succ]
                          refine wpAnyH_ready (rs := [1]) (by kernel_rfl) (by simp) ?_
                          refine AllReadyH.cons rfl (fun KK hKK => ?_) AllReadyH.nil
                          go_simp
                          go_at_call 15
                          refine Calls.mono (specValueOk_any k n s _ hs2) ?_
                          rintro x w8 ⟨rfl, hb8⟩
                          have hz8 := hb8.size
                          (try simp at hz8)
                          rw [hoa.out]
                          try go_wp2_with fail
                          refine hKK.out _ _ ?_ (fun hHeld1 => ?_)
                          · exact ⟨hA.below (bel), hC.below (bel), hg.below (bel), hh.below (bel)⟩
                          clear hKK
                          refine takeYes (i := 2) (d := 118) (v := ?_) rfl rfl (by kernel_rfl) (by kernel_rfl) (by kernel_rfl) (fun _ _ _ h => h) (by rfl) (by assumption) ?_ ?_
                          rotate_left
                          · intro w' hSw; obtain ⟨⟨_, _, a0, a1, a2⟩, ⟨_, _, c0, c1, c2⟩, ⟨_, _, v0, v1, v2⟩, ⟨_, _, x0, x1, x2⟩⟩ := hSw; go_simp; try exact rfl
                          try simp only [List.setIfInBounds_toArray, List.set_cons_zero, List.set_cons_succ]
                          refine takeYes (i := 3) (d := 119) (v := ?_) rfl rfl (by kernel_rfl) (by kernel_rfl) (by kernel_rfl) (fun _ _ _ h => h) (by rfl) (by assumption) ?_ ?_
                          rotate_left
                          · intro w' hSw; obtain ⟨⟨_, _, a0, a1, a2⟩, ⟨_, _, c0, c1, c2⟩, ⟨_, _, v0, v1, v2⟩, ⟨_, _, x0, x1, x2⟩⟩ := hSw; go_simp; try exact rfl
                          try simp only [List.setIfInBounds_toArray, List.set_cons_zero, List.set_cons_succ]
                          refine wpAnyH_ready (rs := [4]) (by kernel_rfl) (by simp) ?_
                          refine AllReadyH.cons rfl (fun KK hKK => ?_) AllReadyH.nil
                          go_simp
                          go_at_call 15
                          refine Calls.mono (specValueOk_any k' n' s' _ hs2') ?_
                          rintro x w9 ⟨rfl, hb9⟩
                          have hz9 := hb9.size
                          (try simp at hz9)
                          rw [hob.out]
                          try go_wp2_with fail
                          refine hKK.out _ _ ?_ (fun hHeld4 => ?_)
                          · exact ⟨hA.below (bel), hC.below (bel), hg.below (bel), hh.below (bel)⟩
                          clear hKK
                          refine takeYes (i := 5) (d := 121) (v := ?_) rfl rfl (by kernel_rfl) (by kernel_rfl) (by kernel_rfl) (fun _ _ _ h => h) (by rfl) (by assumption) ?_ ?_
                          rotate_left
                          · intro w' hSw; obtain ⟨⟨_, _, a0, a1, a2⟩, ⟨_, _, c0, c1, c2⟩, ⟨_, _, v0, v1, v2⟩, ⟨_, _, x0, x1, x2⟩⟩ := hSw; go_simp; try exact rfl
                          try simp only [List.setIfInBounds_toArray, List.set_cons_zero, List.set_cons_succ]
                          refine takeYes (i := 6) (d := 122) (v := ?_) rfl rfl (by kernel_rfl) (by kernel_rfl) (by kernel_rfl) (fun _ _ _ h => h) (by rfl) (by assumption) ?_ ?_
                          rotate_left
                          · intro w' hSw; obtain ⟨⟨_, _, a0, a1, a2⟩, ⟨_, _, c0, c1, c2⟩, ⟨_, _, v0, v1, v2⟩, ⟨_, _, x0, x1, x2⟩⟩ := hSw; go_simp; try exact rfl
                          try simp only [List.setIfInBounds_toArray, List.set_cons_zero, List.set_cons_succ]
                          refine takeNo (i := 7) (d := 123) rfl rfl (by kernel_rfl) (by kernel_rfl) (by kernel_rfl) (fun _ _ _ h => h) (by rfl) (by assumption) ?_
                          try simp only [List.setIfInBounds_toArray, List.set_cons_zero, List.set_cons_succ]
                          refine takeNo (i := 8) (d := 124) rfl rfl (by kernel_rfl) (by kernel_rfl) (by kernel_rfl) (fun _ _ _ h => h) (by rfl) (by assumption) ?_
                          try simp only [List.setIfInBounds_toArray, List.set_cons_zero, List.set_cons_succ]
                          refine takeNo (i := 9) (d := 125) rfl rfl (by kernel_rfl) (by kernel_rfl) (by kernel_rfl) (fun _ _ _ h => h) (by rfl) (by assumption) ?_
                          try simp only [List.setIfInBounds_toArray, List.set_cons_zero, List.set_cons_succ]
                          refine takeYes (i := 10) (d := 126) (v := ?_) rfl rfl (by kernel_rfl) (by kernel_rfl) (by kernel_rfl) (fun _ _ _ h => h) (by rfl) (by assumption) ?_ ?_
                          rotate_left
                          · intro w' hSw; obtain ⟨⟨_, _, a0, a1, a2⟩, ⟨_, _, c0, c1, c2⟩, ⟨_, _, v0, v1, v2⟩, ⟨_, _, x0, x1, x2⟩⟩ := hSw; go_simp; try exact rfl
                          try simp only [List.setIfInBounds_toArray, List.set_cons_zero, List.set_cons_succ]
                          refine takeYes (i := 11) (d := 127) (v := ?_) rfl rfl (by kernel_rfl) (by kernel_rfl) (by kernel_rfl) (fun _ _ _ h => h) (by rfl) (by assumption) ?_ ?_
                          rotate_left
                          · intro w' hSw; obtain ⟨⟨_, _, a0, a1, a2⟩, ⟨_, _, c0, c1, c2⟩, ⟨_, _, v0, v1, v2⟩, ⟨_, _, x0, x1, x2⟩⟩ := hSw; go_simp; try exact rfl
                          try simp only [List.setIfInBounds_toArray, List.set_cons_zero, List.set_cons_succ]
                          refine takeNo (i := 12) (d := 128) rfl rfl (by kernel_rfl) (by kernel_rfl) (by kernel_rfl) (fun _ _ _ h => h) (by rfl) (by assumption) ?_
                          try simp only [List.setIfInBounds_toArray, List.set_cons_zero, List.set_cons_succ]
                          refine takeNo (i := 13) (d := 129) rfl rfl (by kernel_rfl) (by kernel_rfl) (by kernel_rfl) (fun _ _ _ h => h) (by rfl) (by assumption) ?_
                          try simp only [List.setIfInBounds_toArray, List.set_cons_zero, List.set_cons_succ]
                          refine takeNo (i := 14) (d := 130) rfl rfl (by kernel_rfl) (by kernel_rfl) (by kernel_rfl) (fun _ _ _ h => h) (by rfl) (by assumption) ?_
                          try simp only [List.setIfInBounds_toArray, List.set_cons_zero, List.set_cons_succ]
                          refine takeYes (i := 15) (d := 131) (v := ?_) rfl rfl (by kernel_rfl) (by kernel_rfl) (by kernel_rfl) (fun _ _ _ h => h) (by rfl) (by assumption) ?_ ?_
                          rotate_left
                          · intro w' hSw; obtain ⟨⟨_, _, a0, a1, a2⟩, ⟨_, _, c0, c1, c2⟩, ⟨_, _, v0, v1, v2⟩, ⟨_, _, x0, x1, x2⟩⟩ := hSw; go_simp; try exact rfl
                          try simp only [List.setIfInBounds_toArray, List.set_cons_zero, List.set_cons_succ]
                          refine takeYes (i := 16) (d := 132) (v := ?_) rfl rfl (by kernel_rfl) (by kernel_rfl) (by kernel_rfl) (fun _ _ _ h => h) (by rfl) (by assumption) ?_ ?_
                          rotate_left
                          · intro w' hSw; obtain ⟨⟨_, _, a0, a1, a2⟩, ⟨_, _, c0, c1, c2⟩, ⟨_, _, v0, v1, v2⟩, ⟨_, _, x0, x1, x2⟩⟩ := hSw; go_simp; try exact rfl
                          try simp only [List.setIfInBounds_toArray, List.set_cons_zero, List.set_cons_succ]
                          refine takeNo (i := 17) (d := 133) rfl rfl (by kernel_rfl) (by kernel_rfl) (by kernel_rfl) (fun _ _ _ h => h) (by rfl) (by assumption) ?_
                          try simp only [List.setIfInBounds_toArray, List.set_cons_zero, List.set_cons_succ]
                          refine takeNo (i := 18) (d := 134) rfl rfl (by kernel_rfl) (by kernel_rfl) (by kernel_rfl) (fun _ _ _ h => h) (by rfl) (by assumption) ?_
                          try simp only [List.setIfInBounds_toArray, List.set_cons_zero, List.set_cons_succ]
                          refine takeNo (i := 19) (d := 135) rfl rfl (by kernel_rfl) (by kernel_rfl) (by kernel_rfl) (fun _ _ _ h => h) (by rfl) (by assumption) ?_
                          try simp only [List.setIfInBounds_toArray, List.set_cons_zero, List.set_cons_succ]
                          refine takeNo (i := 20) (d := 136) rfl rfl (by kernel_rfl) (by kernel_rfl) (by kernel_rfl) (fun _ _ _ h => h) (by rfl) (by assumption) ?_
                          try simp only [List.setIfInBounds_toArray, List.set_cons_zero, List.set_cons_succ]
                          refine takeNo (i := 21) (d := 137) rfl rfl (by kernel_rfl) (by kernel_rfl) (by kernel_rfl) (fun _ _ _ h => h) (by rfl) (by assumption) ?_
                          try simp only [List.setIfInBounds_toArray, List.set_cons_zero, List.set_cons_succ]
                          refine takeNo (i := 22) (d := 138) rfl rfl (by kernel_rfl) (by kernel_rfl) (by kernel_rfl) (fun _ _ _ h => h) (by rfl) (by assumption) ?_
                          try simp only [List.setIfInBounds_toArray, List.set_cons_zero, List.set_cons_succ]
                          refine takeNo (i := 23) (d := 139) rfl rfl (by kernel_rfl) (by kernel_rfl) (by kernel_rfl) (fun _ _ _ h => h) (by rfl) (by assumption) ?_
                          try simp only [List.setIfInBounds_toArray, List.set_cons_zero, List.set_cons_succ]
                          refine takeNo (i := 24) (d := 140) rfl rfl (by kernel_rfl) (by kernel_rfl) (by kernel_rfl) (fun _ _ _ h => h) (by rfl) (by assumption) ?_
                          try simp only [List.setIfInBounds_toArray, List.set_cons_zero, List.set_cons_succ]
                          refine takeYes (i := 25) (d := 141) (v := ?_) rfl rfl (by kernel_rfl) (by kernel_rfl) (by kernel_rfl) (fun _ _ _ h => h) (by rfl) (by assumption) ?_ ?_
                          rotate_left
                          · intro w' hSw; obtain ⟨⟨_, _, a0, a1, a2⟩, ⟨_, _, c0, c1, c2⟩, ⟨_, _, v0, v1, v2⟩, ⟨_, _, x0, x1, x2⟩⟩ := hSw; go_simp; try exact rfl
                          try simp only [List.setIfInBounds_toArray, List.set_cons_zero, List.set_cons_succ]
                          refine wpAnyH_done (by kernel_rfl) ?_ _
                          go_wp2_with fail
                          (try go_meet)
                          (try (case rel => exact ⟨rfl, bel⟩))
                      as_aux_lemma =>
                        have hoa : Hid (okB k n s = true) := ea
                        have hob : Hid (okB k' n' s' = true) := eb
                        clear ea eb
                        by_cases ek : k = 2
                        · by_cases ek' : k' = 2
                          · subst ek ek'
                            have q6 := neS (notK Ka Na) (notN Ka Na) ⟨#[]⟩
                            have dA : Hid _ := Da.out hoa.out hob.out rfl rfl
                            refine wp_region_held_drew (S := (fun w' => VarV w' bA 2 n s ∧ VarV w' bC 2 n' s' ∧ VarV w' g Ka Na ⟨#[]⟩ ∧ VarV w' h Ko No ⟨#[]⟩)) (by kernel_rfl) ?_ (fun hHeld => ?_)
                            · exact ⟨hA.below (bel), hC.below (bel), hg.below (bel), hh.below (bel)⟩
                            refine takeYes (i := 0) (d := 116) (v := ?_) rfl rfl (by kernel_rfl) (by kernel_rfl) (by kernel_rfl) (fun _ _ _ h => h) (by rfl) (by assumption) ?_ ?_
                            rotate_left
                            · intro w' hSw; obtain ⟨⟨_, _, a0, a1, a2⟩, ⟨_, _, c0, c1, c2⟩, ⟨_, _, v0, v1, v2⟩, ⟨_, _, x0, x1, x2⟩⟩ := hSw; go_simp; try exact rfl
                            try simp only [List.setIfInBounds_toArray, List.set_cons_zero, List.set_cons_succ]
                            refine wpAnyH_ready (rs := [1]) (by kernel_rfl) (by simp) ?_
                            refine AllReadyH.cons rfl (fun KK hKK => ?_) AllReadyH.nil
                            go_simp
                            go_at_call 15
                            refine Calls.mono (specValueOk_any 2 n s _ hs2) ?_
                            rintro x w8 ⟨rfl, hb8⟩
                            have hz8 := hb8.size
                            (try simp at hz8)
                            rw [hoa.out]
                            try go_wp2_with fail
                            refine hKK.out _ _ ?_ (fun hHeld1 => ?_)
                            · exact ⟨hA.below (bel), hC.below (bel), hg.below (bel), hh.below (bel)⟩
                            clear hKK
                            refine takeYes (i := 2) (d := 118) (v := ?_) rfl rfl (by kernel_rfl) (by kernel_rfl) (by kernel_rfl) (fun _ _ _ h => h) (by rfl) (by assumption) ?_ ?_
                            rotate_left
                            · intro w' hSw; obtain ⟨⟨_, _, a0, a1, a2⟩, ⟨_, _, c0, c1, c2⟩, ⟨_, _, v0, v1, v2⟩, ⟨_, _, x0, x1, x2⟩⟩ := hSw; go_simp; try exact rfl
                            try simp only [List.setIfInBounds_toArray, List.set_cons_zero, List.set_cons_succ]
                            refine takeYes (i := 3) (d := 119) (v := ?_) rfl rfl (by kernel_rfl) (by kernel_rfl) (by kernel_rfl) (fun _ _ _ h => h) (by rfl) (by assumption) ?_ ?_
                            rotate_left
                            · intro w' hSw; obtain ⟨⟨_, _, a0, a1, a2⟩, ⟨_, _, c0, c1, c2⟩, ⟨_, _, v0, v1, v2⟩, ⟨_, _, x0, x1, x2⟩⟩ := hSw; go_simp; try exact rfl
                            try simp only [List.setIfInBounds_toArray, List.set_cons_zero, List.set_cons_succ]
                            refine wpAnyH_ready (rs := [4]) (by kernel_rfl) (by simp) ?_
                            refine AllReadyH.cons rfl (fun KK hKK => ?_) AllReadyH.nil
                            go_simp
                            go_at_call 15
                            refine Calls.mono (specValueOk_any 2 n' s' _ hs2') ?_
                            rintro x w9 ⟨rfl, hb9⟩
                            have hz9 := hb9.size
                            (try simp at hz9)
                            rw [hob.out]
                            try go_wp2_with fail
                            refine hKK.out _ _ ?_ (fun hHeld4 => ?_)
                            · exact ⟨hA.below (bel), hC.below (bel), hg.below (bel), hh.below (bel)⟩
                            clear hKK
                            refine takeYes (i := 5) (d := 121) (v := ?_) rfl rfl (by kernel_rfl) (by kernel_rfl) (by kernel_rfl) (fun _ _ _ h => h) (by rfl) (by assumption) ?_ ?_
                            rotate_left
                            · intro w' hSw; obtain ⟨⟨_, _, a0, a1, a2⟩, ⟨_, _, c0, c1, c2⟩, ⟨_, _, v0, v1, v2⟩, ⟨_, _, x0, x1, x2⟩⟩ := hSw; go_simp; try exact rfl
                            try simp only [List.setIfInBounds_toArray, List.set_cons_zero, List.set_cons_succ]
                            refine takeYes (i := 6) (d := 122) (v := ?_) rfl rfl (by kernel_rfl) (by kernel_rfl) (by kernel_rfl) (fun _ _ _ h => h) (by rfl) (by assumption) ?_ ?_
                            rotate_left
                            · intro w' hSw; obtain ⟨⟨_, _, a0, a1, a2⟩, ⟨_, _, c0, c1, c2⟩, ⟨_, _, v0, v1, v2⟩, ⟨_, _, x0, x1, x2⟩⟩ := hSw; go_simp; try exact rfl
                            try simp only [List.setIfInBounds_toArray, List.set_cons_zero, List.set_cons_succ]
                            refine takeYes (i := 7) (d := 123) (v := ?_) rfl rfl (by kernel_rfl) (by kernel_rfl) (by kernel_rfl) (fun _ _ _ h => h) (by rfl) (by assumption) ?_ ?_
                            rotate_left
                            · intro w' hSw; obtain ⟨⟨_, _, a0, a1, a2⟩, ⟨_, _, c0, c1, c2⟩, ⟨_, _, v0, v1, v2⟩, ⟨_, _, x0, x1, x2⟩⟩ := hSw; go_simp; try exact rfl
                            try simp only [List.setIfInBounds_toArray, List.set_cons_zero, List.set_cons_succ]
                            refine takeYes (i := 8) (d := 124) (v := ?_) rfl rfl (by kernel_rfl) (by kernel_rfl) (by kernel_rfl) (fun _ _ _ h => h) (by rfl) (by assumption) ?_ ?_
                            rotate_left
                            · intro w' hSw; obtain ⟨⟨_, _, a0, a1, a2⟩, ⟨_, _, c0, c1, c2⟩, ⟨_, _, v0, v1, v2⟩, ⟨_, _, x0, x1, x2⟩⟩ := hSw; go_simp; try exact rfl
                            try simp only [List.setIfInBounds_toArray, List.set_cons_zero, List.set_cons_succ]
                            refine takeYes (i := 9) (d := 125) (v := ?_) rfl rfl (by kernel_rfl) (by kernel_rfl) (by kernel_rfl) (fun _ _ _ h => h) (by rfl) (by assumption) ?_ ?_
                            rotate_left
                            · intro w' hSw; obtain ⟨⟨_, _, a0, a1, a2⟩, ⟨_, _, c0, c1, c2⟩, ⟨_, _, v0, v1, v2⟩, ⟨_, _, x0, x1, x2⟩⟩ := hSw; go_simp; try exact rfl
                            try simp only [List.setIfInBounds_toArray, List.set_cons_zero, List.set_cons_succ]
                            refine takeYes (i := 10) (d := 126) (v := ?_) rfl rfl (by kernel_rfl) (by kernel_rfl) (by kernel_rfl) (fun _ _ _ h => h) (by rfl) (by assumption) ?_ ?_
                            rotate_left
                            · intro w' hSw; obtain ⟨⟨_, _, a0, a1, a2⟩, ⟨_, _, c0, c1, c2⟩, ⟨_, _, v0, v1, v2⟩, ⟨_, _, x0, x1, x2⟩⟩ := hSw; go_simp; try exact rfl
                            try simp only [List.setIfInBounds_toArray, List.set_cons_zero, List.set_cons_succ]
                            refine takeYes (i := 11) (d := 127) (v := ?_) rfl rfl (by kernel_rfl) (by kernel_rfl) (by kernel_rfl) (fun _ _ _ h => h) (by rfl) (by assumption) ?_ ?_
                            rotate_left
                            · intro w' hSw; obtain ⟨⟨_, _, a0, a1, a2⟩, ⟨_, _, c0, c1, c2⟩, ⟨_, _, v0, v1, v2⟩, ⟨_, _, x0, x1, x2⟩⟩ := hSw; go_simp; try exact rfl
                            try simp only [List.setIfInBounds_toArray, List.set_cons_zero, List.set_cons_succ]
                            refine takeYes (i := 12) (d := 128) (v := ?_) rfl rfl (by kernel_rfl) (by kernel_rfl) (by kernel_rfl) (fun _ _ _ h => h) (by rfl) (by assumption) ?_ ?_
                            rotate_left
                            · intro w' hSw; obtain ⟨⟨_, _, a0, a1, a2⟩, ⟨_, _, c0, c1, c2⟩, ⟨_, _, v0, v1, v2⟩, ⟨_, _, x0, x1, x2⟩⟩ := hSw; go_simp; try exact rfl
                            try simp only [List.setIfInBounds_toArray, List.set_cons_zero, List.set_cons_succ]
                            refine takeYes (i := 13) (d := 129) (v := ?_) rfl rfl (by kernel_rfl) (by kernel_rfl) (by kernel_rfl) (fun _ _ _ h => h) (by rfl) (by assumption) ?_ ?_
                            rotate_left
                            · intro w' hSw; obtain ⟨⟨_, _, a0, a1, a2⟩, ⟨_, _, c0, c1, c2⟩, ⟨_, _, v0, v1, v2⟩, ⟨_, _, x0, x1, x2⟩⟩ := hSw; go_simp; try exact rfl
                            try simp only [List.setIfInBounds_toArray, List.set_cons_zero, List.set_cons_succ]
                            refine takeYes (i := 14) (d := 130) (v := ?_) rfl rfl (by kernel_rfl) (by kernel_rfl) (by kernel_rfl) (fun _ _ _ h => h) (by rfl) (by assumption) ?_ ?_
                            rotate_left
                            · intro w' hSw; obtain ⟨⟨_, _, a0, a1, a2⟩, ⟨_, _, c0, c1, c2⟩, ⟨_, _, v0, v1, v2⟩, ⟨_, _, x0, x1, x2⟩⟩ := hSw; go_simp; try exact rfl
                            try simp only [List.setIfInBounds_toArray, List.set_cons_zero, List.set_cons_succ]
                            refine takeYes (i := 15) (d := 131) (v := ?_) rfl rfl (by kernel_rfl) (by kernel_rfl) (by kernel_rfl) (fun _ _ _ h => h) (by rfl) (by assumption) ?_ ?_
                            rotate_left
                            · intro w' hSw; obtain ⟨⟨_, _, a0, a1, a2⟩, ⟨_, _, c0, c1, c2⟩, ⟨_, _, v0, v1, v2⟩, ⟨_, _, x0, x1, x2⟩⟩ := hSw; go_simp; try exact rfl
                            try simp only [List.setIfInBounds_toArray, List.set_cons_zero, List.set_cons_succ]
                            refine takeYes (i := 16) (d := 132) (v := ?_) rfl rfl (by kernel_rfl) (by kernel_rfl) (by kernel_rfl) (fun _ _ _ h => h) (by rfl) (by assumption) ?_ ?_
                            rotate_left
                            · intro w' hSw; obtain ⟨⟨_, _, a0, a1, a2⟩, ⟨_, _, c0, c1, c2⟩, ⟨_, _, v0, v1, v2⟩, ⟨_, _, x0, x1, x2⟩⟩ := hSw; go_simp; try exact rfl
                            try simp only [List.setIfInBounds_toArray, List.set_cons_zero, List.set_cons_succ]
                            refine takeYes (i := 17) (d := 133) (v := ?_) rfl rfl (by kernel_rfl) (by kernel_rfl) (by kernel_rfl) (fun _ _ _ h => h) (by rfl) (by assumption) ?_ ?_
                            rotate_left
                            · intro w' hSw; obtain ⟨⟨_, _, a0, a1, a2⟩, ⟨_, _, c0, c1, c2⟩, ⟨_, _, v0, v1, v2⟩, ⟨_, _, x0, x1, x2⟩⟩ := hSw; go_simp; try exact rfl
                            try simp only [List.setIfInBounds_toArray, List.set_cons_zero, List.set_cons_succ]
                            refine takeYes (i := 19) (d := 135) (v := ?_) rfl rfl (by kernel_rfl) (by kernel_rfl) (by kernel_rfl) (fun _ _ _ h => h) (by rfl) (by assumption) ?_ ?_
                            rotate_left
                            · intro w' hSw; obtain ⟨⟨_, _, a0, a1, a2⟩, ⟨_, _, c0, c1, c2⟩, ⟨_, _, v0, v1, v2⟩, ⟨_, _, x0, x1, x2⟩⟩ := hSw; go_simp; try exact rfl
                            try simp only [List.setIfInBounds_toArray, List.set_cons_zero, List.set_cons_succ]
                            refine takeYes (i := 21) (d := 137) (v := ?_) rfl rfl (by kernel_rfl) (by kernel_rfl) (by kernel_rfl) (fun _ _ _ h => h) (by rfl) (by assumption) ?_ ?_
                            rotate_left
                            · intro w' hSw; obtain ⟨⟨_, _, a0, a1, a2⟩, ⟨_, _, c0, c1, c2⟩, ⟨_, _, v0, v1, v2⟩, ⟨_, _, x0, x1, x2⟩⟩ := hSw; go_simp; try exact rfl
                            try simp only [List.setIfInBounds_toArray, List.set_cons_zero, List.set_cons_succ]
                            refine wpAnyH_ready (rs := [18]) (by kernel_rfl) (by simp) ?_
                            refine AllReadyH.cons rfl (fun KK hKK => ?_) AllReadyH.nil
                            go_simp
                            go_at_call 9
                            refine Calls.mono (implNot_any Ka Na ⟨#[]⟩ _) ?_
                            rintro x w10 ⟨rfl, hb10⟩
                            have hz10 := hb10.size
                            (try simp at hz10)
                            try go_wp2_with fail
                            refine hKK.out _ _ ?_ (fun hHeld18 => ?_)
                            · exact ⟨hA.below (bel), hC.below (bel), hg.below (bel), hh.below (bel)⟩
                            clear hKK
                            refine wpAnyH_ready (rs := [20]) (by kernel_rfl) (by simp) ?_
                            refine AllReadyH.cons rfl (fun KK hKK => ?_) AllReadyH.nil
                            go_simp
                            go_at_call 9
                            refine Calls.mono (implNot_any 2 n s _) ?_
                            rintro x w11 ⟨rfl, hb11⟩
                            have hz11 := hb11.size
                            (try simp at hz11)
                            try go_wp2_with fail
                            refine hKK.out _ _ ?_ (fun hHeld20 => ?_)
                            · exact ⟨hA.below (bel), hC.below (bel), hg.below (bel), hh.below (bel)⟩
                            clear hKK
                            refine wpAnyH_ready (rs := [22]) (by kernel_rfl) (by simp) ?_
                            refine AllReadyH.cons rfl (fun KK hKK => ?_) AllReadyH.nil
                            go_simp
                            go_at_call 9
                            refine Calls.mono (implNot_any 2 n' s' _) ?_
                            rintro x w12 ⟨rfl, hb12⟩
                            have hz12 := hb12.size
                            (try simp at hz12)
                            try go_wp2_with fail
                            refine hKK.out _ _ ?_ (fun hHeld22 => ?_)
                            · exact ⟨hA.below (bel), hC.below (bel), hg.below (bel), hh.below (bel)⟩
                            clear hKK
                            refine wpAnyH_ready (rs := [23]) (by kernel_rfl) (by simp) ?_
                            refine AllReadyH.cons rfl (fun KK hKK => ?_) AllReadyH.nil
                            go_simp
                            go_at_call 6
                            refine Calls.mono (dA.out _) ?_
                            rintro x w13 ⟨rfl, hb13⟩
                            have hz13 := hb13.size
                            (try simp at hz13)
                            try go_wp2_with fail
                            refine hKK.out _ _ ?_ (fun hHeld23 => ?_)
                            · exact ⟨hA.below (bel), hC.below (bel), hg.below (bel), hh.below (bel)⟩
                            clear hKK
                            refine takeYes (i := 24) (d := 140) (v := ?_) rfl rfl (by kernel_rfl) (by kernel_rfl) (by kernel_rfl) (fun _ _ _ h => h) (by rfl) (by assumption) ?_ ?_
                            rotate_left
                            · intro w' hSw; obtain ⟨⟨_, _, a0, a1, a2⟩, ⟨_, _, c0, c1, c2⟩, ⟨_, _, v0, v1, v2⟩, ⟨_, _, x0, x1, x2⟩⟩ := hSw; go_simp; try exact rfl
                            try simp only [List.setIfInBounds_toArray, List.set_cons_zero, List.set_cons_succ]
                            refine takeYes (i := 25) (d := 141) (v := ?_) rfl rfl (by kernel_rfl) (by kernel_rfl) (by kernel_rfl) (fun _ _ _ h => h) (by rfl) (by assumption) ?_ ?_
                            rotate_left
                            · intro w' hSw; obtain ⟨⟨_, _, a0, a1, a2⟩, ⟨_, _, c0, c1, c2⟩, ⟨_, _, v0, v1, v2⟩, ⟨_, _, x0, x1, x2⟩⟩ := hSw; go_simp; try exact rfl
                            try simp only [List.setIfInBounds_toArray, List.set_cons_zero, List.set_cons_succ]
                            refine wpAnyH_done (by kernel_rfl) ?_ _
                            go_wp2_with fail
                            (try go_meet)
                            (try (case rel => exact ⟨rfl, bel⟩))
                          · subst ek
                            have ekb : (k' == 2) = false := by simp [ek']
                            refine wp_region_held_drew (S := (fun w' => VarV w' bA 2 n s ∧ VarV w' bC k' n' s' ∧ VarV w' g Ka Na ⟨#[]⟩ ∧ VarV w' h Ko No ⟨#[]⟩)) (by kernel_rfl) ?_ (fun hHeld => ?_)
                            · exact ⟨hA.below (bel), hC.below (bel), hg.below (bel), hh.below (bel)⟩
                            refine takeYes (i := 0) (d := 116) (v := ?_) rfl rfl (by kernel_rfl) (by kernel_rfl) (by kernel_rfl) (fun _ _ _ h => h) (by rfl) (by assumption) ?_ ?_
                            rotate_left
                            · intro w' hSw; obtain ⟨⟨_, _, a0, a1, a2⟩, ⟨_, _, c0, c1, c2⟩, ⟨_, _, v0, v1, v2⟩, ⟨_, _, x0, x1, x2⟩⟩ := hSw; go_simp; try exact rfl
                            try simp only [List.setIfInBounds_toArray, List.set_cons_zero, List.set_cons_succ]
                            refine wpAnyH_ready (rs := [1]) (by kernel_rfl) (by simp) ?_
                            refine AllReadyH.cons rfl (fun KK hKK => ?_) AllReadyH.nil
                            go_simp
                            go_at_call 15
                            refine Calls.mono (specValueOk_any 2 n s _ hs2) ?_
                            rintro x w8 ⟨rfl, hb8⟩
                            have hz8 := hb8.size
                            (try simp at hz8)
                            rw [hoa.out]
                            try go_wp2_with fail
                            refine hKK.out _ _ ?_ (fun hHeld1 => ?_)
                            · exact ⟨hA.below (bel), hC.below (bel), hg.below (bel), hh.below (bel)⟩
                            clear hKK
                            refine takeYes (i := 2) (d := 118) (v := ?_) rfl rfl (by kernel_rfl) (by kernel_rfl) (by kernel_rfl) (fun _ _ _ h => h) (by rfl) (by assumption) ?_ ?_
                            rotate_left
                            · intro w' hSw; obtain ⟨⟨_, _, a0, a1, a2⟩, ⟨_, _, c0, c1, c2⟩, ⟨_, _, v0, v1, v2⟩, ⟨_, _, x0, x1, x2⟩⟩ := hSw; go_simp; try exact rfl
                            try simp only [List.setIfInBounds_toArray, List.set_cons_zero, List.set_cons_succ]
                            refine takeYes (i := 3) (d := 119) (v := ?_) rfl rfl (by kernel_rfl) (by kernel_rfl) (by kernel_rfl) (fun _ _ _ h => h) (by rfl) (by assumption) ?_ ?_
                            rotate_left
                            · intro w' hSw; obtain ⟨⟨_, _, a0, a1, a2⟩, ⟨_, _, c0, c1, c2⟩, ⟨_, _, v0, v1, v2⟩, ⟨_, _, x0, x1, x2⟩⟩ := hSw; go_simp; try exact rfl
                            try simp only [List.setIfInBounds_toArray, List.set_cons_zero, List.set_cons_succ]
                            refine wpAnyH_ready (rs := [4]) (by kernel_rfl) (by simp) ?_
                            refine AllReadyH.cons rfl (fun KK hKK => ?_) AllReadyH.nil
                            go_simp
                            go_at_call 15
                            refine Calls.mono (specValueOk_any k' n' s' _ hs2') ?_
                            rintro x w9 ⟨rfl, hb9⟩
                            have hz9 := hb9.size
                            (try simp at hz9)
                            rw [hob.out]
                            try go_wp2_with fail
                            refine hKK.out _ _ ?_ (fun hHeld4 => ?_)
                            · exact ⟨hA.below (bel), hC.below (bel), hg.below (bel), hh.below (bel)⟩
                            clear hKK
                            refine takeYes (i := 5) (d := 121) (v := ?_) rfl rfl (by kernel_rfl) (by kernel_rfl) (by kernel_rfl) (fun _ _ _ h => h) (by rfl) (by assumption) ?_ ?_
                            rotate_left
                            · intro w' hSw; obtain ⟨⟨_, _, a0, a1, a2⟩, ⟨_, _, c0, c1, c2⟩, ⟨_, _, v0, v1, v2⟩, ⟨_, _, x0, x1, x2⟩⟩ := hSw; go_simp; try exact rfl
                            try simp only [List.setIfInBounds_toArray, List.set_cons_zero, List.set_cons_succ]
                            refine takeYes (i := 6) (d := 122) (v := ?_) rfl rfl (by kernel_rfl) (by kernel_rfl) (by kernel_rfl) (fun _ _ _ h => h) (by rfl) (by assumption) ?_ ?_
                            rotate_left
                            · intro w' hSw; obtain ⟨⟨_, _, a0, a1, a2⟩, ⟨_, _, c0, c1, c2⟩, ⟨_, _, v0, v1, v2⟩, ⟨_, _, x0, x1, x2⟩⟩ := hSw; go_simp; try exact rfl
                            try simp only [List.setIfInBounds_toArray, List.set_cons_zero, List.set_cons_succ]
                            refine takeYes (i := 7) (d := 123) (v := ?_) rfl rfl (by kernel_rfl) (by kernel_rfl) (by kernel_rfl) (fun _ _ _ h => h) (by rfl) (by assumption) ?_ ?_
                            rotate_left
                            · intro w' hSw; obtain ⟨⟨_, _, a0, a1, a2⟩, ⟨_, _, c0, c1, c2⟩, ⟨_, _, v0, v1, v2⟩, ⟨_, _, x0, x1, x2⟩⟩ := hSw; go_simp; try exact rfl
                            try simp only [List.setIfInBounds_toArray, List.set_cons_zero, List.set_cons_succ]
                            refine takeYes (i := 8) (d := 124) (v := ?_) rfl rfl (by kernel_rfl) (by kernel_rfl) (by kernel_rfl) (fun _ _ _ h => h) (by rfl) (by assumption) ?_ ?_
                            rotate_left
                            · intro w' hSw; obtain ⟨⟨_, _, a0, a1, a2⟩, ⟨_, _, c0, c1, c2⟩, ⟨_, _, v0, v1, v2⟩, ⟨_, _, x0, x1, x2⟩⟩ := hSw; go_simp; try exact rfl
                            try simp only [List.setIfInBounds_toArray, List.set_cons_zero, List.set_cons_succ]
                            refine takeYes (i := 9) (d := 125) (v := ?_) rfl rfl (by kernel_rfl) (by kernel_rfl) (by kernel_rfl) (fun _ _ _ h => h) (by rfl) (by assumption) ?_ ?_
                            rotate_left
                            · intro w' hSw; obtain ⟨⟨_, _, a0, a1, a2⟩, ⟨_, _, c0, c1, c2⟩, ⟨_, _, v0, v1, v2⟩, ⟨_, _, x0, x1, x2⟩⟩ := hSw; go_simp; try exact rfl
                            try simp only [List.setIfInBounds_toArray, List.set_cons_zero, List.set_cons_succ]
                            refine takeYes (i := 10) (d := 126) (v := ?_) rfl rfl (by kernel_rfl) (by kernel_rfl) (by kernel_rfl) (fun _ _ _ h => h) (by rfl) (by assumption) ?_ ?_
                            rotate_left
                            · intro w' hSw; obtain ⟨⟨_, _, a0, a1, a2⟩, ⟨_, _, c0, c1, c2⟩, ⟨_, _, v0, v1, v2⟩, ⟨_, _, x0, x1, x2⟩⟩ := hSw; go_simp; try exact rfl
                            try simp only [List.setIfInBounds_toArray, List.set_cons_zero, List.set_cons_succ]
                            refine takeYes (i := 11) (d := 127) (v := ?_) rfl rfl (by kernel_rfl) (by kernel_rfl) (by kernel_rfl) (fun _ _ _ h => h) (by rfl) (by assumption) ?_ ?_
                            rotate_left
                            · intro w' hSw; obtain ⟨⟨_, _, a0, a1, a2⟩, ⟨_, _, c0, c1, c2⟩, ⟨_, _, v0, v1, v2⟩, ⟨_, _, x0, x1, x2⟩⟩ := hSw; go_simp; try exact rfl
                            try simp only [List.setIfInBounds_toArray, List.set_cons_zero, List.set_cons_succ]
                            refine takeYes (i := 12) (d := 128) (v := ?_) rfl rfl (by kernel_rfl) (by kernel_rfl) (by kernel_rfl) (fun _ _ _ h => h) (by rfl) (by assumption) ?_ ?_
                            rotate_left
                            · intro w' hSw; obtain ⟨⟨_, _, a0, a1, a2⟩, ⟨_, _, c0, c1, c2⟩, ⟨_, _, v0, v1, v2⟩, ⟨_, _, x0, x1, x2⟩⟩ := hSw; go_simp; try exact rfl
                            try simp only [List.setIfInBounds_toArray, List.set_cons_zero, List.set_cons_succ]
                            refine takeYes (i := 13) (d := 129) (v := ?_) rfl rfl (by kernel_rfl) (by kernel_rfl) (by kernel_rfl) (fun _ _ _ h => h) (by rfl) (by assumption) ?_ ?_
                            rotate_left
                            · intro w' hSw; obtain ⟨⟨_, _, a0, a1, a2⟩, ⟨_, _, c0, c1, c2⟩, ⟨_, _, v0, v1, v2⟩, ⟨_, _, x0, x1, x2⟩⟩ := hSw; go_simp; try exact rfl
                            try simp only [List.setIfInBounds_toArray, List.set_cons_zero, List.set_cons_succ]
                            refine takeYes (i := 14) (d := 130) (v := ?_) rfl rfl (by kernel_rfl) (by kernel_rfl) (by kernel_rfl) (fun _ _ _ h => h) (by rfl) (by assumption) ?_ ?_
                            rotate_left
                            · intro w' hSw; obtain ⟨⟨_, _, a0, a1, a2⟩, ⟨_, _, c0, c1, c2⟩, ⟨_, _, v0, v1, v2⟩, ⟨_, _, x0, x1, x2⟩⟩ := hSw; go_simp; try exact rfl
                            try simp only [List.setIfInBounds_toArray, List.set_cons_zero, List.set_cons_succ]
                            refine takeYes (i := 15) (d := 131) (v := ?_) rfl rfl (by kernel_rfl) (by kernel_rfl) (by kernel_rfl) (fun _ _ _ h => h) (by rfl) (by assumption) ?_ ?_
                            rotate_left
                            · intro w' hSw; obtain ⟨⟨_, _, a0, a1, a2⟩, ⟨_, _, c0, c1, c2⟩, ⟨_, _, v0, v1, v2⟩, ⟨_, _, x0, x1, x2⟩⟩ := hSw; go_simp; try exact rfl
                            try simp only [List.setIfInBounds_toArray, List.set_cons_zero, List.set_cons_succ]
                            refine takeYes (i := 16) (d := 132) (v := ?_) rfl rfl (by kernel_rfl) (by kernel_rfl) (by kernel_rfl) (fun _ _ _ h => h) (by rfl) (by assumption) ?_ ?_
                            rotate_left
                            · intro w' hSw; obtain ⟨⟨_, _, a0, a1, a2⟩, ⟨_, _, c0, c1, c2⟩, ⟨_, _, v0, v1, v2⟩, ⟨_, _, x0, x1, x2⟩⟩ := hSw; go_simp; try exact rfl
                            try simp only [List.setIfInBounds_toArray, List.set_cons_zero, List.set_cons_succ]
                            refine takeNo (i := 17) (d := 133) rfl rfl (by kernel_rfl) (by kernel_rfl) (by kernel_rfl) (fun _ _ _ h => h) (by rfl) (by assumption) ?_
                            try simp only [List.setIfInBounds_toArray, List.set_cons_zero, List.set_cons_succ]
                            refine takeNo (i := 18) (d := 134) rfl rfl (by kernel_rfl) (by kernel_rfl) (by kernel_rfl) (fun _ _ _ h => h) (by rfl) (by assumption) ?_
                            try simp only [List.setIfInBounds_toArray, List.set_cons_zero, List.set_cons_succ]
                            refine takeNo (i := 19) (d := 135) rfl rfl (by kernel_rfl) (by kernel_rfl) (by kernel_rfl) (fun _ _ _ h => h) (by rfl) (by assumption) ?_
                            try simp only [List.setIfInBounds_toArray, List.set_cons_zero, List.set_cons_succ]
                            refine takeNo (i := 20) (d := 136) rfl rfl (by kernel_rfl) (by kernel_rfl) (by kernel_rfl) (fun _ _ _ h => h) (by rfl) (by assumption) ?_
                            try simp only [List.setIfInBounds_toArray, List.set_cons_zero, List.set_cons_succ]
                            refine takeNo (i := 21) (d := 137) rfl rfl (by kernel_rfl) (by kernel_rfl) (by kernel_rfl) (fun _ _ _ h => h) (by rfl) (by assumption) ?_
                            try simp only [List.setIfInBounds_toArray, List.set_cons_zero, List.set_cons_succ]
                            refine takeNo (i := 22) (d := 138) rfl rfl (by kernel_rfl) (by kernel_rfl) (by kernel_rfl) (fun _ _ _ h => h) (by rfl) (by assumption) ?_
                            try simp only [List.setIfInBounds_toArray, List.set_cons_zero, List.set_cons_succ]
                            refine takeNo (i := 23) (d := 139) rfl rfl (by kernel_rfl) (by kernel_rfl) (by kernel_rfl) (fun _ _ _ h => h) (by rfl) (by assumption) ?_
                            try simp only [List.setIfInBounds_toArray, List.set_cons_zero, List.set_cons_succ]
                            refine takeNo (i := 24) (d := 140) rfl rfl (by kernel_rfl) (by kernel_rfl) (by kernel_rfl) (fun _ _ _ h => h) (by rfl) (by assumption) ?_
                            try simp only [List.setIfInBounds_toArray, List.set_cons_zero, List.set_cons_succ]
                            refine takeYes (i := 25) (d := 141) (v := ?_) rfl rfl (by kernel_rfl) (by kernel_rfl) (by kernel_rfl) (fun _ _ _ h => h) (by rfl) (by assumption) ?_ ?_
                            rotate_left
                            · intro w' hSw; obtain ⟨⟨_, _, a0, a1, a2⟩, ⟨_, _, c0, c1, c2⟩, ⟨_, _, v0, v1, v2⟩, ⟨_, _, x0, x1, x2⟩⟩ := hSw; go_simp; try exact rfl
                            try simp only [List.setIfInBounds_toArray, List.set_cons_zero, List.set_cons_succ]
                            refine wpAnyH_done (by kernel_rfl) ?_ _
                            go_wp2_with fail
                            (try go_meet)
                            (try (case rel => exact ⟨rfl, bel⟩))
                        · have ekb : (k == 2) = false := by simp [ek]
                          refine wp_region_held_drew (S := (fun w' => VarV w' bA k n s ∧ VarV w' bC k' n' s' ∧ VarV w' g Ka Na ⟨#[]⟩ ∧ VarV w' h Ko No ⟨#[]⟩)) (by kernel_rfl) ?_ (fun hHeld => ?_)
                          · exact ⟨hA.below (bel), hC.below (bel), hg.below (bel), hh.below (bel)⟩
                          refine takeYes (i := 0) (d := 116) (v := ?_) rfl rfl (by kernel_rfl) (by kernel_rfl) (by kernel_rfl) (fun _ _ _ h => h) (by rfl) (by assumption) ?_ ?_
                          rotate_left
                          · intro w' hSw; obtain ⟨⟨_, _, a0, a1, a2⟩, ⟨_, _, c0, c1, c2⟩, ⟨_, _, v0, v1, v2⟩, ⟨_, _, x0, x1, x2⟩⟩ := hSw; go_simp; try exact rfl
                          try simp only [List.setIfInBounds_toArray, List.set_cons_zero, List.set_cons_succ]
                          refine wpAnyH_ready (rs := [1]) (by kernel_rfl) (by simp) ?_
                          refine AllReadyH.cons rfl (fun KK hKK => ?_) AllReadyH.nil
                          go_simp
                          go_at_call 15
                          refine Calls.mono (specValueOk_any k n s _ hs2) ?_
                          rintro x w8 ⟨rfl, hb8⟩
                          have hz8 := hb8.size
                          (try simp at hz8)
                          rw [hoa.out]
                          try go_wp2_with fail
                          refine hKK.out _ _ ?_ (fun hHeld1 => ?_)
                          · exact ⟨hA.below (bel), hC.below (bel), hg.below (bel), hh.below (bel)⟩
                          clear hKK
                          refine takeYes (i := 2) (d := 118) (v := ?_) rfl rfl (by kernel_rfl) (by kernel_rfl) (by kernel_rfl) (fun _ _ _ h => h) (by rfl) (by assumption) ?_ ?_
                          rotate_left
                          · intro w' hSw; obtain ⟨⟨_, _, a0, a1, a2⟩, ⟨_, _, c0, c1, c2⟩, ⟨_, _, v0, v1, v2⟩, ⟨_, _, x0, x1, x2⟩⟩ := hSw; go_simp; try exact rfl
                          try simp only [List.setIfInBounds_toArray, List.set_cons_zero, List.set_cons_succ]
                          refine takeYes (i := 3) (d := 119) (v := ?_) rfl rfl (by kernel_rfl) (by kernel_rfl) (by kernel_rfl) (fun _ _ _ h => h) (by rfl) (by assumption) ?_ ?_
                          rotate_left
                          · intro w' hSw; obtain ⟨⟨_, _, a0, a1, a2⟩, ⟨_, _, c0, c1, c2⟩, ⟨_, _, v0, v1, v2⟩, ⟨_, _, x0, x1, x2⟩⟩ := hSw; go_simp; try exact rfl
                          try simp only [List.setIfInBounds_toArray, List.set_cons_zero, List.set_cons_succ]
                          refine wpAnyH_ready (rs := [4]) (by kernel_rfl) (by simp) ?_
                          refine AllReadyH.cons rfl (fun KK hKK => ?_) AllReadyH.nil
                          go_simp
                          go_at_call 15
                          refine Calls.mono (specValueOk_any k' n' s' _ hs2') ?_
                          rintro x w9 ⟨rfl, hb9⟩
                          have hz9 := hb9.size
                          (try simp at hz9)
                          rw [hob.out]
                          try go_wp2_with fail
                          refine hKK.out _ _ ?_ (fun hHeld4 => ?_)
                          · exact ⟨hA.below (bel), hC.below (bel), hg.below (bel), hh.below (bel)⟩
                          clear hKK
                          refine takeYes (i := 5) (d := 121) (v := ?_) rfl rfl (by kernel_rfl) (by kernel_rfl) (by kernel_rfl) (fun _ _ _ h => h) (by rfl) (by assumption) ?_ ?_
                          rotate_left
                          · intro w' hSw; obtain ⟨⟨_, _, a0, a1, a2⟩, ⟨_, _, c0, c1, c2⟩, ⟨_, _, v0, v1, v2⟩, ⟨_, _, x0, x1, x2⟩⟩ := hSw; go_simp; try exact rfl
                          try simp only [List.setIfInBounds_toArray, List.set_cons_zero, List.set_cons_succ]
                          refine takeYes (i := 6) (d := 122) (v := ?_) rfl rfl (by kernel_rfl) (by kernel_rfl) (by kernel_rfl) (fun _ _ _ h => h) (by rfl) (by assumption) ?_ ?_
                          rotate_left
                          · intro w' hSw; obtain ⟨⟨_, _, a0, a1, a2⟩, ⟨_, _, c0, c1, c2⟩, ⟨_, _, v0, v1, v2⟩, ⟨_, _, x0, x1, x2⟩⟩ := hSw; go_simp; try exact rfl
                          try simp only [List.setIfInBounds_toArray, List.set_cons_zero, List.set_cons_succ]
                          refine takeYes (i := 7) (d := 123) (v := ?_) rfl rfl (by kernel_rfl) (by kernel_rfl) (by kernel_rfl) (fun _ _ _ h => h) (by rfl) (by assumption) ?_ ?_
                          rotate_left
                          · intro w' hSw; obtain ⟨⟨_, _, a0, a1, a2⟩, ⟨_, _, c0, c1, c2⟩, ⟨_, _, v0, v1, v2⟩, ⟨_, _, x0, x1, x2⟩⟩ := hSw; go_simp; try exact rfl
                          try simp only [List.setIfInBounds_toArray, List.set_cons_zero, List.set_cons_succ]
                          refine takeYes (i := 8) (d := 124) (v := ?_) rfl rfl (by kernel_rfl) (by kernel_rfl) (by kernel_rfl) (fun _ _ _ h => h) (by rfl) (by assumption) ?_ ?_
                          rotate_left
                          · intro w' hSw; obtain ⟨⟨_, _, a0, a1, a2⟩, ⟨_, _, c0, c1, c2⟩, ⟨_, _, v0, v1, v2⟩, ⟨_, _, x0, x1, x2⟩⟩ := hSw; go_simp; try exact rfl
                          try simp only [List.setIfInBounds_toArray, List.set_cons_zero, List.set_cons_succ]
                          refine takeYes (i := 9) (d := 125) (v := ?_) rfl rfl (by kernel_rfl) (by kernel_rfl) (by kernel_rfl) (fun _ _ _ h => h) (by rfl) (by assumption) ?_ ?_
                          rotate_left
                          · intro w' hSw; obtain ⟨⟨_, _, a0, a1, a2⟩, ⟨_, _, c0, c1, c2⟩, ⟨_, _, v0, v1, v2⟩, ⟨_, _, x0, x1, x2⟩⟩ := hSw; go_simp; try exact rfl
                          try simp only [List.setIfInBounds_toArray, List.set_cons_zero, List.set_cons_succ]
                          refine takeYes (i := 10) (d := 126) (v := ?_) rfl rfl (by kernel_rfl) (by kernel_rfl) (by kernel_rfl) (fun _ _ _ h => h) (by rfl) (by assumption) ?_ ?_
                          rotate_left
                          · intro w' hSw; obtain ⟨⟨_, _, a0, a1, a2⟩, ⟨_, _, c0, c1, c2⟩, ⟨_, _, v0, v1, v2⟩, ⟨_, _, x0, x1, x2⟩⟩ := hSw; go_simp; try exact rfl
                          try simp only [List.setIfInBounds_toArray, List.set_cons_zero, List.set_cons_succ]
                          refine takeYes (i := 11) (d := 127) (v := ?_) rfl rfl (by kernel_rfl) (by kernel_rfl) (by kernel_rfl) (fun _ _ _ h => h) (by rfl) (by assumption) ?_ ?_
                          rotate_left
                          · intro w' hSw; obtain ⟨⟨_, _, a0, a1, a2⟩, ⟨_, _, c0, c1, c2⟩, ⟨_, _, v0, v1, v2⟩, ⟨_, _, x0, x1, x2⟩⟩ := hSw; go_simp; try exact rfl
                          try simp only [List.setIfInBounds_toArray, List.set_cons_zero, List.set_cons_succ]
                          refine takeNo (i := 12) (d := 128) rfl rfl (by kernel_rfl) (by kernel_rfl) (by kernel_rfl) (fun _ _ _ h => h) (by rfl) (by assumption) ?_
                          try simp only [List.setIfInBounds_toArray, List.set_cons_zero, List.set_cons_succ]
                          refine takeNo (i := 13) (d := 129) rfl rfl (by kernel_rfl) (by kernel_rfl) (by kernel_rfl) (fun _ _ _ h => h) (by rfl) (by assumption) ?_
                          try simp only [List.setIfInBounds_toArray, List.set_cons_zero, List.set_cons_succ]
                          refine takeNo (i := 14) (d := 130) rfl rfl (by kernel_rfl) (by kernel_rfl) (by kernel_rfl) (fun _ _ _ h => h) (by rfl) (by assumption) ?_
                          try simp only [List.setIfInBounds_toArray, List.set_cons_zero, List.set_cons_succ]
                          refine takeYes (i := 15) (d := 131) (v := ?_) rfl rfl (by kernel_rfl) (by kernel_rfl) (by kernel_rfl) (fun _ _ _ h => h) (by rfl) (by assumption) ?_ ?_
                          rotate_left
                          · intro w' hSw; obtain ⟨⟨_, _, a0, a1, a2⟩, ⟨_, _, c0, c1, c2⟩, ⟨_, _, v0, v1, v2⟩, ⟨_, _, x0, x1, x2⟩⟩ := hSw; go_simp; try exact rfl
                          try simp only [List.setIfInBounds_toArray, List.set_cons_zero, List.set_cons_succ]
                          refine takeYes (i := 16) (d := 132) (v := ?_) rfl rfl (by kernel_rfl) (by kernel_rfl) (by kernel_rfl) (fun _ _ _ h => h) (by rfl) (by assumption) ?_ ?_
                          rotate_left
                          · intro w' hSw; obtain ⟨⟨_, _, a0, a1, a2⟩, ⟨_, _, c0, c1, c2⟩, ⟨_, _, v0, v1, v2⟩, ⟨_, _, x0, x1, x2⟩⟩ := hSw; go_simp; try exact rfl
                          try simp only [List.setIfInBounds_toArray, List.set_cons_zero, List.set_cons_succ]
                          refine takeNo (i := 17) (d := 133) rfl rfl (by kernel_rfl) (by kernel_rfl) (by kernel_rfl) (fun _ _ _ h => h) (by rfl) (by assumption) ?_
                          try simp only [List.setIfInBounds_toArray, List.set_cons_zero, List.set_cons_succ]
                          refine takeNo (i := 18) (d := 134) rfl rfl (by kernel_rfl) (by kernel_rfl) (by kernel_rfl) (fun _ _ _ h => h) (by rfl) (by assumption) ?_
                          try simp only [List.setIfInBounds_toArray, List.set_cons_zero, List.set_cons_succ]
                          refine takeNo (i := 19) (d := 135) rfl rfl (by kernel_rfl) (by kernel_rfl) (by kernel_rfl) (fun _ _ _ h => h) (by rfl) (by assumption) ?_
                          try simp only [List.setIfInBounds_toArray, List.set_cons_zero, List.set_cons_succ]
                          refine takeNo (i := 20) (d := 136) rfl rfl (by kernel_rfl) (by kernel_rfl) (by kernel_rfl) (fun _ _ _ h => h) (by rfl) (by assumption) ?_
                          try simp only [List.setIfInBounds_toArray, List.set_cons_zero, List.set_cons_succ]
                          refine takeNo (i := 21) (d := 137) rfl rfl (by kernel_rfl) (by kernel_rfl) (by kernel_rfl) (fun _ _ _ h => h) (by rfl) (by assumption) ?_
                          try simp only [List.setIfInBounds_toArray, List.set_cons_zero, List.set_cons_succ]
                          refine takeNo (i := 22) (d := 138) rfl rfl (by kernel_rfl) (by kernel_rfl) (by kernel_rfl) (fun _ _ _ h => h) (by rfl) (by assumption) ?_
                          try simp only [List.setIfInBounds_toArray, List.set_cons_zero, List.set_cons_succ]
                          refine takeNo (i := 23) (d := 139) rfl rfl (by kernel_rfl) (by kernel_rfl) (by kernel_rfl) (fun _ _ _ h => h) (by rfl) (by assumption) ?_
                          try simp only [List.setIfInBounds_toArray, List.set_cons_zero, List.set_cons_succ]
                          refine takeNo (i := 24) (d := 140) rfl rfl (by kernel_rfl) (by kernel_rfl) (by kernel_rfl) (fun _ _ _ h => h) (by rfl) (by assumption) ?_
                          try simp only [List.setIfInBounds_toArray, List.set_cons_zero, List.set_cons_succ]
                          refine takeYes (i := 25) (d := 141) (v := ?_) rfl rfl (by kernel_rfl) (by kernel_rfl) (by kernel_rfl) (fun _ _ _ h => h) (by rfl) (by assumption) ?_ ?_
                          rotate_left
                          · intro w' hSw; obtain ⟨⟨_, _, a0, a1, a2⟩, ⟨_, _, c0, c1, c2⟩, ⟨_, _, v0, v1, v2⟩, ⟨_, _, x0, x1, x2⟩⟩ := hSw; go_simp; try exact rfl
                          try simp only [List.setIfInBounds_toArray, List.set_cons_zero, List.set_cons_succ]
                          refine wpAnyH_done (by kernel_rfl) ?_ _
                          go_wp2_with fail
                          (try go_meet)
                          (try (case rel => exact ⟨rfl, bel⟩))
                  case rest =>
                    as_aux_lemma =>
                      obtain ⟨rfl, hbL⟩ := hcut
                      replace hA := hA.below hbL
                      replace hC := hC.below hbL
                      replace hg := hg.below hbL
                      replace hh := hh.below hbL
                      replace hbw : Below w.heap.size w wc := hbw.trans (hbL.mono hzw)
                      replace hzw := hbw.size
                      clear hbL
                      go_wp2_with fail
                      clear Da
                      obtain ⟨K1, N1, K2, N2, K3, N3, r10, r20, r30, h1, b1, b2, b3⟩ := three k n s k' n' s'
                      have r1 : Hid _ := r10
                      have r2 : Hid _ := r20
                      have r3 : Hid _ := r30
                      have H1 : Hid _ := h1
                      clear r10 r20 r30 h1 hg hh
                      go_cut [10, 11, 12] (fun v10 v11 v12 wz => ∃ g1 g2 g3, v10 = .pointer (some ⟨g1, 0, none⟩) ∧ v11 = .pointer (some ⟨g2, 0, none⟩) ∧ v12 = .pointer (some ⟨g3, 0, none⟩) ∧ VarV wz g1 K1 N1 ⟨#[]⟩ ∧ VarV wz g2 K2 N2 ⟨#[]⟩ ∧ VarV wz g3 K3 N3 ⟨#[]⟩ ∧ Below wc.heap.size wc wz)
                      case first =>
                        as_aux_lemma =>
                          refine wp_region_held_drew (S := (fun w' => VarV w' bA k n s ∧ VarV w' bC k' n' s')) (by kernel_rfl) ?_ (fun hHeld => ?_)
                          · exact ⟨hA.below (bel), hC.below (bel)⟩
                          refine takeYes (i := 0) (d := 142) (v := ?_) rfl rfl (by kernel_rfl) (by kernel_rfl) (by kernel_rfl) (fun _ _ _ h => h) (by rfl) (by assumption) ?_ ?_
                          rotate_left
                          · intro w' hSw; obtain ⟨⟨_, _, a0, a1, a2⟩, ⟨_, _, c0, c1, c2⟩⟩ := hSw; go_simp; try exact rfl
                          try simp only [List.setIfInBounds_toArray, List.set_cons_zero, List.set_cons_succ]
                          refine takeYes (i := 1) (d := 143) (v := ?_) rfl rfl (by kernel_rfl) (by kernel_rfl) (by kernel_rfl) (fun _ _ _ h => h) (by rfl) (by assumption) ?_ ?_
                          rotate_left
                          · intro w' hSw; obtain ⟨⟨_, _, a0, a1, a2⟩, ⟨_, _, c0, c1, c2⟩⟩ := hSw; go_simp; try exact rfl
                          try simp only [List.setIfInBounds_toArray, List.set_cons_zero, List.set_cons_succ]
                          refine takeYes (i := 3) (d := 145) (v := ?_) rfl rfl (by kernel_rfl) (by kernel_rfl) (by kernel_rfl) (fun _ _ _ h => h) (by rfl) (by assumption) ?_ ?_
                          rotate_left
                          · intro w' hSw; obtain ⟨⟨_, _, a0, a1, a2⟩, ⟨_, _, c0, c1, c2⟩⟩ := hSw; go_simp; try exact rfl
                          try simp only [List.setIfInBounds_toArray, List.set_cons_zero, List.set_cons_succ]
                          refine takeYes (i := 4) (d := 146) (v := ?_) rfl rfl (by kernel_rfl) (by kernel_rfl) (by kernel_rfl) (fun _ _ _ h => h) (by rfl) (by assumption) ?_ ?_
                          rotate_left
                          · intro w' hSw; obtain ⟨⟨_, _, a0, a1, a2⟩, ⟨_, _, c0, c1, c2⟩⟩ := hSw; go_simp; try exact rfl
                          try simp only [List.setIfInBounds_toArray, List.set_cons_zero, List.set_cons_succ]
                          refine takeYes (i := 6) (d := 148) (v := ?_) rfl rfl (by kernel_rfl) (by kernel_rfl) (by kernel_rfl) (fun _ _ _ h => h) (by rfl) (by assumption) ?_ ?_
                          rotate_left
                          · intro w' hSw; obtain ⟨⟨_, _, a0, a1, a2⟩, ⟨_, _, c0, c1, c2⟩⟩ := hSw; go_simp; try exact rfl
                          try simp only [List.setIfInBounds_toArray, List.set_cons_zero, List.set_cons_succ]
                          refine takeYes (i := 7) (d := 149) (v := ?_) rfl rfl (by kernel_rfl) (by kernel_rfl) (by kernel_rfl) (fun _ _ _ h => h) (by rfl) (by assumption) ?_ ?_
                          rotate_left
                          · intro w' hSw; obtain ⟨⟨_, _, a0, a1, a2⟩, ⟨_, _, c0, c1, c2⟩⟩ := hSw; go_simp; try exact rfl
                          try simp only [List.setIfInBounds_toArray, List.set_cons_zero, List.set_cons_succ]
                          refine calls_vars (f0 := 3) [(2, 144, (.agg #[.int .i64 K1, .int .i64 N1, .string ⟨#[]⟩])), (5, 147, (.agg #[.int .i64 K2, .int .i64 N2, .string ⟨#[]⟩])), (8, 150, (.agg #[.int .i64 K3, .int .i64 N3, .string ⟨#[]⟩]))] [(9, 10), (10, 11), (11, 12)] 25 (Lend := #[true, true, true, true, true, true, true, true, true, true, true, true, false, false, false]) (by kernel_rfl) (by kernel_rfl) (by simp) (by simp) (by kernel_rfl) (by kernel_rfl) (fun w' hb => ⟨hHeld.1.below hb, hHeld.2.below hb⟩) ?_ ?_ ?_
                          · intro c hc
                            simp only [List.mem_cons, List.not_mem_nil, or_false] at hc
                            rcases hc with rfl | rfl | rfl
                            · intro a wq K hO hbq hK
                              refine wpOp_step rfl (fun K' hK' => ?_)
                              have hKK : Shut (∀ a w, K a w → K' a w) := hK'
                              clear hK'
                              obtain ⟨ats, ads⟩ := a
                              have e0 : ats.getD 142 undef = (.agg #[.int .i64 k, .int .i64 n, .string s]) := (hO.2.2 142 (by simp)).trans rfl
                              have e1 : ats.getD 143 undef = (.agg #[.int .i64 k', .int .i64 n', .string s']) := (hO.2.2 143 (by simp)).trans rfl
                              clear hO
                              rw [if_pos (by rfl)]
                              go_simp
                              refine (r1.out wq).mono ?_
                              rintro x w' ⟨rfl, hb⟩
                              exact hKK.out _ _ (hK.out w' hb)
                            · intro a wq K hO hbq hK
                              refine wpOp_step rfl (fun K' hK' => ?_)
                              have hKK : Shut (∀ a w, K a w → K' a w) := hK'
                              clear hK'
                              obtain ⟨ats, ads⟩ := a
                              have e0 : ats.getD 145 undef = (.agg #[.int .i64 k, .int .i64 n, .string s]) := (hO.2.2 145 (by simp)).trans rfl
                              have e1 : ats.getD 146 undef = (.agg #[.int .i64 k', .int .i64 n', .string s']) := (hO.2.2 146 (by simp)).trans rfl
                              clear hO
                              rw [if_pos (by rfl)]
                              go_simp
                              refine (r2.out wq).mono ?_
                              rintro x w' ⟨rfl, hb⟩
                              exact hKK.out _ _ (hK.out w' hb)
                            · intro a wq K hO hbq hK
                              refine wpOp_step rfl (fun K' hK' => ?_)
                              have hKK : Shut (∀ a w, K a w → K' a w) := hK'
                              clear hK'
                              obtain ⟨ats, ads⟩ := a
                              have e0 : ats.getD 148 undef = (.agg #[.int .i64 k', .int .i64 n', .string s']) := (hO.2.2 148 (by simp)).trans rfl
                              have e1 : ats.getD 149 undef = (.agg #[.int .i64 k, .int .i64 n, .string s]) := (hO.2.2 149 (by simp)).trans rfl
                              clear hO
                              rw [if_pos (by rfl)]
                              go_simp
                              refine (r3.out wq).mono ?_
                              rintro x w' ⟨rfl, hb⟩
                              exact hKK.out _ _ (hK.out w' hb)
                          · intro c hc
                            simp only [List.mem_cons, List.not_mem_nil, or_false] at hc
                            rcases hc with rfl | rfl | rfl
                            · intro a wq K hK
                              refine wpOp_step rfl (fun K' hK' => ?_)
                              have hKK := hK' _ _ hK
                              clear hK hK'
                              rw [if_pos (by rfl)]
                              go_simp
                              exact hKK
                            · intro a wq K hK
                              refine wpOp_step rfl (fun K' hK' => ?_)
                              have hKK := hK' _ _ hK
                              clear hK hK'
                              rw [if_pos (by rfl)]
                              go_simp
                              exact hKK
                            · intro a wq K hK
                              refine wpOp_step rfl (fun K' hK' => ?_)
                              have hKK := hK' _ _ hK
                              clear hK hK'
                              rw [if_pos (by rfl)]
                              go_simp
                              exact hKK
                          intro NN w5 hb5 hv5 hd5
                          simp only [List.map, List.foldl, List.cons_append, List.nil_append]
                          try simp only [List.setIfInBounds_toArray, List.set_cons_zero, List.set_cons_succ]
                          obtain ⟨lg1, hg1⟩ := hv5 (9, 10) (by simp)
                          obtain ⟨lg2, hg2⟩ := hv5 (10, 11) (by simp)
                          obtain ⟨lg3, hg3⟩ := hv5 (11, 12) (by simp)
                          have ng1g2 := hd5 (9, 10) (by simp) (10, 11) (by simp) (by decide)
                          have ng1g3 := hd5 (9, 10) (by simp) (11, 12) (by simp) (by decide)
                          have ng2g3 := hd5 (10, 11) (by simp) (11, 12) (by simp) (by decide)
                          clear hv5 hd5
                          obtain ⟨g1, eg1⟩ : ∃ g, g = NN 9 := ⟨_, rfl⟩
                          obtain ⟨g2, eg2⟩ : ∃ g, g = NN 10 := ⟨_, rfl⟩
                          obtain ⟨g3, eg3⟩ : ∃ g, g = NN 11 := ⟨_, rfl⟩
                          simp only [← eg1, ← eg2, ← eg3] at lg1 lg2 lg3 hg1 hg2 hg3 ng1g2 ng1g3 ng2g3 ⊢
                          clear eg1 eg2 eg3
                          have l_hA := hA.lt
                          replace hA := hHeld.1.below hb5
                          have l_hC := hC.lt
                          replace hC := hHeld.2.below hb5
                          have zW : wc.drew.heap.size = wc.heap.size := rfl
                          rw [zW] at lg1 lg2 lg3
                          clear zW
                          refine wpAnyH_ready (rs := [12]) (by kernel_rfl) (by simp) ?_
                          refine AllReadyH.cons rfl (fun KK hKK => ?_) AllReadyH.nil
                          have hq := hg1
                          obtain ⟨_, f6, z0, z1, z2⟩ := hq
                          go_simp
                          clear f6 z0 z1 z2
                          replace hb5 := below3 hb5 lg1 (.int .i64 K1) (.int .i64 N1) (.string ⟨#[]⟩)
                          replace hg1 := hg1.put K1 N1 ⟨#[]⟩
                          replace hA := hA.far (show bA ≠ g1 by omega) (.int .i64 K1) (.int .i64 N1) (.string ⟨#[]⟩)
                          replace hC := hC.far (show bC ≠ g1 by omega) (.int .i64 K1) (.int .i64 N1) (.string ⟨#[]⟩)
                          replace hg2 := hg2.far (show g2 ≠ g1 by omega) (.int .i64 K1) (.int .i64 N1) (.string ⟨#[]⟩)
                          replace hg3 := hg3.far (show g3 ≠ g1 by omega) (.int .i64 K1) (.int .i64 N1) (.string ⟨#[]⟩)
                          obtain ⟨V6, hW⟩ : ∃ x, x = (((w5.setCell ⟨g1, 0, none⟩ (.int .i64 K1)).setCell ⟨g1, 1, none⟩ (.int .i64 N1)).setCell ⟨g1, 2, none⟩ (.string ⟨#[]⟩)) := ⟨_, rfl⟩
                          rw [← hW] at hb5 hA hC hg1 hg2 hg3
                          rw [← hW]
                          clear hW
                          refine hKK.out _ _ ⟨hA, hC⟩ (fun hHeld12 => ?_)
                          clear hKK hHeld12
                          refine wpAnyH_ready (rs := [13]) (by kernel_rfl) (by simp) ?_
                          refine AllReadyH.cons rfl (fun KK hKK => ?_) AllReadyH.nil
                          have hq := hg2
                          obtain ⟨_, f6, z0, z1, z2⟩ := hq
                          go_simp
                          clear f6 z0 z1 z2
                          replace hb5 := below3 hb5 lg2 (.int .i64 K2) (.int .i64 N2) (.string ⟨#[]⟩)
                          replace hg2 := hg2.put K2 N2 ⟨#[]⟩
                          replace hA := hA.far (show bA ≠ g2 by omega) (.int .i64 K2) (.int .i64 N2) (.string ⟨#[]⟩)
                          replace hC := hC.far (show bC ≠ g2 by omega) (.int .i64 K2) (.int .i64 N2) (.string ⟨#[]⟩)
                          replace hg1 := hg1.far (show g1 ≠ g2 by omega) (.int .i64 K2) (.int .i64 N2) (.string ⟨#[]⟩)
                          replace hg3 := hg3.far (show g3 ≠ g2 by omega) (.int .i64 K2) (.int .i64 N2) (.string ⟨#[]⟩)
                          obtain ⟨V7, hW⟩ : ∃ x, x = (((V6.setCell ⟨g2, 0, none⟩ (.int .i64 K2)).setCell ⟨g2, 1, none⟩ (.int .i64 N2)).setCell ⟨g2, 2, none⟩ (.string ⟨#[]⟩)) := ⟨_, rfl⟩
                          rw [← hW] at hb5 hA hC hg1 hg2 hg3
                          rw [← hW]
                          clear hW
                          refine hKK.out _ _ ⟨hA, hC⟩ (fun hHeld13 => ?_)
                          clear hKK hHeld13
                          refine wpAnyH_ready (rs := [14]) (by kernel_rfl) (by simp) ?_
                          refine AllReadyH.cons rfl (fun KK hKK => ?_) AllReadyH.nil
                          have hq := hg3
                          obtain ⟨_, f6, z0, z1, z2⟩ := hq
                          go_simp
                          clear f6 z0 z1 z2
                          replace hb5 := below3 hb5 lg3 (.int .i64 K3) (.int .i64 N3) (.string ⟨#[]⟩)
                          replace hg3 := hg3.put K3 N3 ⟨#[]⟩
                          replace hA := hA.far (show bA ≠ g3 by omega) (.int .i64 K3) (.int .i64 N3) (.string ⟨#[]⟩)
                          replace hC := hC.far (show bC ≠ g3 by omega) (.int .i64 K3) (.int .i64 N3) (.string ⟨#[]⟩)
                          replace hg1 := hg1.far (show g1 ≠ g3 by omega) (.int .i64 K3) (.int .i64 N3) (.string ⟨#[]⟩)
                          replace hg2 := hg2.far (show g2 ≠ g3 by omega) (.int .i64 K3) (.int .i64 N3) (.string ⟨#[]⟩)
                          obtain ⟨W8, hW⟩ : ∃ x, x = (((V7.setCell ⟨g3, 0, none⟩ (.int .i64 K3)).setCell ⟨g3, 1, none⟩ (.int .i64 N3)).setCell ⟨g3, 2, none⟩ (.string ⟨#[]⟩)) := ⟨_, rfl⟩
                          rw [← hW] at hb5 hA hC hg1 hg2 hg3
                          rw [← hW]
                          clear hW
                          refine hKK.out _ _ ⟨hA, hC⟩ (fun hHeld14 => ?_)
                          clear hKK hHeld14
                          refine wpAnyH_done (by kernel_rfl) ?_ _
                          clear hHeld
                          have hbx : Below wc.heap.size wc W8 := bel
                          go_wp2_with fail
                          (try go_meet)
                          (try (case rel => exact ⟨g1, g2, g3, rfl, rfl, rfl, hg1, hg2, hg3, hbx⟩))
                      case rest =>
                        as_aux_lemma =>
                          obtain ⟨g1, g2, g3, rfl, rfl, rfl, hg1, hg2, hg3, hbL⟩ := hcut
                          rename World => W8
                          replace hA := hA.below hbL
                          replace hC := hC.below hbL
                          replace hbw : Below w.heap.size w W8 := hbw.trans (hbL.mono hzw)
                          replace hzw := hbw.size
                          clear hbL
                          have q_p := hg1; obtain ⟨_, _, p0, p1, p2⟩ := q_p
                          have q_r := hg2; obtain ⟨_, _, r0, r1, r2⟩ := q_r
                          have q_t := hg3; obtain ⟨_, _, t0, t1, t2⟩ := q_t
                          have x1 : wrap64 (N1 + N2) = N1 + N2 := by unfold wrap64; omega
                          have x2 : wrap64 (N1 + N2 + N3) = N1 + N2 + N3 := by unfold wrap64; omega
                          (try simp only [Exit.then])
                          go_upto_region 16 with fail
                          go_cut [164] (fun v wz => v = .bool false ∧ wz = W8)
                          case first =>
                            by_cases e1 : K1 = 2
                            · have x3 : N1 + N2 + N3 = 1 := H1.out e1
                              go_wp2_with fail
                              (try go_meet)
                              (try (case rel => exact ⟨by simp_all, rfl⟩))
                            · go_wp2_with fail
                              (try go_meet)
                              (try (case rel => exact ⟨by simp_all, rfl⟩))
                          case rest =>
                            obtain ⟨rfl, e8⟩ := hcut
                            subst e8
                            clear p0 p1 p2
                            clear r0 r1 r2
                            clear t0 t1 t2
                            clear hg1 hg2 hg3 x1 x2 H1 r1 r2 r3 b1 b2 b3
                            have q_p := hA; obtain ⟨_, _, p0, p1, p2⟩ := q_p
                            have q_r := hC; obtain ⟨_, _, r0, r1, r2⟩ := q_r
                            go_wp2_with fail
                            obtain ⟨Kq, Nq, rq, hq⟩ := quot k n s k' n' s' ⟨n0, n1⟩ ⟨n0', n1'⟩
                            refine (rq _).mono ?_
                            rintro x w9 ⟨rfl, hb9⟩
                            have hz9 := hb9.size
                            clear rq
                            clear p0 p1 p2
                            clear r0 r1 r2
                            replace hA := hA.below hb9
                            replace hC := hC.below hb9
                            replace hbw : Below w.heap.size w w9 := hbw.trans (hb9.mono hzw)
                            replace hzw := hbw.size
                            clear hb9 hz9
                            by_cases eq : Kq = 1
                            rotate_left
                            · have eqb : (Kq == 1) = false := by simp [eq]
                              go_wp2
                              go_returns
                              exact ⟨rfl, bel⟩
                            obtain ⟨Kp, Np, Kr, Nr, rp, rr, hpr0⟩ := hq eq
                            have hpr : Hid _ := hpr0
                            have Rp : Hid _ := rp
                            have Rr : Hid _ := rr
                            clear hq hpr0 rp rr
                            subst eq
                            have q_p := hA; obtain ⟨_, _, p0, p1, p2⟩ := q_p
                            have q_r := hC; obtain ⟨_, _, r0, r1, r2⟩ := q_r
                            go_wp2_with fail
                            refine (Rp.out _).mono ?_
                            rintro x w10 ⟨rfl, hb10⟩
                            have hz10 := hb10.size
                            (try simp at hz10)
                            clear p0 p1 p2
                            clear r0 r1 r2
                            have hbx : Below w9.heap.size w9 w10 := bel
                            replace hA := hA.below hbx
                            replace hC := hC.below hbx
                            replace hbw : Below w.heap.size w w10 := hbw.trans (hbx.mono hzw)
                            replace hzw := hbw.size
                            clear hbx hb10 hz10 Rp
                            have q_p := hA; obtain ⟨_, _, p0, p1, p2⟩ := q_p
                            have q_r := hC; obtain ⟨_, _, r0, r1, r2⟩ := q_r
                            go_wp2_with fail
                            refine (Rr.out _).mono ?_
                            rintro x w11 ⟨rfl, hb11⟩
                            have hz11 := hb11.size
                            (try simp at hz11)
                            clear p0 p1 p2
                            clear r0 r1 r2
                            have hP := (VarV.new w10 Kp Np ⟨#[]⟩ 25).below hb11
                            have hbx : Below w10.heap.size w10 w11 := bel
                            replace hA := hA.below hbx
                            replace hC := hC.below hbx
                            replace hbw : Below w.heap.size w w11 := hbw.trans (hbx.mono hzw)
                            replace hzw := hbw.size
                            clear hbx hb11 Rr hA
                            have q_p := hP; obtain ⟨_, _, p0, p1, p2⟩ := q_p
                            have q_r := hC; obtain ⟨_, _, r0, r1, r2⟩ := q_r
                            by_cases ep : Kp = 1
                            rotate_left
                            · have epb : (Kp == 1) = false := by simp [ep]
                              go_wp2
                              go_returns
                              exact ⟨rfl, bel⟩
                            by_cases er : Kr = 1
                            rotate_left
                            · have erb : (Kr == 1) = false := by simp [er]
                              subst ep
                              go_wp2
                              go_returns
                              exact ⟨rfl, bel⟩
                            subst ep er
                            have hfin := hpr.out rfl rfl
                            clear hpr
                            rcases hfin with ⟨s1, s2, s3⟩ | ⟨s1, s2, s3⟩
                            · go_wp2
                              all_goals (go_returns; first | exact ⟨rfl, bel⟩ | (exfalso; omega))
                            · go_wp2
                              all_goals (go_returns; first | exact ⟨rfl, bel⟩ | (exfalso; omega))
end Go.Proofs.Ytlakhcmbalcclaa.fnReckon
