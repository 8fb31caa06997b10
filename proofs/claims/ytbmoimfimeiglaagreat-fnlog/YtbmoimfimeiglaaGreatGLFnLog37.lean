/- Own texts, joined: contracts that the law's proof goes by. -/
import Derived.Test.YtbmoimfimeiglaaGreatGLFnLog35
import Derived.Test.YtbmoimfimeiglaaGreatGLFnLog7
import Derived.Test.YtbmoimfimeiglaaGreatGLFnLog36
import Derived.Test.YtbmoimfimeiglaaGreatGLFnLog15
import Derived.Handy
import Derived.Deep.RegionHeld3
import Derived.Test.YtbmoimfimeiglaaGreatGLFnLog16
namespace Go.Proofs.YtbmoimfimeiglaaGreat
open Go.RowKit
set_option linter.unusedVariables false
theorem pos_of {α : Type} {l : List α} (h : l.isEmpty = false) : 0 < l.length := by cases l <;> simp at h ⊢
theorem pos_not {α : Type} {l : List α} (h : l.isEmpty = true) : ¬ 0 < l.length := by cases l <;> simp at h ⊢
set_option maxHeartbeats 8000000 in
set_option maxRecDepth 100000 in
theorem specStepOk_any (x : T5) (uc ur : Value) (w : World) (hw : x.wf) (hr : StpIs w uc ur x) :
    Calls Tryz.prog 20 #[(.agg #[.int .i64 x.k, .string x.s, uc, .string x.q, ur])] w fun e w' => e = .returned (.bool (okStep x)) ∧ Below w.heap.size w w' := by
  obtain ⟨_, ws, wc, wq, wr'⟩ := hw
  obtain ⟨⟨ac, cc, rfl, _, _⟩, _⟩ := hr.shape
  obtain ⟨⟨g, hS⟩, hR⟩ := hr
  obtain ⟨ar, cr, b, o, rfl, hl, hc, ha⟩ := hR.pick
  unfold maxLen at hc
  have hq := wq
  unfold maxLen at hq
  have e2 := isEmpty_len x.cs
  have e4 := isEmpty_len x.rs
  obtain ⟨b1, e1⟩ : ∃ b, x.s.toList.isEmpty = b := ⟨_, rfl⟩
  obtain ⟨b2, HB2⟩ : ∃ b, Hid (x.cs.isEmpty = b) := ⟨_, rfl⟩
  obtain ⟨b3, e3⟩ : ∃ b, x.q.toList.isEmpty = b := ⟨_, rfl⟩
  obtain ⟨b4, HB4⟩ : ∃ b, Hid (x.rs.isEmpty = b) := ⟨_, rfl⟩
  rw [HB2.out] at e2
  rw [HB4.out] at e4
  have HK : Hid (okStep x = if x.k = 0 then okSch [⟨x.s, x.cs⟩] && b3 && b4
    else if x.k = 1 then nameB x.s && b2 && decide (x.q.size ≤ 1000) && b4
    else if x.k = 2 then nameB x.s && b2 && b3 && b4
    else if x.k = 3 then b1 && b2 && b3 && okRels x.rs
    else false) := by simp only [Hid, okStep, e1, HB2.out, e3, HB4.out]
  have hp2 : b2 = false → 0 < x.cs.length := fun e => pos_of (HB2.out.trans e)
  have hn2 : b2 = true → ¬ 0 < x.cs.length := fun e => pos_not (HB2.out.trans e)
  have hp4 : b4 = false → 0 < x.rs.length := fun e => pos_of (HB4.out.trans e)
  have hn4 : b4 = true → ¬ 0 < x.rs.length := fun e => pos_not (HB4.out.trans e)
  by_cases k0 : x.k = 0
  · rw [if_pos k0] at HK
    have k0' : (x.k == 0) = true := by simpa using k0
    have n0' : (x.k != 0) = false := by simp [k0]
    have k1' : (x.k == 1) = false := by rw [k0]; rfl
    have n1' : (x.k != 1) = true := by rw [k0]; rfl
    have k3' : (x.k == 3) = false := by rw [k0]; rfl
    have n3' : (x.k != 3) = true := by rw [k0]; rfl
    obtain ⟨bo, HO⟩ : ∃ b, Hid (okSch [⟨x.s, x.cs⟩] = b) := ⟨_, rfl⟩
    clear k0
    cases b3 with
    | false =>
      clear hp2 hn2 hp4 hn4
      go_enter Tryz.func20, Tryz.ntmps20
      go_wp2_with fail
      go_returns
      exact ⟨ret_bool (by rw [HK.out]; try simp), bex⟩
    | true =>
    cases b4 with
    | false =>
      have l4 := hp4 rfl
      clear hp2 hn2 hp4 hn4
      go_enter Tryz.func20, Tryz.ntmps20
      go_wp2_with fail
      go_returns
      exact ⟨ret_bool (by rw [HK.out]; try simp), bex⟩
    | true =>
    have l4 := hn4 rfl
    clear hp2 hn2 hp4 hn4
    go_enter Tryz.func20, Tryz.ntmps20
    go_wp2_with fail
    refine Calls.mono (specSchemasOk_any _ [⟨x.s, x.cs⟩] _ ?hw (schs_one (s := x.s) (hS.below ?hb) rfl ?hl ?h0 ?h1)) ?_
    case hw => intro y hy; obtain rfl := List.mem_singleton.1 hy; exact ⟨ws, wc⟩
    case hb => exact bex
    case hl => simp
    case h0 => go_simp
    case h1 => go_simp
    rw [HO.out]
    rintro e w1 ⟨rfl, hb1⟩
    have bel1 : Below w.heap.size w w1 := by
      refine Below.trans ?_ (hb1.mono ?_)
      · exact bex
      · (simp; try omega)
    cases bo <;> (
      go_wp2_with fail
      go_returns
      exact ⟨ret_bool (by rw [HK.out, HO.out]; rfl), bel1⟩)
  have k0' : (x.k == 0) = false := by simpa using k0
  have n0' : (x.k != 0) = true := by simp [k0]
  rw [if_neg k0] at HK
  clear k0
  by_cases k1 : x.k = 1
  · rw [if_pos k1] at HK
    have k1' : (x.k == 1) = true := by simpa using k1
    have n1' : (x.k != 1) = false := by simp [k1]
    have k3' : (x.k == 3) = false := by rw [k1]; rfl
    have n3' : (x.k != 3) = true := by rw [k1]; rfl
    obtain ⟨bo, HO⟩ : ∃ b, Hid (nameB x.s = b) := ⟨_, rfl⟩
    clear k1
    cases b2 with
    | false =>
      have l2 := hp2 rfl
      clear hp2 hn2 hp4 hn4
      go_enter Tryz.func20, Tryz.ntmps20
      go_wp2_with fail
      go_returns
      exact ⟨ret_bool (by rw [HK.out]; try simp), bex⟩
    | true =>
    have l2 := hn2 rfl
    cases b4 with
    | false =>
      have l4 := hp4 rfl
      clear hp2 hn2 hp4 hn4
      go_enter Tryz.func20, Tryz.ntmps20
      go_wp2_with fail
      go_returns
      exact ⟨ret_bool (by rw [HK.out]; try simp), bex⟩
    | true =>
    have l4 := hn4 rfl
    clear hp2 hn2 hp4 hn4
    by_cases hk : (x.q.size : Int) ≤ 1000
    · have HQ : Hid (decide (x.q.size ≤ 1000) = true) := by simp [Hid]; omega
      go_enter Tryz.func20, Tryz.ntmps20
      go_wp2_with fail
      refine Calls.mono (specName_any x.s _ ws) ?_
      rw [HO.out]
      rintro e w1 ⟨rfl, rfl⟩
      cases bo <;> (
        go_wp2_with fail
        go_returns
        exact ⟨ret_bool (by rw [HK.out, HO.out, HQ.out]; first | rfl | (simp; omega)), bex⟩)
    · have HQ : Hid (decide (x.q.size ≤ 1000) = false) := by simp [Hid]; omega
      go_enter Tryz.func20, Tryz.ntmps20
      go_wp2_with fail
      refine Calls.mono (specName_any x.s _ ws) ?_
      rw [HO.out]
      rintro e w1 ⟨rfl, rfl⟩
      cases bo <;> (
        go_wp2_with fail
        go_returns
        exact ⟨ret_bool (by rw [HK.out, HO.out, HQ.out]; first | rfl | (simp; omega)), bex⟩)
  have k1' : (x.k == 1) = false := by simpa using k1
  have n1' : (x.k != 1) = true := by simp [k1]
  rw [if_neg k1] at HK
  clear k1
  by_cases k2 : x.k = 2
  · rw [if_pos k2] at HK
    have k2' : (x.k == 2) = true := by simpa using k2
    have k3' : (x.k == 3) = false := by rw [k2]; rfl
    have n3' : (x.k != 3) = true := by rw [k2]; rfl
    obtain ⟨bo, HO⟩ : ∃ b, Hid (nameB x.s = b) := ⟨_, rfl⟩
    clear k2
    cases b2 with
    | false =>
      have l2 := hp2 rfl
      clear hp2 hn2 hp4 hn4
      go_enter Tryz.func20, Tryz.ntmps20
      go_wp2_with fail
      go_returns
      exact ⟨ret_bool (by rw [HK.out]; try simp), bex⟩
    | true =>
    have l2 := hn2 rfl
    cases b3 with
    | false =>
      clear hp2 hn2 hp4 hn4
      go_enter Tryz.func20, Tryz.ntmps20
      go_wp2_with fail
      go_returns
      exact ⟨ret_bool (by rw [HK.out]; try simp), bex⟩
    | true =>
    cases b4 with
    | false =>
      have l4 := hp4 rfl
      clear hp2 hn2 hp4 hn4
      go_enter Tryz.func20, Tryz.ntmps20
      go_wp2_with fail
      go_returns
      exact ⟨ret_bool (by rw [HK.out]; try simp), bex⟩
    | true =>
    have l4 := hn4 rfl
    clear hp2 hn2 hp4 hn4
    go_enter Tryz.func20, Tryz.ntmps20
    go_wp2_with fail
    refine Calls.mono (specName_any x.s _ ws) ?_
    rw [HO.out]
    rintro e w1 ⟨rfl, rfl⟩
    cases bo <;> (
      go_wp2_with fail
      go_returns
      exact ⟨ret_bool (by rw [HK.out, HO.out]; rfl), bex⟩)
  have k2' : (x.k == 2) = false := by simpa using k2
  rw [if_neg k2] at HK
  clear k2
  by_cases k3 : x.k = 3
  · rw [if_pos k3] at HK
    have k3' : (x.k == 3) = true := by simpa using k3
    have n3' : (x.k != 3) = false := by simp [k3]
    clear k3
    cases b2 with
    | false =>
      have l2 := hp2 rfl
      clear hp2 hn2 hp4 hn4
      go_enter Tryz.func20, Tryz.ntmps20
      go_wp2_with fail
      go_returns
      exact ⟨ret_bool (by rw [HK.out]; try simp), bex⟩
    | true =>
    have l2 := hn2 rfl
    cases b3 with
    | false =>
      clear hp2 hn2 hp4 hn4
      go_enter Tryz.func20, Tryz.ntmps20
      go_wp2_with fail
      go_returns
      exact ⟨ret_bool (by rw [HK.out]; try simp), bex⟩
    | true =>
    clear hp2 hn2 hp4 hn4
    go_enter Tryz.func20, Tryz.ntmps20
    go_wp2_with fail
    go_loopw [3] (fun i wr => ∃ (k : Nat) (q : Int), k ≤ x.rs.length ∧ q = k ∧ i = .int .i64 q ∧ Below w.heap.size w wr ∧ w.heap.size < wr.heap.size ∧ wr.cell? ⟨w.heap.size, 0, none⟩ = some (.int .i64 x.k) ∧ wr.cell? ⟨w.heap.size, 1, none⟩ = some (.string x.s) ∧ wr.cell? ⟨w.heap.size, 4, none⟩ = some (.slice ar x.rs.length cr) ∧ okTs none x.rs = okTs (prevT x.rs k) (x.rs.drop k)) (fun i _ => x.rs.length - (intOf i).toNat)
    case atStart => exact ⟨0, 0, Nat.zero_le _, rfl, rfl, bex, by simp, by go_simp, by go_simp, by go_simp, by simp [prevT]⟩
    case round =>
      obtain ⟨k, q, hk, hq, rfl, hb, hsz, q0, q1, q4, heq⟩ := hrel
      have HE : Hid (okTs none x.rs = okTs (prevT x.rs k) (x.rs.drop k)) := heq
      have hzb := hb.size
      clear heq
      by_cases hlt : k < x.rs.length
      · obtain ⟨rfl, hblt, hL⟩ := ha k hlt
        obtain ⟨y, u, hx, c0, c1, c2, hRw, hbr⟩ := hL.at hblt hb hlt
        obtain ⟨ur, lr, cq, rfl⟩ := hRw.shape
        obtain ⟨hxs, _, hxw⟩ := wr' y (List.mem_of_getElem? hx)
        have HS : Hid (okTs (prevT x.rs k) (x.rs.drop k) = (nameB y.s && okBag y.W y.cs && okPrevT (prevT x.rs k) y && okTs (prevT x.rs (k + 1)) (x.rs.drop (k + 1)))) := okTs_step hx
        by_cases hnm : nameB y.s = true
        rotate_left
        · have hf : nameB y.s = false := by simpa using hnm
          clear ha wr' hL hx
          subst hq
          go_wp2_with fail
          refine wp_region_held_drew (S := (fun w' => w'.cell? ⟨w.heap.size, 4, none⟩ = some (.slice (some ⟨b, o, none⟩) x.rs.length cr) ∧ w'.cell? ⟨b, o + k * 3, none⟩ = some (.string y.s) ∧ w'.cell? ⟨b, o + k * 3 + 1, none⟩ = some (.int .i64 y.W) ∧ w'.cell? ⟨b, o + k * 3 + 2, none⟩ = some (.slice ur lr cq))) (by kernel_rfl) ?_ (fun hHeld => ?_)
          · (try dsimp only); refine ⟨?_, ?_, ?_, ?_⟩ <;> first | (go_simp; done) | (exact cell_later (by assumption) (by go_simp))
          refine tkY (i := 0) (d := 68) (v := ?_) rfl rfl ?_ ?_
          rotate_left
          · intro w' hSw; (try dsimp only at hSw); go_simp; try exact rfl
          try simp only [List.setIfInBounds_toArray, List.set_cons_zero, List.set_cons_succ]
          refine tkY (i := 1) (d := 69) (v := ?_) rfl rfl ?_ ?_
          rotate_left
          · intro w' hSw; (try dsimp only at hSw); go_simp; try exact rfl
          try simp only [List.setIfInBounds_toArray, List.set_cons_zero, List.set_cons_succ]
          refine tkY (i := 2) (d := 70) (v := ?_) rfl rfl ?_ ?_
          rotate_left
          · intro w' hSw; (try dsimp only at hSw); go_simp; try exact rfl
          try simp only [List.setIfInBounds_toArray, List.set_cons_zero, List.set_cons_succ]
          refine tkY (i := 3) (d := 71) (v := ?_) rfl rfl ?_ ?_
          rotate_left
          · intro w' hSw; (try dsimp only at hSw); go_simp; try exact rfl
          try simp only [List.setIfInBounds_toArray, List.set_cons_zero, List.set_cons_succ]
          refine tkY (i := 4) (d := 72) (v := ?_) rfl rfl ?_ ?_
          rotate_left
          · intro w' hSw; (try dsimp only at hSw); go_simp; try exact rfl
          try simp only [List.setIfInBounds_toArray, List.set_cons_zero, List.set_cons_succ]
          refine tkY (i := 5) (d := 73) (v := ?_) rfl rfl ?_ ?_
          rotate_left
          · intro w' hSw; (try dsimp only at hSw); go_simp; try exact rfl
          try simp only [List.setIfInBounds_toArray, List.set_cons_zero, List.set_cons_succ]
          refine wpAnyH_ready (rs := [6]) (by kernel_rfl) (by simp) ?_
          refine AllReadyH.cons rfl (fun K hK => ?_) AllReadyH.nil
          go_simp
          go_at_call 49
          refine (specName_any y.s _ hxs).mono ?_
          rintro e w1 ⟨rfl, rfl⟩
          try go_wp2_with fail
          refine hK.out _ _ ?_ (fun hHeld6 => ?_)
          · (try dsimp only); refine ⟨?_, ?_, ?_, ?_⟩ <;> first | (go_simp; done) | (exact cell_later (by assumption) (by go_simp))
          clear hK
          refine tkY (i := 7) (d := 75) (v := ?_) rfl rfl ?_ ?_
          rotate_left
          · intro w' hSw; (try dsimp only at hSw); go_simp; try exact rfl
          try simp only [List.setIfInBounds_toArray, List.set_cons_zero, List.set_cons_succ]
          refine tkY (i := 8) (d := 76) (v := ?_) rfl rfl ?_ ?_
          rotate_left
          · intro w' hSw; (try dsimp only at hSw); go_simp; try exact rfl
          try simp only [List.setIfInBounds_toArray, List.set_cons_zero, List.set_cons_succ]
          refine tkN (i := 9) (d := 77) rfl rfl ?_
          try simp only [List.setIfInBounds_toArray, List.set_cons_zero, List.set_cons_succ]
          refine tkN (i := 10) (d := 78) rfl rfl ?_
          try simp only [List.setIfInBounds_toArray, List.set_cons_zero, List.set_cons_succ]
          refine tkN (i := 11) (d := 79) rfl rfl ?_
          try simp only [List.setIfInBounds_toArray, List.set_cons_zero, List.set_cons_succ]
          refine tkN (i := 12) (d := 80) rfl rfl ?_
          try simp only [List.setIfInBounds_toArray, List.set_cons_zero, List.set_cons_succ]
          refine tkN (i := 13) (d := 81) rfl rfl ?_
          try simp only [List.setIfInBounds_toArray, List.set_cons_zero, List.set_cons_succ]
          refine tkN (i := 14) (d := 82) rfl rfl ?_
          try simp only [List.setIfInBounds_toArray, List.set_cons_zero, List.set_cons_succ]
          refine wpAnyH_ready (rs := [15]) (by kernel_rfl) (by simp) ?_
          refine AllReadyH.cons rfl (fun K hK => ?_) AllReadyH.nil
          go_simp
          refine hK.out _ _ ?_ (fun hHeld15 => ?_)
          · (try dsimp only); refine ⟨?_, ?_, ?_, ?_⟩ <;> first | (go_simp; done) | (exact cell_later (by assumption) (by go_simp))
          clear hK
          refine tkN (i := 16) (d := 84) rfl rfl ?_
          try simp only [List.setIfInBounds_toArray, List.set_cons_zero, List.set_cons_succ]
          refine tkY (i := 17) (d := 85) (v := ?_) rfl rfl ?_ ?_
          rotate_left
          · intro w' hSw; (try dsimp only at hSw); go_simp; try exact rfl
          try simp only [List.setIfInBounds_toArray, List.set_cons_zero, List.set_cons_succ]
          refine tkY (i := 18) (d := 86) (v := ?_) rfl rfl ?_ ?_
          rotate_left
          · intro w' hSw; (try dsimp only at hSw); go_simp; try exact rfl
          try simp only [List.setIfInBounds_toArray, List.set_cons_zero, List.set_cons_succ]
          refine tkN (i := 19) (d := 87) rfl rfl ?_
          try simp only [List.setIfInBounds_toArray, List.set_cons_zero, List.set_cons_succ]
          refine tkN (i := 20) (d := 88) rfl rfl ?_
          try simp only [List.setIfInBounds_toArray, List.set_cons_zero, List.set_cons_succ]
          refine tkN (i := 21) (d := 89) rfl rfl ?_
          try simp only [List.setIfInBounds_toArray, List.set_cons_zero, List.set_cons_succ]
          refine tkN (i := 22) (d := 90) rfl rfl ?_
          try simp only [List.setIfInBounds_toArray, List.set_cons_zero, List.set_cons_succ]
          refine tkN (i := 23) (d := 91) rfl rfl ?_
          try simp only [List.setIfInBounds_toArray, List.set_cons_zero, List.set_cons_succ]
          refine tkN (i := 24) (d := 92) rfl rfl ?_
          try simp only [List.setIfInBounds_toArray, List.set_cons_zero, List.set_cons_succ]
          refine tkN (i := 25) (d := 93) rfl rfl ?_
          try simp only [List.setIfInBounds_toArray, List.set_cons_zero, List.set_cons_succ]
          refine tkN (i := 26) (d := 94) rfl rfl ?_
          try simp only [List.setIfInBounds_toArray, List.set_cons_zero, List.set_cons_succ]
          refine tkN (i := 27) (d := 95) rfl rfl ?_
          try simp only [List.setIfInBounds_toArray, List.set_cons_zero, List.set_cons_succ]
          refine tkN (i := 28) (d := 96) rfl rfl ?_
          try simp only [List.setIfInBounds_toArray, List.set_cons_zero, List.set_cons_succ]
          refine tkN (i := 29) (d := 97) rfl rfl ?_
          try simp only [List.setIfInBounds_toArray, List.set_cons_zero, List.set_cons_succ]
          refine tkN (i := 30) (d := 98) rfl rfl ?_
          try simp only [List.setIfInBounds_toArray, List.set_cons_zero, List.set_cons_succ]
          refine tkN (i := 31) (d := 99) rfl rfl ?_
          try simp only [List.setIfInBounds_toArray, List.set_cons_zero, List.set_cons_succ]
          refine tkN (i := 32) (d := 100) rfl rfl ?_
          try simp only [List.setIfInBounds_toArray, List.set_cons_zero, List.set_cons_succ]
          refine tkN (i := 33) (d := 101) rfl rfl ?_
          try simp only [List.setIfInBounds_toArray, List.set_cons_zero, List.set_cons_succ]
          refine tkN (i := 34) (d := 102) rfl rfl ?_
          try simp only [List.setIfInBounds_toArray, List.set_cons_zero, List.set_cons_succ]
          refine tkN (i := 35) (d := 103) rfl rfl ?_
          try simp only [List.setIfInBounds_toArray, List.set_cons_zero, List.set_cons_succ]
          refine tkN (i := 36) (d := 104) rfl rfl ?_
          try simp only [List.setIfInBounds_toArray, List.set_cons_zero, List.set_cons_succ]
          refine tkY (i := 37) (d := 105) (v := ?_) rfl rfl ?_ ?_
          rotate_left
          · intro w' hSw; (try dsimp only at hSw); go_simp; try exact rfl
          try simp only [List.setIfInBounds_toArray, List.set_cons_zero, List.set_cons_succ]
          refine wpAnyH_done (by kernel_rfl) ?_ _
          go_wp2
          go_returns
          refine ⟨ret_bool ?_, bela⟩
          rw [HK.out]
          unfold okRels; rw [HE.out, HS.out, hf]; simp
        by_cases hpl : okBag y.W y.cs = true
        rotate_left
        · have hf : okBag y.W y.cs = false := by simpa using hpl
          clear ha wr' hL hx
          subst hq
          go_wp2_with fail
          refine wp_region_held_drew (S := (fun w' => w'.cell? ⟨w.heap.size, 4, none⟩ = some (.slice (some ⟨b, o, none⟩) x.rs.length cr) ∧ w'.cell? ⟨b, o + k * 3, none⟩ = some (.string y.s) ∧ w'.cell? ⟨b, o + k * 3 + 1, none⟩ = some (.int .i64 y.W) ∧ w'.cell? ⟨b, o + k * 3 + 2, none⟩ = some (.slice ur lr cq))) (by kernel_rfl) ?_ (fun hHeld => ?_)
          · (try dsimp only); refine ⟨?_, ?_, ?_, ?_⟩ <;> first | (go_simp; done) | (exact cell_later (by assumption) (by go_simp))
          refine tkY (i := 0) (d := 68) (v := ?_) rfl rfl ?_ ?_
          rotate_left
          · intro w' hSw; (try dsimp only at hSw); go_simp; try exact rfl
          try simp only [List.setIfInBounds_toArray, List.set_cons_zero, List.set_cons_succ]
          refine tkY (i := 1) (d := 69) (v := ?_) rfl rfl ?_ ?_
          rotate_left
          · intro w' hSw; (try dsimp only at hSw); go_simp; try exact rfl
          try simp only [List.setIfInBounds_toArray, List.set_cons_zero, List.set_cons_succ]
          refine tkY (i := 2) (d := 70) (v := ?_) rfl rfl ?_ ?_
          rotate_left
          · intro w' hSw; (try dsimp only at hSw); go_simp; try exact rfl
          try simp only [List.setIfInBounds_toArray, List.set_cons_zero, List.set_cons_succ]
          refine tkY (i := 3) (d := 71) (v := ?_) rfl rfl ?_ ?_
          rotate_left
          · intro w' hSw; (try dsimp only at hSw); go_simp; try exact rfl
          try simp only [List.setIfInBounds_toArray, List.set_cons_zero, List.set_cons_succ]
          refine tkY (i := 4) (d := 72) (v := ?_) rfl rfl ?_ ?_
          rotate_left
          · intro w' hSw; (try dsimp only at hSw); go_simp; try exact rfl
          try simp only [List.setIfInBounds_toArray, List.set_cons_zero, List.set_cons_succ]
          refine tkY (i := 5) (d := 73) (v := ?_) rfl rfl ?_ ?_
          rotate_left
          · intro w' hSw; (try dsimp only at hSw); go_simp; try exact rfl
          try simp only [List.setIfInBounds_toArray, List.set_cons_zero, List.set_cons_succ]
          refine wpAnyH_ready (rs := [6]) (by kernel_rfl) (by simp) ?_
          refine AllReadyH.cons rfl (fun K hK => ?_) AllReadyH.nil
          go_simp
          go_at_call 49
          refine (specName_any y.s _ hxs).mono ?_
          rintro e w1 ⟨rfl, rfl⟩
          try go_wp2_with fail
          refine hK.out _ _ ?_ (fun hHeld6 => ?_)
          · (try dsimp only); refine ⟨?_, ?_, ?_, ?_⟩ <;> first | (go_simp; done) | (exact cell_later (by assumption) (by go_simp))
          clear hK
          refine tkY (i := 7) (d := 75) (v := ?_) rfl rfl ?_ ?_
          rotate_left
          · intro w' hSw; (try dsimp only at hSw); go_simp; try exact rfl
          try simp only [List.setIfInBounds_toArray, List.set_cons_zero, List.set_cons_succ]
          refine tkY (i := 8) (d := 76) (v := ?_) rfl rfl ?_ ?_
          rotate_left
          · intro w' hSw; (try dsimp only at hSw); go_simp; try exact rfl
          try simp only [List.setIfInBounds_toArray, List.set_cons_zero, List.set_cons_succ]
          refine tkY (i := 9) (d := 77) (v := ?_) rfl rfl ?_ ?_
          rotate_left
          · intro w' hSw; (try dsimp only at hSw); go_simp; try exact rfl
          try simp only [List.setIfInBounds_toArray, List.set_cons_zero, List.set_cons_succ]
          refine tkY (i := 10) (d := 78) (v := ?_) rfl rfl ?_ ?_
          rotate_left
          · intro w' hSw; (try dsimp only at hSw); go_simp; try exact rfl
          try simp only [List.setIfInBounds_toArray, List.set_cons_zero, List.set_cons_succ]
          refine tkY (i := 11) (d := 79) (v := ?_) rfl rfl ?_ ?_
          rotate_left
          · intro w' hSw; (try dsimp only at hSw); go_simp; try exact rfl
          try simp only [List.setIfInBounds_toArray, List.set_cons_zero, List.set_cons_succ]
          refine tkY (i := 12) (d := 80) (v := ?_) rfl rfl ?_ ?_
          rotate_left
          · intro w' hSw; (try dsimp only at hSw); go_simp; try exact rfl
          try simp only [List.setIfInBounds_toArray, List.set_cons_zero, List.set_cons_succ]
          refine tkY (i := 13) (d := 81) (v := ?_) rfl rfl ?_ ?_
          rotate_left
          · intro w' hSw; (try dsimp only at hSw); go_simp; try exact rfl
          try simp only [List.setIfInBounds_toArray, List.set_cons_zero, List.set_cons_succ]
          refine tkY (i := 14) (d := 82) (v := ?_) rfl rfl ?_ ?_
          rotate_left
          · intro w' hSw; (try dsimp only at hSw); go_simp; try exact rfl
          try simp only [List.setIfInBounds_toArray, List.set_cons_zero, List.set_cons_succ]
          refine wpAnyH_ready (rs := [15]) (by kernel_rfl) (by simp) ?_
          refine AllReadyH.cons rfl (fun K hK => ?_) AllReadyH.nil
          go_simp
          go_at_call 50
          refine Calls.mono (specBagOk_any y.W (.slice ur lr cq) y.cs _ hxw (hRw.below (bela))) ?_
          rintro e w2 ⟨rfl, hb2⟩
          have hz2 := hb2.size
          (try simp at hz2)
          try go_wp2_with fail
          refine hK.out _ _ ?_ (fun hHeld15 => ?_)
          · (try dsimp only); refine ⟨?_, ?_, ?_, ?_⟩ <;> first | (go_simp; done) | (exact cell_later (by assumption) (by go_simp))
          clear hK
          refine tkY (i := 16) (d := 84) (v := ?_) rfl rfl ?_ ?_
          rotate_left
          · intro w' hSw; (try dsimp only at hSw); go_simp; try exact rfl
          try simp only [List.setIfInBounds_toArray, List.set_cons_zero, List.set_cons_succ]
          refine tkY (i := 17) (d := 85) (v := ?_) rfl rfl ?_ ?_
          rotate_left
          · intro w' hSw; (try dsimp only at hSw); go_simp; try exact rfl
          try simp only [List.setIfInBounds_toArray, List.set_cons_zero, List.set_cons_succ]
          refine tkY (i := 18) (d := 86) (v := ?_) rfl rfl ?_ ?_
          rotate_left
          · intro w' hSw; (try dsimp only at hSw); go_simp; try exact rfl
          try simp only [List.setIfInBounds_toArray, List.set_cons_zero, List.set_cons_succ]
          refine tkN (i := 19) (d := 87) rfl rfl ?_
          try simp only [List.setIfInBounds_toArray, List.set_cons_zero, List.set_cons_succ]
          refine tkN (i := 20) (d := 88) rfl rfl ?_
          try simp only [List.setIfInBounds_toArray, List.set_cons_zero, List.set_cons_succ]
          refine tkN (i := 21) (d := 89) rfl rfl ?_
          try simp only [List.setIfInBounds_toArray, List.set_cons_zero, List.set_cons_succ]
          refine tkN (i := 22) (d := 90) rfl rfl ?_
          try simp only [List.setIfInBounds_toArray, List.set_cons_zero, List.set_cons_succ]
          refine tkN (i := 23) (d := 91) rfl rfl ?_
          try simp only [List.setIfInBounds_toArray, List.set_cons_zero, List.set_cons_succ]
          refine tkN (i := 24) (d := 92) rfl rfl ?_
          try simp only [List.setIfInBounds_toArray, List.set_cons_zero, List.set_cons_succ]
          refine tkN (i := 25) (d := 93) rfl rfl ?_
          try simp only [List.setIfInBounds_toArray, List.set_cons_zero, List.set_cons_succ]
          refine tkN (i := 26) (d := 94) rfl rfl ?_
          try simp only [List.setIfInBounds_toArray, List.set_cons_zero, List.set_cons_succ]
          refine tkN (i := 27) (d := 95) rfl rfl ?_
          try simp only [List.setIfInBounds_toArray, List.set_cons_zero, List.set_cons_succ]
          refine tkN (i := 28) (d := 96) rfl rfl ?_
          try simp only [List.setIfInBounds_toArray, List.set_cons_zero, List.set_cons_succ]
          refine tkN (i := 29) (d := 97) rfl rfl ?_
          try simp only [List.setIfInBounds_toArray, List.set_cons_zero, List.set_cons_succ]
          refine tkN (i := 30) (d := 98) rfl rfl ?_
          try simp only [List.setIfInBounds_toArray, List.set_cons_zero, List.set_cons_succ]
          refine tkN (i := 31) (d := 99) rfl rfl ?_
          try simp only [List.setIfInBounds_toArray, List.set_cons_zero, List.set_cons_succ]
          refine tkN (i := 32) (d := 100) rfl rfl ?_
          try simp only [List.setIfInBounds_toArray, List.set_cons_zero, List.set_cons_succ]
          refine tkN (i := 33) (d := 101) rfl rfl ?_
          try simp only [List.setIfInBounds_toArray, List.set_cons_zero, List.set_cons_succ]
          refine tkN (i := 34) (d := 102) rfl rfl ?_
          try simp only [List.setIfInBounds_toArray, List.set_cons_zero, List.set_cons_succ]
          refine tkN (i := 35) (d := 103) rfl rfl ?_
          try simp only [List.setIfInBounds_toArray, List.set_cons_zero, List.set_cons_succ]
          refine tkN (i := 36) (d := 104) rfl rfl ?_
          try simp only [List.setIfInBounds_toArray, List.set_cons_zero, List.set_cons_succ]
          refine tkY (i := 37) (d := 105) (v := ?_) rfl rfl ?_ ?_
          rotate_left
          · intro w' hSw; (try dsimp only at hSw); go_simp; try exact rfl
          try simp only [List.setIfInBounds_toArray, List.set_cons_zero, List.set_cons_succ]
          refine wpAnyH_done (by kernel_rfl) ?_ _
          go_wp2
          go_returns
          refine ⟨ret_bool ?_, bela⟩
          rw [HK.out]
          unfold okRels; rw [HE.out, HS.out, hf]; simp
        rcases Nat.eq_zero_or_pos k with hk0 | hk0
        · subst hk0
          obtain rfl : q = 0 := by simpa using hq
          rw [Nat.zero_mul, Nat.add_zero] at c0 c1 c2
          clear ha wr' hL hx hq
          go_wp2_with fail
          refine wp_region_held_drew (S := (fun w' => w'.cell? ⟨w.heap.size, 4, none⟩ = some (.slice (some ⟨b, o, none⟩) x.rs.length cr) ∧ w'.cell? ⟨b, o, none⟩ = some (.string y.s) ∧ w'.cell? ⟨b, o + 1, none⟩ = some (.int .i64 y.W) ∧ w'.cell? ⟨b, o + 2, none⟩ = some (.slice ur lr cq))) (by kernel_rfl) ?_ (fun hHeld => ?_)
          · (try dsimp only); refine ⟨?_, ?_, ?_, ?_⟩ <;> first | (go_simp; done) | (exact cell_later (by assumption) (by go_simp))
          refine tkY (i := 0) (d := 68) (v := ?_) rfl rfl ?_ ?_
          rotate_left
          · intro w' hSw; (try dsimp only at hSw); go_simp; try exact rfl
          try simp only [List.setIfInBounds_toArray, List.set_cons_zero, List.set_cons_succ]
          refine tkY (i := 1) (d := 69) (v := ?_) rfl rfl ?_ ?_
          rotate_left
          · intro w' hSw; (try dsimp only at hSw); go_simp; try exact rfl
          try simp only [List.setIfInBounds_toArray, List.set_cons_zero, List.set_cons_succ]
          refine tkY (i := 2) (d := 70) (v := ?_) rfl rfl ?_ ?_
          rotate_left
          · intro w' hSw; (try dsimp only at hSw); go_simp; try exact rfl
          try simp only [List.setIfInBounds_toArray, List.set_cons_zero, List.set_cons_succ]
          refine tkY (i := 3) (d := 71) (v := ?_) rfl rfl ?_ ?_
          rotate_left
          · intro w' hSw; (try dsimp only at hSw); go_simp; try exact rfl
          try simp only [List.setIfInBounds_toArray, List.set_cons_zero, List.set_cons_succ]
          refine tkY (i := 4) (d := 72) (v := ?_) rfl rfl ?_ ?_
          rotate_left
          · intro w' hSw; (try dsimp only at hSw); go_simp; try exact rfl
          try simp only [List.setIfInBounds_toArray, List.set_cons_zero, List.set_cons_succ]
          refine tkY (i := 5) (d := 73) (v := ?_) rfl rfl ?_ ?_
          rotate_left
          · intro w' hSw; (try dsimp only at hSw); go_simp; try exact rfl
          try simp only [List.setIfInBounds_toArray, List.set_cons_zero, List.set_cons_succ]
          refine wpAnyH_ready (rs := [6]) (by kernel_rfl) (by simp) ?_
          refine AllReadyH.cons rfl (fun K hK => ?_) AllReadyH.nil
          go_simp
          go_at_call 49
          refine (specName_any y.s _ hxs).mono ?_
          rintro e w1 ⟨rfl, rfl⟩
          try go_wp2_with fail
          refine hK.out _ _ ?_ (fun hHeld6 => ?_)
          · (try dsimp only); refine ⟨?_, ?_, ?_, ?_⟩ <;> first | (go_simp; done) | (exact cell_later (by assumption) (by go_simp))
          clear hK
          refine tkY (i := 7) (d := 75) (v := ?_) rfl rfl ?_ ?_
          rotate_left
          · intro w' hSw; (try dsimp only at hSw); go_simp; try exact rfl
          try simp only [List.setIfInBounds_toArray, List.set_cons_zero, List.set_cons_succ]
          refine tkY (i := 8) (d := 76) (v := ?_) rfl rfl ?_ ?_
          rotate_left
          · intro w' hSw; (try dsimp only at hSw); go_simp; try exact rfl
          try simp only [List.setIfInBounds_toArray, List.set_cons_zero, List.set_cons_succ]
          refine tkY (i := 9) (d := 77) (v := ?_) rfl rfl ?_ ?_
          rotate_left
          · intro w' hSw; (try dsimp only at hSw); go_simp; try exact rfl
          try simp only [List.setIfInBounds_toArray, List.set_cons_zero, List.set_cons_succ]
          refine tkY (i := 10) (d := 78) (v := ?_) rfl rfl ?_ ?_
          rotate_left
          · intro w' hSw; (try dsimp only at hSw); go_simp; try exact rfl
          try simp only [List.setIfInBounds_toArray, List.set_cons_zero, List.set_cons_succ]
          refine tkY (i := 11) (d := 79) (v := ?_) rfl rfl ?_ ?_
          rotate_left
          · intro w' hSw; (try dsimp only at hSw); go_simp; try exact rfl
          try simp only [List.setIfInBounds_toArray, List.set_cons_zero, List.set_cons_succ]
          refine tkY (i := 12) (d := 80) (v := ?_) rfl rfl ?_ ?_
          rotate_left
          · intro w' hSw; (try dsimp only at hSw); go_simp; try exact rfl
          try simp only [List.setIfInBounds_toArray, List.set_cons_zero, List.set_cons_succ]
          refine tkY (i := 13) (d := 81) (v := ?_) rfl rfl ?_ ?_
          rotate_left
          · intro w' hSw; (try dsimp only at hSw); go_simp; try exact rfl
          try simp only [List.setIfInBounds_toArray, List.set_cons_zero, List.set_cons_succ]
          refine tkY (i := 14) (d := 82) (v := ?_) rfl rfl ?_ ?_
          rotate_left
          · intro w' hSw; (try dsimp only at hSw); go_simp; try exact rfl
          try simp only [List.setIfInBounds_toArray, List.set_cons_zero, List.set_cons_succ]
          refine wpAnyH_ready (rs := [15]) (by kernel_rfl) (by simp) ?_
          refine AllReadyH.cons rfl (fun K hK => ?_) AllReadyH.nil
          go_simp
          go_at_call 50
          refine Calls.mono (specBagOk_any y.W (.slice ur lr cq) y.cs _ hxw (hRw.below (bela))) ?_
          rintro e w2 ⟨rfl, hb2⟩
          have hz2 := hb2.size
          (try simp at hz2)
          try go_wp2_with fail
          refine hK.out _ _ ?_ (fun hHeld15 => ?_)
          · (try dsimp only); refine ⟨?_, ?_, ?_, ?_⟩ <;> first | (go_simp; done) | (exact cell_later (by assumption) (by go_simp))
          clear hK
          refine tkY (i := 16) (d := 84) (v := ?_) rfl rfl ?_ ?_
          rotate_left
          · intro w' hSw; (try dsimp only at hSw); go_simp; try exact rfl
          try simp only [List.setIfInBounds_toArray, List.set_cons_zero, List.set_cons_succ]
          refine tkY (i := 17) (d := 85) (v := ?_) rfl rfl ?_ ?_
          rotate_left
          · intro w' hSw; (try dsimp only at hSw); go_simp; try exact rfl
          try simp only [List.setIfInBounds_toArray, List.set_cons_zero, List.set_cons_succ]
          refine tkY (i := 18) (d := 86) (v := ?_) rfl rfl ?_ ?_
          rotate_left
          · intro w' hSw; (try dsimp only at hSw); go_simp; try exact rfl
          try simp only [List.setIfInBounds_toArray, List.set_cons_zero, List.set_cons_succ]
          refine tkY (i := 19) (d := 87) (v := ?_) rfl rfl ?_ ?_
          rotate_left
          · intro w' hSw; (try dsimp only at hSw); go_simp; try exact rfl
          try simp only [List.setIfInBounds_toArray, List.set_cons_zero, List.set_cons_succ]
          refine tkY (i := 20) (d := 88) (v := ?_) rfl rfl ?_ ?_
          rotate_left
          · intro w' hSw; (try dsimp only at hSw); go_simp; try exact rfl
          try simp only [List.setIfInBounds_toArray, List.set_cons_zero, List.set_cons_succ]
          refine tkY (i := 21) (d := 89) (v := ?_) rfl rfl ?_ ?_
          rotate_left
          · intro w' hSw; (try dsimp only at hSw); go_simp; try exact rfl
          try simp only [List.setIfInBounds_toArray, List.set_cons_zero, List.set_cons_succ]
          refine tkN (i := 22) (d := 90) rfl rfl ?_
          try simp only [List.setIfInBounds_toArray, List.set_cons_zero, List.set_cons_succ]
          refine tkN (i := 23) (d := 91) rfl rfl ?_
          try simp only [List.setIfInBounds_toArray, List.set_cons_zero, List.set_cons_succ]
          refine tkN (i := 24) (d := 92) rfl rfl ?_
          try simp only [List.setIfInBounds_toArray, List.set_cons_zero, List.set_cons_succ]
          refine tkN (i := 25) (d := 93) rfl rfl ?_
          try simp only [List.setIfInBounds_toArray, List.set_cons_zero, List.set_cons_succ]
          refine tkN (i := 26) (d := 94) rfl rfl ?_
          try simp only [List.setIfInBounds_toArray, List.set_cons_zero, List.set_cons_succ]
          refine tkN (i := 27) (d := 95) rfl rfl ?_
          try simp only [List.setIfInBounds_toArray, List.set_cons_zero, List.set_cons_succ]
          refine tkN (i := 28) (d := 96) rfl rfl ?_
          try simp only [List.setIfInBounds_toArray, List.set_cons_zero, List.set_cons_succ]
          refine tkN (i := 29) (d := 97) rfl rfl ?_
          try simp only [List.setIfInBounds_toArray, List.set_cons_zero, List.set_cons_succ]
          refine tkN (i := 30) (d := 98) rfl rfl ?_
          try simp only [List.setIfInBounds_toArray, List.set_cons_zero, List.set_cons_succ]
          refine tkN (i := 31) (d := 99) rfl rfl ?_
          try simp only [List.setIfInBounds_toArray, List.set_cons_zero, List.set_cons_succ]
          refine tkN (i := 32) (d := 100) rfl rfl ?_
          try simp only [List.setIfInBounds_toArray, List.set_cons_zero, List.set_cons_succ]
          refine tkN (i := 33) (d := 101) rfl rfl ?_
          try simp only [List.setIfInBounds_toArray, List.set_cons_zero, List.set_cons_succ]
          refine tkN (i := 34) (d := 102) rfl rfl ?_
          try simp only [List.setIfInBounds_toArray, List.set_cons_zero, List.set_cons_succ]
          refine tkN (i := 35) (d := 103) rfl rfl ?_
          try simp only [List.setIfInBounds_toArray, List.set_cons_zero, List.set_cons_succ]
          refine tkY (i := 36) (d := 104) (v := ?_) rfl rfl ?_ ?_
          rotate_left
          · intro w' hSw; (try dsimp only at hSw); go_simp; try exact rfl
          try simp only [List.setIfInBounds_toArray, List.set_cons_zero, List.set_cons_succ]
          refine tkY (i := 37) (d := 105) (v := ?_) rfl rfl ?_ ?_
          rotate_left
          · intro w' hSw; (try dsimp only at hSw); go_simp; try exact rfl
          try simp only [List.setIfInBounds_toArray, List.set_cons_zero, List.set_cons_succ]
          refine wpAnyH_done (by kernel_rfl) ?_ _
          go_wp2
          go_roundw
          case rel =>
            refine ⟨1, 1, hlt, rfl, by simp, bela, ?_, ?_, ?_, ?_, ?_⟩
            · first | (simp; done) | (simp; omega) | omega
            · first | (go_simp; done) | (exact cell_later (by assumption) (by go_simp))
            · first | (go_simp; done) | (exact cell_later (by assumption) (by go_simp))
            · first | (go_simp; done) | (exact cell_later (by assumption) (by go_simp))
            · rw [HE.out, HS.out, hnm, hpl, prevT_zero]
              simp [okPrevT]
          case measure => simp [intOf]; omega
        · obtain ⟨j, rfl⟩ : ∃ j, k = j + 1 := ⟨k - 1, by omega⟩
          obtain rfl : q = (j : Int) + 1 := by omega
          obtain ⟨z, t, hy, d0, d1, d2', hT, _⟩ := hL.at hblt hb (show j < x.rs.length by omega)
          have HP : Hid (prevT x.rs (j + 1) = some z) := prevT_succ hy
          have HQ : Hid (okPrevT (prevT x.rs (j + 1)) y = Op.bytesLess z.s.toList y.s.toList) := by rw [HP.out]; rfl
          have hw1 : IntKind.i64.wrap (j : Int) = j := by rw [IntKind.wrap_i64]; omega
          have hw2 : IntKind.i64.wrap ((j : Int) + 1 - 1) = j := by rw [IntKind.wrap_i64]; omega
          have hi0 : (0 : Int) ≤ j := by omega
          have hi1 : (j : Int) < x.rs.length := by omega
          have hi2 : (0 : Int) < (j : Int) + 1 := by omega
          clear ha wr' hL hx hy hq d1 d2' hT
          go_wp2_with fail
          refine wp_region_held_drew (S := (fun w' => w'.cell? ⟨w.heap.size, 4, none⟩ = some (.slice (some ⟨b, o, none⟩) x.rs.length cr) ∧ w'.cell? ⟨b, o + (j + 1) * 3, none⟩ = some (.string y.s) ∧ w'.cell? ⟨b, o + (j + 1) * 3 + 1, none⟩ = some (.int .i64 y.W) ∧ w'.cell? ⟨b, o + (j + 1) * 3 + 2, none⟩ = some (.slice ur lr cq) ∧ w'.cell? ⟨b, o + j * 3, none⟩ = some (.string z.s))) (by kernel_rfl) ?_ (fun hHeld => ?_)
          · (try dsimp only); refine ⟨?_, ?_, ?_, ?_, ?_⟩ <;> first | (go_simp; done) | (exact cell_later (by assumption) (by go_simp))
          refine tkY (i := 0) (d := 68) (v := ?_) rfl rfl ?_ ?_
          rotate_left
          · intro w' hSw; (try dsimp only at hSw); go_simp; try exact rfl
          try simp only [List.setIfInBounds_toArray, List.set_cons_zero, List.set_cons_succ]
          refine tkY (i := 1) (d := 69) (v := ?_) rfl rfl ?_ ?_
          rotate_left
          · intro w' hSw; (try dsimp only at hSw); go_simp; try exact rfl
          try simp only [List.setIfInBounds_toArray, List.set_cons_zero, List.set_cons_succ]
          refine tkY (i := 2) (d := 70) (v := ?_) rfl rfl ?_ ?_
          rotate_left
          · intro w' hSw; (try dsimp only at hSw); go_simp; try exact rfl
          try simp only [List.setIfInBounds_toArray, List.set_cons_zero, List.set_cons_succ]
          refine tkY (i := 3) (d := 71) (v := ?_) rfl rfl ?_ ?_
          rotate_left
          · intro w' hSw; (try dsimp only at hSw); go_simp; try exact rfl
          try simp only [List.setIfInBounds_toArray, List.set_cons_zero, List.set_cons_succ]
          refine tkY (i := 4) (d := 72) (v := ?_) rfl rfl ?_ ?_
          rotate_left
          · intro w' hSw; (try dsimp only at hSw); go_simp; try exact rfl
          try simp only [List.setIfInBounds_toArray, List.set_cons_zero, List.set_cons_succ]
          refine tkY (i := 5) (d := 73) (v := ?_) rfl rfl ?_ ?_
          rotate_left
          · intro w' hSw; (try dsimp only at hSw); go_simp; try exact rfl
          try simp only [List.setIfInBounds_toArray, List.set_cons_zero, List.set_cons_succ]
          refine wpAnyH_ready (rs := [6]) (by kernel_rfl) (by simp) ?_
          refine AllReadyH.cons rfl (fun K hK => ?_) AllReadyH.nil
          go_simp
          go_at_call 49
          refine (specName_any y.s _ hxs).mono ?_
          rintro e w1 ⟨rfl, rfl⟩
          try go_wp2_with fail
          refine hK.out _ _ ?_ (fun hHeld6 => ?_)
          · (try dsimp only); refine ⟨?_, ?_, ?_, ?_, ?_⟩ <;> first | (go_simp; done) | (exact cell_later (by assumption) (by go_simp))
          clear hK
          refine tkY (i := 7) (d := 75) (v := ?_) rfl rfl ?_ ?_
          rotate_left
          · intro w' hSw; (try dsimp only at hSw); go_simp; try exact rfl
          try simp only [List.setIfInBounds_toArray, List.set_cons_zero, List.set_cons_succ]
          refine tkY (i := 8) (d := 76) (v := ?_) rfl rfl ?_ ?_
          rotate_left
          · intro w' hSw; (try dsimp only at hSw); go_simp; try exact rfl
          try simp only [List.setIfInBounds_toArray, List.set_cons_zero, List.set_cons_succ]
          refine tkY (i := 9) (d := 77) (v := ?_) rfl rfl ?_ ?_
          rotate_left
          · intro w' hSw; (try dsimp only at hSw); go_simp; try exact rfl
          try simp only [List.setIfInBounds_toArray, List.set_cons_zero, List.set_cons_succ]
          refine tkY (i := 10) (d := 78) (v := ?_) rfl rfl ?_ ?_
          rotate_left
          · intro w' hSw; (try dsimp only at hSw); go_simp; try exact rfl
          try simp only [List.setIfInBounds_toArray, List.set_cons_zero, List.set_cons_succ]
          refine tkY (i := 11) (d := 79) (v := ?_) rfl rfl ?_ ?_
          rotate_left
          · intro w' hSw; (try dsimp only at hSw); go_simp; try exact rfl
          try simp only [List.setIfInBounds_toArray, List.set_cons_zero, List.set_cons_succ]
          refine tkY (i := 12) (d := 80) (v := ?_) rfl rfl ?_ ?_
          rotate_left
          · intro w' hSw; (try dsimp only at hSw); go_simp; try exact rfl
          try simp only [List.setIfInBounds_toArray, List.set_cons_zero, List.set_cons_succ]
          refine tkY (i := 13) (d := 81) (v := ?_) rfl rfl ?_ ?_
          rotate_left
          · intro w' hSw; (try dsimp only at hSw); go_simp; try exact rfl
          try simp only [List.setIfInBounds_toArray, List.set_cons_zero, List.set_cons_succ]
          refine tkY (i := 14) (d := 82) (v := ?_) rfl rfl ?_ ?_
          rotate_left
          · intro w' hSw; (try dsimp only at hSw); go_simp; try exact rfl
          try simp only [List.setIfInBounds_toArray, List.set_cons_zero, List.set_cons_succ]
          refine wpAnyH_ready (rs := [15]) (by kernel_rfl) (by simp) ?_
          refine AllReadyH.cons rfl (fun K hK => ?_) AllReadyH.nil
          go_simp
          go_at_call 50
          refine Calls.mono (specBagOk_any y.W (.slice ur lr cq) y.cs _ hxw (hRw.below (bela))) ?_
          rintro e w2 ⟨rfl, hb2⟩
          have hz2 := hb2.size
          (try simp at hz2)
          try go_wp2_with fail
          refine hK.out _ _ ?_ (fun hHeld15 => ?_)
          · (try dsimp only); refine ⟨?_, ?_, ?_, ?_, ?_⟩ <;> first | (go_simp; done) | (exact cell_later (by assumption) (by go_simp))
          clear hK
          refine tkY (i := 16) (d := 84) (v := ?_) rfl rfl ?_ ?_
          rotate_left
          · intro w' hSw; (try dsimp only at hSw); go_simp; try exact rfl
          try simp only [List.setIfInBounds_toArray, List.set_cons_zero, List.set_cons_succ]
          refine tkY (i := 17) (d := 85) (v := ?_) rfl rfl ?_ ?_
          rotate_left
          · intro w' hSw; (try dsimp only at hSw); go_simp; try exact rfl
          try simp only [List.setIfInBounds_toArray, List.set_cons_zero, List.set_cons_succ]
          refine tkY (i := 18) (d := 86) (v := ?_) rfl rfl ?_ ?_
          rotate_left
          · intro w' hSw; (try dsimp only at hSw); go_simp; try exact rfl
          try simp only [List.setIfInBounds_toArray, List.set_cons_zero, List.set_cons_succ]
          refine tkY (i := 19) (d := 87) (v := ?_) rfl rfl ?_ ?_
          rotate_left
          · intro w' hSw; (try dsimp only at hSw); go_simp; try exact rfl
          try simp only [List.setIfInBounds_toArray, List.set_cons_zero, List.set_cons_succ]
          refine tkY (i := 20) (d := 88) (v := ?_) rfl rfl ?_ ?_
          rotate_left
          · intro w' hSw; (try dsimp only at hSw); go_simp; try exact rfl
          try simp only [List.setIfInBounds_toArray, List.set_cons_zero, List.set_cons_succ]
          refine tkY (i := 21) (d := 89) (v := ?_) rfl rfl ?_ ?_
          rotate_left
          · intro w' hSw; (try dsimp only at hSw); go_simp; try exact rfl
          try simp only [List.setIfInBounds_toArray, List.set_cons_zero, List.set_cons_succ]
          refine tkY (i := 22) (d := 90) (v := ?_) rfl rfl ?_ ?_
          rotate_left
          · intro w' hSw; (try dsimp only at hSw); go_simp; try exact rfl
          try simp only [List.setIfInBounds_toArray, List.set_cons_zero, List.set_cons_succ]
          refine tkY (i := 23) (d := 91) (v := ?_) rfl rfl ?_ ?_
          rotate_left
          · intro w' hSw; (try dsimp only at hSw); go_simp; try exact rfl
          try simp only [List.setIfInBounds_toArray, List.set_cons_zero, List.set_cons_succ]
          refine tkY (i := 24) (d := 92) (v := ?_) rfl rfl ?_ ?_
          rotate_left
          · intro w' hSw; (try dsimp only at hSw); go_simp; try exact rfl
          try simp only [List.setIfInBounds_toArray, List.set_cons_zero, List.set_cons_succ]
          refine tkY (i := 25) (d := 93) (v := ?_) rfl rfl ?_ ?_
          rotate_left
          · intro w' hSw; (try dsimp only at hSw); go_simp; try exact rfl
          try simp only [List.setIfInBounds_toArray, List.set_cons_zero, List.set_cons_succ]
          refine tkY (i := 26) (d := 94) (v := ?_) rfl rfl ?_ ?_
          rotate_left
          · intro w' hSw; (try dsimp only at hSw); go_simp; try exact rfl
          try simp only [List.setIfInBounds_toArray, List.set_cons_zero, List.set_cons_succ]
          refine tkY (i := 27) (d := 95) (v := ?_) rfl rfl ?_ ?_
          rotate_left
          · intro w' hSw; (try dsimp only at hSw); go_simp; try exact rfl
          try simp only [List.setIfInBounds_toArray, List.set_cons_zero, List.set_cons_succ]
          refine tkY (i := 28) (d := 96) (v := ?_) rfl rfl ?_ ?_
          rotate_left
          · intro w' hSw; (try dsimp only at hSw); go_simp; try exact rfl
          try simp only [List.setIfInBounds_toArray, List.set_cons_zero, List.set_cons_succ]
          refine tkY (i := 29) (d := 97) (v := ?_) rfl rfl ?_ ?_
          rotate_left
          · intro w' hSw; (try dsimp only at hSw); go_simp; try exact rfl
          try simp only [List.setIfInBounds_toArray, List.set_cons_zero, List.set_cons_succ]
          refine tkY (i := 30) (d := 98) (v := ?_) rfl rfl ?_ ?_
          rotate_left
          · intro w' hSw; (try dsimp only at hSw); go_simp; try exact rfl
          try simp only [List.setIfInBounds_toArray, List.set_cons_zero, List.set_cons_succ]
          refine tkY (i := 31) (d := 99) (v := ?_) rfl rfl ?_ ?_
          rotate_left
          · intro w' hSw; (try dsimp only at hSw); go_simp; try exact rfl
          try simp only [List.setIfInBounds_toArray, List.set_cons_zero, List.set_cons_succ]
          refine tkY (i := 32) (d := 100) (v := ?_) rfl rfl ?_ ?_
          rotate_left
          · intro w' hSw; (try dsimp only at hSw); go_simp; try exact rfl
          try simp only [List.setIfInBounds_toArray, List.set_cons_zero, List.set_cons_succ]
          refine tkY (i := 33) (d := 101) (v := ?_) rfl rfl ?_ ?_
          rotate_left
          · intro w' hSw; (try dsimp only at hSw); go_simp; try exact rfl
          try simp only [List.setIfInBounds_toArray, List.set_cons_zero, List.set_cons_succ]
          refine tkY (i := 34) (d := 102) (v := ?_) rfl rfl ?_ ?_
          rotate_left
          · intro w' hSw; (try dsimp only at hSw); go_simp; try exact rfl
          try simp only [List.setIfInBounds_toArray, List.set_cons_zero, List.set_cons_succ]
          refine tkY (i := 35) (d := 103) (v := ?_) rfl rfl ?_ ?_
          rotate_left
          · intro w' hSw; (try dsimp only at hSw); go_simp; try exact rfl
          try simp only [List.setIfInBounds_toArray, List.set_cons_zero, List.set_cons_succ]
          refine tkY (i := 36) (d := 104) (v := ?_) rfl rfl ?_ ?_
          rotate_left
          · intro w' hSw; (try dsimp only at hSw); go_simp; try exact rfl
          try simp only [List.setIfInBounds_toArray, List.set_cons_zero, List.set_cons_succ]
          refine tkY (i := 37) (d := 105) (v := ?_) rfl rfl ?_ ?_
          rotate_left
          · intro w' hSw; (try dsimp only at hSw); go_simp; try exact rfl
          try simp only [List.setIfInBounds_toArray, List.set_cons_zero, List.set_cons_succ]
          refine wpAnyH_done (by kernel_rfl) ?_ _
          go_wp2
          · have hcf : Op.bytesLess z.s.toList y.s.toList = false := by
              have h9 : Op.bytesLess y.s.toList z.s.toList = true ∨ (y.s.toList == z.s.toList) = true := by assumption
              rcases h9 with h9 | h9
              · exact bless_asymm h9
              · rw [beq_iff_eq] at h9; rw [h9]; exact bless_irrefl _
            go_returns
            refine ⟨ret_bool ?_, bela⟩
            rw [HK.out]
            unfold okRels; rw [HE.out, HS.out, HQ.out, hcf]; simp
          · have hcmp : Op.bytesLess z.s.toList y.s.toList = true := by
              have h9 : Op.bytesLess y.s.toList z.s.toList = false ∧ (y.s.toList == z.s.toList) = false := by assumption
              exact bless_total h9.1 (by simpa using h9.2)
            refine ⟨⟨j + 1 + 1, (j : Int) + 1 + 1, hlt, by omega, rfl, bela, ?_, ?_, ?_, ?_, ?_⟩, by simp [intOf]; omega⟩
            · first | (simp; done) | (simp; omega) | omega
            · first | (go_simp; done) | (exact cell_later (by assumption) (by go_simp))
            · first | (go_simp; done) | (exact cell_later (by assumption) (by go_simp))
            · first | (go_simp; done) | (exact cell_later (by assumption) (by go_simp))
            · rw [HE.out, HS.out, HQ.out, hnm, hpl, hcmp]
              simp
      · have HN : Hid (okTs none x.rs = true) := by rw [HE.out, List.drop_eq_nil_of_le (by omega)]; rfl
        clear ha wr'
        cases b1 with
        | false =>
          go_wp2
          go_returns
          exact ⟨ret_bool (by rw [HK.out]; rfl), hb⟩
        | true =>
          go_wp2_with fail
          refine (l01InN_any _ _ _ _).mono ?_
          rintro e w1 ⟨rfl, rfl⟩
          go_wp2
          go_returns
          exact ⟨ret_bool (by rw [HK.out]; simp [okRels, HN.out]), hb⟩
  have k3' : (x.k == 3) = false := by simpa using k3
  have n3' : (x.k != 3) = true := by simp [k3]
  rw [if_neg k3] at HK
  clear k3
  cases b2 with
  | false =>
    have l2 := hp2 rfl
    clear hp2 hn2 hp4 hn4
    go_enter Tryz.func20, Tryz.ntmps20
    go_wp2_with fail
    go_returns
    exact ⟨ret_bool (by rw [HK.out]; try simp), bex⟩
  | true =>
  have l2 := hn2 rfl
  cases b3 with
  | false =>
    clear hp2 hn2 hp4 hn4
    go_enter Tryz.func20, Tryz.ntmps20
    go_wp2_with fail
    go_returns
    exact ⟨ret_bool (by rw [HK.out]; try simp), bex⟩
  | true =>
  cases b4 with
  | false =>
    have l4 := hp4 rfl
    clear hp2 hn2 hp4 hn4
    go_enter Tryz.func20, Tryz.ntmps20
    go_wp2_with fail
    go_returns
    exact ⟨ret_bool (by rw [HK.out]; try simp), bex⟩
  | true =>
  have l4 := hn4 rfl
  clear hp2 hn2 hp4 hn4
  go_enter Tryz.func20, Tryz.ntmps20
  go_wp2_with fail
  go_loopw [3] (fun i wr => i = .int .i64 0 ∧ Below w.heap.size w wr ∧ w.heap.size < wr.heap.size ∧ wr.cell? ⟨w.heap.size, 0, none⟩ = some (.int .i64 x.k) ∧ wr.cell? ⟨w.heap.size, 1, none⟩ = some (.string x.s) ∧ wr.cell? ⟨w.heap.size, 4, none⟩ = some (.slice ar x.rs.length cr)) (fun i _ => 0)
  case atStart => exact ⟨rfl, bex, by simp, by go_simp, by go_simp, by go_simp⟩
  case round =>
    obtain ⟨rfl, hb, hsz, q0, q1, q4⟩ := hrel
    go_wp2_with fail
    go_returns
    exact ⟨ret_bool (by rw [HK.out]), hb⟩
end Go.Proofs.YtbmoimfimeiglaaGreat
namespace Go.Proofs.YtbmoimfimeiglaaGreat
open Go.RowKit Go.Deep
set_option linter.unusedVariables false
theorem l10Size_o (x : Int) (n : Nat) (h0 : 0 ≤ x) (hx : x ≤ 9223372036854775807) (hn : n ≤ 8) : ∃ r : ByteArray, Hid (r = strOfNums (szN x n)) ∧ r.size = n ∧
    Hid (∀ w, Calls Tryz.prog 38 #[.int .i64 x, .int .i64 n] w fun e w' => e = .returned (.string r) ∧ Below w.heap.size w w') :=
  ⟨_, rfl, by rw [nums_size, szN_len], fun w => l10Size_any x n w h0 hx hn⟩
theorem l10Text_o (s : ByteArray) (n : Nat) (hs : s.size ≤ 281474976710656) (hn : n ≤ 8) : ∃ r : ByteArray, Hid (r = strOfNums (tN s n)) ∧ r.size = n + s.size ∧
    Hid (∀ w, Calls Tryz.prog 39 #[.string s, .int .i64 n] w fun e w' => e = .returned (.string r) ∧ Below w.heap.size w w') :=
  ⟨_, rfl, by rw [nums_size, tN_len], fun w => l10Text_any s n w hs hn⟩
structure Bx5 (w : World) (B : Nat) (x : T5) (uc ur : Value) : Prop where
  c0 : w.cell? ⟨B, 0, none⟩ = some (.int .i64 x.k)
  c1 : w.cell? ⟨B, 1, none⟩ = some (.string x.s)
  c2 : w.cell? ⟨B, 2, none⟩ = some uc
  c3 : w.cell? ⟨B, 3, none⟩ = some (.string x.q)
  c4 : w.cell? ⟨B, 4, none⟩ = some ur
theorem Bx5.keep {w w' : World} {B : Nat} {x : T5} {uc ur : Value} (h : Bx5 w B x uc ur) (hlt : B < w.heap.size) (hb : Below w.heap.size w w') : Bx5 w' B x uc ur :=
  ⟨(hb.cell (p := ⟨B, _, none⟩) hlt).trans h.c0, (hb.cell (p := ⟨B, _, none⟩) hlt).trans h.c1, (hb.cell (p := ⟨B, _, none⟩) hlt).trans h.c2, (hb.cell (p := ⟨B, _, none⟩) hlt).trans h.c3, (hb.cell (p := ⟨B, _, none⟩) hlt).trans h.c4⟩
structure Bxr (w : World) (B : Nat) (ur : Value) (b q : Nat) (s : ByteArray) (W : Int) (v : Value) : Prop where
  c4 : w.cell? ⟨B, 4, none⟩ = some ur
  d0 : w.cell? ⟨b, q, none⟩ = some (.string s)
  d1 : w.cell? ⟨b, q + 1, none⟩ = some (.int .i64 W)
  d2 : w.cell? ⟨b, q + 2, none⟩ = some v
theorem Bxr.keep {w w' : World} {B b q : Nat} {ur v : Value} {s : ByteArray} {W : Int} (h : Bxr w B ur b q s W v) (hlt : B < w.heap.size) (hl2 : b < w.heap.size) (hb : Below w.heap.size w w') : Bxr w' B ur b q s W v :=
  ⟨(hb.cell (p := ⟨B, _, none⟩) hlt).trans h.c4, (hb.cell (p := ⟨b, _, none⟩) hl2).trans h.d0, (hb.cell (p := ⟨b, _, none⟩) hl2).trans h.d1, (hb.cell (p := ⟨b, _, none⟩) hl2).trans h.d2⟩
theorem spT_no {x : T5} (h : okStep x = false) : putT x = ⟨#[]⟩ := by simp [putT, h]
theorem spT_yes {x : T5} (h : okStep x = true) : putT x = strOfNums (stepL x) := by simp [putT, h]
set_option maxHeartbeats 4000000 in
set_option maxRecDepth 100000 in
theorem specPutStep_any (x : T5) (uc ur : Value) (w : World) (hw : x.wf) (hr : StpIs w uc ur x) :
    Calls Tryz.prog 15 #[(.agg #[.int .i64 x.k, .string x.s, uc, .string x.q, ur])] w fun e w' => e = .returned (.string (putT x)) ∧ Below w.heap.size w w' := by
  obtain ⟨⟨ac, cc, rfl, _, hcm⟩, ar, cr, rfl, _, hrm⟩ := hr.shape
  obtain ⟨bo, HO⟩ : ∃ b, Hid (okStep x = b) := ⟨_, rfl⟩
  unfold maxLen at hcm hrm
  go_enter Tryz.func15, Tryz.ntmps15
  go_wp2_with fail
  refine Calls.mono (specStepOk_any x (.slice ac x.cs.length cc) (.slice ar x.rs.length cr) _ hw (hr.below ?hb)) ?_
  case hb => exact bex
  rw [HO.out]
  rintro e w1 ⟨rfl, hb1⟩
  have hz1 := hb1.size
  simp only [World.size_alloc] at hz1
  have b0 : w1.cell? ⟨w.heap.size, 0, none⟩ = some (.int .i64 x.k) := cell_later hb1 (by go_simp)
  have b1 : w1.cell? ⟨w.heap.size, 1, none⟩ = some (.string x.s) := cell_later hb1 (by go_simp)
  have b2 : w1.cell? ⟨w.heap.size, 2, none⟩ = some (.slice ac x.cs.length cc) := cell_later hb1 (by go_simp)
  have b3 : w1.cell? ⟨w.heap.size, 3, none⟩ = some (.string x.q) := cell_later hb1 (by go_simp)
  have b4 : w1.cell? ⟨w.heap.size, 4, none⟩ = some (.slice ar x.rs.length cr) := cell_later hb1 (by go_simp)
  have bel1 : Below w.heap.size w w1 := bex
  clear hb1
  have hN : w.heap.size < w1.heap.size := by omega
  cases bo with
  | false =>
    have HT : Hid (putT x = ⟨#[]⟩) := spT_no HO.out
    go_wp2_with fail
    go_returns
    exact ⟨by rw [HT.out]; rfl, bel1⟩
  | true =>
  have HT : Hid (putT x = strOfNums (stepL x)) := spT_yes HO.out
  have hB := okStep_bnd HO.out
  have hbs := hB.s
  have hbq := hB.q
  have hcl := hB.cl
  have hrl := hB.rl
  obtain ⟨⟨gs, hS⟩, hR⟩ := hr
  obtain ⟨r1, E1, z1, C1⟩ := l10Size_o x.k 1 hB.k0 (by have := hB.k3; omega) (by omega)
  obtain ⟨r2, E2, z2, C2⟩ := l10Text_o x.s 2 (by omega) (by omega)
  obtain ⟨r3, E3, z3, C3⟩ := l10Size_o x.cs.length 1 (by omega) (by omega) (by omega)
  have HD : Hid (r1 ++ r2 ++ r3 = strOfNums (hdL x)) := by
    show r1 ++ r2 ++ r3 = _
    rw [E1.out, E2.out, E3.out, ← nums_app, ← nums_app]; rfl
  have hs1 : (r1.size : Int) ≤ 10 := by omega
  have hs2 : (r2.size : Int) ≤ 20 := by omega
  have hs3 : (r3.size : Int) ≤ 10 := by omega
  clear z1 z2 z3 E1 E2 E3
  have hB5 : Bx5 w1 w.heap.size x (.slice ac x.cs.length cc) (.slice ar x.rs.length cr) := ⟨b0, b1, b2, b3, b4⟩
  go_wp2_with fail
  refine wp_region_held_drew (S := (fun w' => Bx5 w' w.heap.size x (.slice ac x.cs.length cc) (.slice ar x.rs.length cr))) (by kernel_rfl) ?_ (fun hHeld => ?_)
  · exact hB5.keep hN (bex)
  refine tkY (i := 0) (d := 9) (v := ?_) rfl rfl ?_ ?_
  rotate_left
  · intro w' hSw; obtain ⟨x0, x1, x2, x3, x4⟩ := hSw; go_simp; (try rw [if_neg (by omega)]); try exact rfl
  try simp only [List.setIfInBounds_toArray, List.set_cons_zero, List.set_cons_succ]
  refine tkY (i := 1) (d := 10) (v := ?_) rfl rfl ?_ ?_
  rotate_left
  · intro w' hSw; obtain ⟨x0, x1, x2, x3, x4⟩ := hSw; go_simp; (try rw [if_neg (by omega)]); try exact rfl
  try simp only [List.setIfInBounds_toArray, List.set_cons_zero, List.set_cons_succ]
  refine tkY (i := 3) (d := 12) (v := ?_) rfl rfl ?_ ?_
  rotate_left
  · intro w' hSw; obtain ⟨x0, x1, x2, x3, x4⟩ := hSw; go_simp; (try rw [if_neg (by omega)]); try exact rfl
  try simp only [List.setIfInBounds_toArray, List.set_cons_zero, List.set_cons_succ]
  refine tkY (i := 4) (d := 13) (v := ?_) rfl rfl ?_ ?_
  rotate_left
  · intro w' hSw; obtain ⟨x0, x1, x2, x3, x4⟩ := hSw; go_simp; (try rw [if_neg (by omega)]); try exact rfl
  try simp only [List.setIfInBounds_toArray, List.set_cons_zero, List.set_cons_succ]
  refine tkY (i := 7) (d := 16) (v := ?_) rfl rfl ?_ ?_
  rotate_left
  · intro w' hSw; obtain ⟨x0, x1, x2, x3, x4⟩ := hSw; go_simp; (try rw [if_neg (by omega)]); try exact rfl
  try simp only [List.setIfInBounds_toArray, List.set_cons_zero, List.set_cons_succ]
  refine tkY (i := 8) (d := 17) (v := ?_) rfl rfl ?_ ?_
  rotate_left
  · intro w' hSw; obtain ⟨x0, x1, x2, x3, x4⟩ := hSw; go_simp; (try rw [if_neg (by omega)]); try exact rfl
  try simp only [List.setIfInBounds_toArray, List.set_cons_zero, List.set_cons_succ]
  refine tkY (i := 9) (d := 18) (v := ?_) rfl rfl ?_ ?_
  rotate_left
  · intro w' hSw; obtain ⟨x0, x1, x2, x3, x4⟩ := hSw; go_simp; (try rw [if_neg (by omega)]); try exact rfl
  try simp only [List.setIfInBounds_toArray, List.set_cons_zero, List.set_cons_succ]
  refine wpAnyH_ready (rs := [2]) (by kernel_rfl) (by simp) ?_
  refine AllReadyH.cons rfl (fun K hK => ?_) AllReadyH.nil
  go_simp
  go_at_call 38
  refine Calls.mono (C1.out _) ?_
  rintro e w2 ⟨rfl, hbw2⟩
  have hzw2 := hbw2.size
  (try simp at hzw2)
  try go_wp2_with fail
  refine hK.out _ _ ?_ (fun hHeld2 => ?_)
  · exact hB5.keep hN (bex)
  clear hK
  refine wpAnyH_ready (rs := [5]) (by kernel_rfl) (by simp) ?_
  refine AllReadyH.cons rfl (fun K hK => ?_) AllReadyH.nil
  go_simp
  go_at_call 39
  refine Calls.mono (C2.out _) ?_
  rintro e w3 ⟨rfl, hbw3⟩
  have hzw3 := hbw3.size
  (try simp at hzw3)
  try go_wp2_with fail
  refine hK.out _ _ ?_ (fun hHeld5 => ?_)
  · exact hB5.keep hN (bex)
  clear hK
  refine tkY (i := 6) (d := 15) (v := ?_) rfl rfl ?_ ?_
  rotate_left
  · intro w' hSw; obtain ⟨x0, x1, x2, x3, x4⟩ := hSw; go_simp; (try rw [if_neg (by omega)]); try exact rfl
  try simp only [List.setIfInBounds_toArray, List.set_cons_zero, List.set_cons_succ]
  refine wpAnyH_ready (rs := [10]) (by kernel_rfl) (by simp) ?_
  refine AllReadyH.cons rfl (fun K hK => ?_) AllReadyH.nil
  go_simp
  go_at_call 38
  refine Calls.mono (C3.out _) ?_
  rintro e w4 ⟨rfl, hbw4⟩
  have hzw4 := hbw4.size
  (try simp at hzw4)
  try go_wp2_with fail
  refine hK.out _ _ ?_ (fun hHeld10 => ?_)
  · exact hB5.keep hN (bex)
  clear hK
  refine tkY (i := 11) (d := 20) (v := ?_) rfl rfl ?_ ?_
  rotate_left
  · intro w' hSw; obtain ⟨x0, x1, x2, x3, x4⟩ := hSw; go_simp; (try rw [if_neg (by omega)]); try exact rfl
  try simp only [List.setIfInBounds_toArray, List.set_cons_zero, List.set_cons_succ]
  refine tkY (i := 12) (d := 3) (v := ?_) rfl rfl ?_ ?_
  rotate_left
  · intro w' hSw; obtain ⟨x0, x1, x2, x3, x4⟩ := hSw; go_simp; (try rw [if_neg (by omega)]); try exact rfl
  try simp only [List.setIfInBounds_toArray, List.set_cons_zero, List.set_cons_succ]
  refine wpAnyH_done (by kernel_rfl) ?_ _
  have belW : Below w1.heap.size w1 w4 := bex
  have hsd : ((r1 ++ r2 ++ r3).size : Int) ≤ 40 := by rw [ByteArray.size_append, ByteArray.size_append]; omega
  generalize r1 ++ r2 ++ r3 = rd at HD hsd ⊢
  have HD2 : Hid (rd = strOfNums (hdL x)) := HD.out
  clear HD hbw2 hbw3 hbw4 hHeld hHeld2 hHeld5 hHeld10 C1 C2 C3 b0 b1 b2 b3 b4
  go_wp2_with fail
  go_loopw [3, 4] (fun a i wr => ∃ (k : Nat) (r : ByteArray), k ≤ x.cs.length ∧ i = .int .i64 k ∧ a = .string r ∧ Hid (r = strOfNums (hdL x ++ csL (x.cs.take k))) ∧ Below w1.heap.size w1 wr) (fun _ i _ => x.cs.length - (intOf i).toNat)
  case atStart => exact ⟨0, rd, Nat.zero_le _, rfl, rfl, by simpa [Hid, csL] using HD2.out, belW⟩
  case round =>
    clear belW HD2 hsd
    obtain ⟨k, r, hk, rfl, rfl, HR, hbN⟩ := hrel
    have hbw := bel1.trans (hbN.mono bel1.size)
    have hNr : w.heap.size < wr.heap.size := Nat.lt_of_lt_of_le hN hbN.size
    have hln := hc_len hB k
    have hrs : (r.size : Int) ≤ 158 := by rw [HR.out, nums_size]; omega
    have hB5r := hB5.keep hN hbN
    obtain ⟨c0, c1, c2, c3, c4⟩ := hB5.keep hN hbN
    by_cases hlt : k < x.cs.length
    · obtain ⟨a0, e0', b, o, e0, hl, hc, _, ha⟩ := hS.pick
      obtain ⟨rfl, rfl⟩ : ac = a0 ∧ cc = e0' := by simpa using e0
      obtain ⟨rfl, hblt, _, hcell⟩ := ha k hlt
      have hx : x.cs[k]? = some x.cs[k] := by simp
      have d0 := (hbw.cell (p := ⟨b, o + k, none⟩) hblt).trans (hcell k _ hx)
      have hms := hB.c _ (List.getElem_mem hlt)
      have HX : Hid (csL (x.cs.take (k + 1)) = csL (x.cs.take k) ++ tN x.cs[k] 2) := csL_take hx
      generalize x.cs[k] = m at d0 hms HX
      obtain ⟨r4, E4, z4, C4⟩ := l10Text_o m 2 (by omega) (by omega)
      have hs4 : (r4.size : Int) ≤ 20 := by omega
      have hbr : b < wr.heap.size := by have := hbw.size; omega
      clear hcell hx ha e0 z4 hB5r
      go_wp2_with fail
      refine Calls.mono (C4.out _) ?_
      rintro e w5 ⟨rfl, hb5⟩
      go_wp2_with fail
      refine ⟨⟨k + 1, r ++ r4, hlt, by simp, rfl, ?_, hbN.trans (hb5.mono hbN.size)⟩, by simp [intOf]; omega⟩
      show r ++ r4 = _
      rw [HX.out, HR.out, E4.out, ← List.append_assoc, ← nums_app]
    · obtain rfl : k = x.cs.length := by omega
      rw [List.take_length] at HR
      obtain ⟨r5, E5, z5, C5⟩ := l10Text_o x.q 2 (by omega) (by omega)
      obtain ⟨r6, E6, z6, C6⟩ := l10Size_o x.rs.length 1 (by omega) (by omega) (by omega)
      have HM : Hid (r ++ r5 ++ r6 = strOfNums (mdL x)) := by
        show r ++ r5 ++ r6 = _
        rw [HR.out, E5.out, E6.out, ← nums_app, ← nums_app]; rfl
      have hs5 : (r5.size : Int) ≤ 1010 := by omega
      have hs6 : (r6.size : Int) ≤ 10 := by omega
      clear z5 z6 E5 E6 HR c0 c1 c3 c4
      go_wp2_with fail
      clear c2
      refine wp_region_held_drew (S := (fun w' => Bx5 w' w.heap.size x (.slice ac x.cs.length cc) (.slice ar x.rs.length cr))) (by kernel_rfl) ?_ (fun hHeld => ?_)
      · exact hB5r.keep hNr (bex)
      refine tkY (i := 0) (d := 36) (v := ?_) rfl rfl ?_ ?_
      rotate_left
      · intro w' hSw; obtain ⟨x0, x1, x2, x3, x4⟩ := hSw; go_simp; (try rw [if_neg (by omega)]); try exact rfl
      try simp only [List.setIfInBounds_toArray, List.set_cons_zero, List.set_cons_succ]
      refine tkY (i := 1) (d := 37) (v := ?_) rfl rfl ?_ ?_
      rotate_left
      · intro w' hSw; obtain ⟨x0, x1, x2, x3, x4⟩ := hSw; go_simp; (try rw [if_neg (by omega)]); try exact rfl
      try simp only [List.setIfInBounds_toArray, List.set_cons_zero, List.set_cons_succ]
      refine tkY (i := 2) (d := 38) (v := ?_) rfl rfl ?_ ?_
      rotate_left
      · intro w' hSw; obtain ⟨x0, x1, x2, x3, x4⟩ := hSw; go_simp; (try rw [if_neg (by omega)]); try exact rfl
      try simp only [List.setIfInBounds_toArray, List.set_cons_zero, List.set_cons_succ]
      refine tkY (i := 5) (d := 41) (v := ?_) rfl rfl ?_ ?_
      rotate_left
      · intro w' hSw; obtain ⟨x0, x1, x2, x3, x4⟩ := hSw; go_simp; (try rw [if_neg (by omega)]); try exact rfl
      try simp only [List.setIfInBounds_toArray, List.set_cons_zero, List.set_cons_succ]
      refine tkY (i := 6) (d := 42) (v := ?_) rfl rfl ?_ ?_
      rotate_left
      · intro w' hSw; obtain ⟨x0, x1, x2, x3, x4⟩ := hSw; go_simp; (try rw [if_neg (by omega)]); try exact rfl
      try simp only [List.setIfInBounds_toArray, List.set_cons_zero, List.set_cons_succ]
      refine tkY (i := 7) (d := 43) (v := ?_) rfl rfl ?_ ?_
      rotate_left
      · intro w' hSw; obtain ⟨x0, x1, x2, x3, x4⟩ := hSw; go_simp; (try rw [if_neg (by omega)]); try exact rfl
      try simp only [List.setIfInBounds_toArray, List.set_cons_zero, List.set_cons_succ]
      refine wpAnyH_ready (rs := [3]) (by kernel_rfl) (by simp) ?_
      refine AllReadyH.cons rfl (fun K hK => ?_) AllReadyH.nil
      go_simp
      go_at_call 39
      refine Calls.mono (C5.out _) ?_
      rintro e w5 ⟨rfl, hbw5⟩
      have hzw5 := hbw5.size
      (try simp at hzw5)
      try go_wp2_with fail
      refine hK.out _ _ ?_ (fun hHeld3 => ?_)
      · exact hB5r.keep hNr (bex)
      clear hK
      refine tkY (i := 4) (d := 40) (v := ?_) rfl rfl ?_ ?_
      rotate_left
      · intro w' hSw; obtain ⟨x0, x1, x2, x3, x4⟩ := hSw; go_simp; (try rw [if_neg (by omega)]); try exact rfl
      try simp only [List.setIfInBounds_toArray, List.set_cons_zero, List.set_cons_succ]
      refine wpAnyH_ready (rs := [8]) (by kernel_rfl) (by simp) ?_
      refine AllReadyH.cons rfl (fun K hK => ?_) AllReadyH.nil
      go_simp
      go_at_call 38
      refine Calls.mono (C6.out _) ?_
      rintro e w6 ⟨rfl, hbw6⟩
      have hzw6 := hbw6.size
      (try simp at hzw6)
      try go_wp2_with fail
      refine hK.out _ _ ?_ (fun hHeld8 => ?_)
      · exact hB5r.keep hNr (bex)
      clear hK
      refine tkY (i := 9) (d := 45) (v := ?_) rfl rfl ?_ ?_
      rotate_left
      · intro w' hSw; obtain ⟨x0, x1, x2, x3, x4⟩ := hSw; go_simp; (try rw [if_neg (by omega)]); try exact rfl
      try simp only [List.setIfInBounds_toArray, List.set_cons_zero, List.set_cons_succ]
      refine tkY (i := 10) (d := 3) (v := ?_) rfl rfl ?_ ?_
      rotate_left
      · intro w' hSw; obtain ⟨x0, x1, x2, x3, x4⟩ := hSw; go_simp; (try rw [if_neg (by omega)]); try exact rfl
      try simp only [List.setIfInBounds_toArray, List.set_cons_zero, List.set_cons_succ]
      refine wpAnyH_done (by kernel_rfl) ?_ _
      have belW : Below wr.heap.size wr w6 := bex
      have belV : Below w1.heap.size w1 w6 := hbN.trans (belW.mono hbN.size)
      generalize r ++ r5 ++ r6 = rm at HM ⊢
      have HM2 : Hid (rm = strOfNums (mdL x)) := HM.out
      clear HM hbw5 hbw6 hHeld hHeld3 hHeld8 C5 C6 belW hbN hB5r hNr
      go_wp2_with fail
      go_loopw [3, 5] (fun a i wr => ∃ (k : Nat) (r : ByteArray), k ≤ x.rs.length ∧ i = .int .i64 k ∧ a = .string r ∧ Hid (r = strOfNums (mdL x ++ rlsL (x.rs.take k))) ∧ Below w1.heap.size w1 wr) (fun _ i _ => x.rs.length - (intOf i).toNat)
      case atStart => exact ⟨0, rm, Nat.zero_le _, rfl, rfl, by simpa [Hid, rlsL] using HM2.out, belV⟩
      case round =>
        clear belV HM2 hbw hrs hln
        obtain ⟨k, r, hk, rfl, rfl, HR, hbN⟩ := hrel
        have hbw := bel1.trans (hbN.mono bel1.size)
        have hNr : w.heap.size < wr.heap.size := Nat.lt_of_lt_of_le hN hbN.size
        have hln := md_len hB k
        have hrs : (r.size : Int) ≤ 10000000 := by rw [HR.out, nums_size]; omega
        obtain ⟨c0, c1, c2, c3, c4⟩ := hB5.keep hN hbN
        by_cases hlt : k < x.rs.length
        · obtain ⟨a0, e0', b, o, e0, hl, hc, ha⟩ := hR.pick
          obtain ⟨rfl, rfl⟩ : ar = a0 ∧ cr = e0' := by simpa using e0
          obtain ⟨rfl, hblt, hL⟩ := ha k hlt
          have hx : x.rs[k]? = some x.rs[k] := by simp
          obtain ⟨v, q0, q1, q2, hRw⟩ := hL k x.rs[k] hx
          obtain ⟨av, lv, cv, rfl⟩ := hRw.shape
          have hBr : Bxr wr w.heap.size (.slice (some ⟨b, o, none⟩) x.rs.length cr) b (o + k * 3) x.rs[k].s x.rs[k].W (.slice av lv cv) := ⟨c4, (hbw.cell (p := ⟨b, _, none⟩) hblt).trans q0, (hbw.cell (p := ⟨b, _, none⟩) hblt).trans q1, (hbw.cell (p := ⟨b, _, none⟩) hblt).trans q2⟩
          have hms := hB.r _ (List.getElem_mem hlt)
          obtain ⟨_, _, hmw⟩ := hw.2.2.2.2 _ (List.getElem_mem hlt)
          have HX : Hid (rlsL (x.rs.take (k + 1)) = rlsL (x.rs.take k) ++ rlL x.rs[k]) := rlsL_take hx
          generalize x.rs[k] = m at hBr hms HX hRw hmw
          have hps := putB_size m.W m.cs
          have hRr := hRw.below hbw
          obtain ⟨r7, E7, z7, C7⟩ := l10Text_o m.s 2 (by omega) (by omega)
          obtain ⟨r8, E8, z8, C8⟩ := l10Text_o (putB m.W m.cs) 4 (by omega) (by omega)
          have hs7 : (r7.size : Int) ≤ 20 := by omega
          have hs8 : (r8.size : Int) ≤ 493210 := by omega
          have hbr : b < wr.heap.size := by have := hbw.size; omega
          have hk0 : (0 : Int) ≤ k := by omega
          have hk1 : (k : Int) < x.rs.length := by omega
          have HRr : Hid (r ++ r7 ++ r8 = strOfNums (mdL x ++ rlsL (x.rs.take (k + 1)))) := by
            show r ++ r7 ++ r8 = _
            rw [HX.out, HR.out, E7.out, E8.out, ← nums_app, ← nums_app]; congr 1; simp [rlL]
          clear hx ha e0 z7 z8 q0 q1 q2 hL c0 c1 c2 c3 HR HX E7 E8 hRw
          go_wp2_with fail
          clear c4
          refine wp_region_held_drew (S := (fun w' => Bxr w' w.heap.size (.slice (some ⟨b, o, none⟩) x.rs.length cr) b (o + k * 3) m.s m.W (.slice av lv cv))) (by kernel_rfl) ?_ (fun hHeld => ?_)
          · exact hBr.keep hNr hbr (bex)
          refine tkY (i := 0) (d := 53) (v := ?_) rfl rfl ?_ ?_
          rotate_left
          · intro w' hSw; obtain ⟨x0, x1, x2, x3⟩ := hSw; go_simp; (try rw [if_neg (by omega)]); try exact rfl
          try simp only [List.setIfInBounds_toArray, List.set_cons_zero, List.set_cons_succ]
          refine tkY (i := 1) (d := 54) (v := ?_) rfl rfl ?_ ?_
          rotate_left
          · intro w' hSw; obtain ⟨x0, x1, x2, x3⟩ := hSw; go_simp; (try rw [if_neg (by omega)]); try exact rfl
          try simp only [List.setIfInBounds_toArray, List.set_cons_zero, List.set_cons_succ]
          refine tkY (i := 2) (d := 55) (v := ?_) rfl rfl ?_ ?_
          rotate_left
          · intro w' hSw; obtain ⟨x0, x1, x2, x3⟩ := hSw; go_simp; (try rw [if_neg (by omega)]); try exact rfl
          try simp only [List.setIfInBounds_toArray, List.set_cons_zero, List.set_cons_succ]
          refine tkY (i := 3) (d := 56) (v := ?_) rfl rfl ?_ ?_
          rotate_left
          · intro w' hSw; obtain ⟨x0, x1, x2, x3⟩ := hSw; go_simp; (try rw [if_neg (by omega)]); try exact rfl
          try simp only [List.setIfInBounds_toArray, List.set_cons_zero, List.set_cons_succ]
          refine tkY (i := 4) (d := 57) (v := ?_) rfl rfl ?_ ?_
          rotate_left
          · intro w' hSw; obtain ⟨x0, x1, x2, x3⟩ := hSw; go_simp; (try rw [if_neg (by omega)]); try exact rfl
          try simp only [List.setIfInBounds_toArray, List.set_cons_zero, List.set_cons_succ]
          refine tkY (i := 5) (d := 58) (v := ?_) rfl rfl ?_ ?_
          rotate_left
          · intro w' hSw; obtain ⟨x0, x1, x2, x3⟩ := hSw; go_simp; (try rw [if_neg (by omega)]); try exact rfl
          try simp only [List.setIfInBounds_toArray, List.set_cons_zero, List.set_cons_succ]
          refine tkY (i := 6) (d := 59) (v := ?_) rfl rfl ?_ ?_
          rotate_left
          · intro w' hSw; obtain ⟨x0, x1, x2, x3⟩ := hSw; go_simp; (try rw [if_neg (by omega)]); try exact rfl
          try simp only [List.setIfInBounds_toArray, List.set_cons_zero, List.set_cons_succ]
          refine tkY (i := 9) (d := 62) (v := ?_) rfl rfl ?_ ?_
          rotate_left
          · intro w' hSw; obtain ⟨x0, x1, x2, x3⟩ := hSw; go_simp; (try rw [if_neg (by omega)]); try exact rfl
          try simp only [List.setIfInBounds_toArray, List.set_cons_zero, List.set_cons_succ]
          refine tkY (i := 10) (d := 63) (v := ?_) rfl rfl ?_ ?_
          rotate_left
          · intro w' hSw; obtain ⟨x0, x1, x2, x3⟩ := hSw; go_simp; (try rw [if_neg (by omega)]); try exact rfl
          try simp only [List.setIfInBounds_toArray, List.set_cons_zero, List.set_cons_succ]
          refine tkY (i := 11) (d := 64) (v := ?_) rfl rfl ?_ ?_
          rotate_left
          · intro w' hSw; obtain ⟨x0, x1, x2, x3⟩ := hSw; go_simp; (try rw [if_neg (by omega)]); try exact rfl
          try simp only [List.setIfInBounds_toArray, List.set_cons_zero, List.set_cons_succ]
          refine tkY (i := 12) (d := 65) (v := ?_) rfl rfl ?_ ?_
          rotate_left
          · intro w' hSw; obtain ⟨x0, x1, x2, x3⟩ := hSw; go_simp; (try rw [if_neg (by omega)]); try exact rfl
          try simp only [List.setIfInBounds_toArray, List.set_cons_zero, List.set_cons_succ]
          refine tkY (i := 13) (d := 66) (v := ?_) rfl rfl ?_ ?_
          rotate_left
          · intro w' hSw; obtain ⟨x0, x1, x2, x3⟩ := hSw; go_simp; (try rw [if_neg (by omega)]); try exact rfl
          try simp only [List.setIfInBounds_toArray, List.set_cons_zero, List.set_cons_succ]
          refine tkY (i := 14) (d := 67) (v := ?_) rfl rfl ?_ ?_
          rotate_left
          · intro w' hSw; obtain ⟨x0, x1, x2, x3⟩ := hSw; go_simp; (try rw [if_neg (by omega)]); try exact rfl
          try simp only [List.setIfInBounds_toArray, List.set_cons_zero, List.set_cons_succ]
          refine wpAnyH_ready (rs := [7]) (by kernel_rfl) (by simp) ?_
          refine AllReadyH.cons rfl (fun K hK => ?_) AllReadyH.nil
          go_simp
          go_at_call 39
          refine Calls.mono (C7.out _) ?_
          rintro e w5 ⟨rfl, hbw5⟩
          have hzw5 := hbw5.size
          (try simp at hzw5)
          try go_wp2_with fail
          refine hK.out _ _ ?_ (fun hHeld7 => ?_)
          · exact hBr.keep hNr hbr (bex)
          clear hK
          refine tkY (i := 8) (d := 61) (v := ?_) rfl rfl ?_ ?_
          rotate_left
          · intro w' hSw; obtain ⟨x0, x1, x2, x3⟩ := hSw; go_simp; (try rw [if_neg (by omega)]); try exact rfl
          try simp only [List.setIfInBounds_toArray, List.set_cons_zero, List.set_cons_succ]
          refine wpAnyH_ready (rs := [15]) (by kernel_rfl) (by simp) ?_
          refine AllReadyH.cons rfl (fun K hK => ?_) AllReadyH.nil
          go_simp
          go_at_call 40
          refine Calls.mono (specPutBag_any m.W (.slice av lv cv) m.cs _ hmw (hRr.below (bex))) ?_
          rintro e w6 ⟨rfl, hbw6⟩
          have hzw6 := hbw6.size
          (try simp at hzw6)
          try go_wp2_with fail
          refine hK.out _ _ ?_ (fun hHeld15 => ?_)
          · exact hBr.keep hNr hbr (bex)
          clear hK
          refine wpAnyH_ready (rs := [16]) (by kernel_rfl) (by simp) ?_
          refine AllReadyH.cons rfl (fun K hK => ?_) AllReadyH.nil
          go_simp
          go_at_call 39
          refine Calls.mono (C8.out _) ?_
          rintro e w7 ⟨rfl, hbw7⟩
          have hzw7 := hbw7.size
          (try simp at hzw7)
          try go_wp2_with fail
          refine hK.out _ _ ?_ (fun hHeld16 => ?_)
          · exact hBr.keep hNr hbr (bex)
          clear hK
          refine tkY (i := 17) (d := 70) (v := ?_) rfl rfl ?_ ?_
          rotate_left
          · intro w' hSw; obtain ⟨x0, x1, x2, x3⟩ := hSw; go_simp; (try rw [if_neg (by omega)]); try exact rfl
          try simp only [List.setIfInBounds_toArray, List.set_cons_zero, List.set_cons_succ]
          refine tkY (i := 18) (d := 3) (v := ?_) rfl rfl ?_ ?_
          rotate_left
          · intro w' hSw; obtain ⟨x0, x1, x2, x3⟩ := hSw; go_simp; (try rw [if_neg (by omega)]); try exact rfl
          try simp only [List.setIfInBounds_toArray, List.set_cons_zero, List.set_cons_succ]
          refine wpAnyH_done (by kernel_rfl) ?_ _
          have belW : Below wr.heap.size wr w7 := bex
          go_wp2_with fail
          exact ⟨⟨k + 1, r ++ r7 ++ r8, hlt, by simp, rfl, HRr, hbN.trans (belW.mono hbN.size)⟩, by simp [intOf]; omega⟩
        · obtain rfl : k = x.rs.length := by omega
          rw [List.take_length] at HR
          go_wp2_with fail
          go_returns
          exact ⟨by rw [HT.out, show stepL x = mdL x ++ rlsL x.rs from rfl, ← HR.out]; rfl, hbw⟩
end Go.Proofs.YtbmoimfimeiglaaGreat
