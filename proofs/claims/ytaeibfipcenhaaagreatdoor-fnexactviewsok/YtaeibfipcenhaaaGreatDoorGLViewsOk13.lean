/- Own texts, joined: contracts that the law's proof goes by. -/
import Derived.Test.YtaeibfipcenhaaaGreatDoorGLViewsOk1
import Derived.Deep.RegionHeld3
import Derived.Test.YtaeibfipcenhaaaGreatDoorGLViewsOk12
import Derived.Handy
import Derived.Test.YtaeibfipcenhaaaGreatDoorGLViewsOk31
import Derived.Test.YtaeibfipcenhaaaGreatDoorGLViewsOk36
import Derived.Test.YtaeibfipcenhaaaGreatDoorGLViewsOk30
import Derived.WideMake
import Derived.Maps.AppendAt
namespace Go.Proofs.YtaeibfipcenhaaaGreatDoor
set_option linter.unusedVariables false
variable {P : Program} {md : Region.Mode} {ops : Array Oper} {Q : Exit → Act → World → Prop} {S : World → Prop}
theorem takeYes {i d : Nat} {oi : Oper} {v : Value} {fuel : Nat} {listed : Array Bool} {ts : Array Value} {ds : List _} {w : World} (hi : ops[i]? = some oi) (hd : oi.dst = some d)
    (hs : Region.noSelect ops = true) (hf : Region.free md ops listed i = true) (hr : (Region.ready md ops listed).contains i = true)
    (hQ : ∀ c a w, Q (.panic c) (a.put oi.dst v) w → Q (.panic c) a w) (hw : Region.wanted oi (yielded ops ts) = true) (hS : S w)
    (hy : ∀ w, S w → (execOp (Act.eval ⟨ts, ds⟩) oi).run P w = .ok (.value v) w)
    (h : wpAnyH P md ops Q S fuel (listed.setIfInBounds i true) ⟨ts.setIfInBounds d v, ds⟩ w) : wpAnyH P md ops Q S (fuel + 1) listed ⟨ts, ds⟩ w := by
  refine wpAnyH_take hi hs hf hr hQ (Or.inl ⟨hw, hy⟩) hS ?_
  rw [hd]
  exact h
theorem takeNo {i d : Nat} {oi : Oper} {fuel : Nat} {listed : Array Bool} {ts : Array Value} {ds : List _} {w : World} (hi : ops[i]? = some oi) (hd : oi.dst = some d)
    (hs : Region.noSelect ops = true) (hf : Region.free md ops listed i = true) (hr : (Region.ready md ops listed).contains i = true)
    (hQ : ∀ c a w, Q (.panic c) (a.put oi.dst undef) w → Q (.panic c) a w) (hw : Region.wanted oi (yielded ops ts) = false) (hS : S w)
    (h : wpAnyH P md ops Q S fuel (listed.setIfInBounds i true) ⟨ts.setIfInBounds d undef, ds⟩ w) : wpAnyH P md ops Q S (fuel + 1) listed ⟨ts, ds⟩ w := by
  refine wpAnyH_take hi hs hf hr hQ (Or.inr ⟨hw, rfl⟩) hS ?_
  rw [hd]
  exact h
end Go.Proofs.YtaeibfipcenhaaaGreatDoor
namespace Go.Proofs.YtaeibfipcenhaaaGreatDoor
open Go.RowKit
set_option linter.unusedVariables false
theorem okN_zero {n : Int} (h : n = 0) : okN n = false := by simp [okN, h]
theorem okN_out {n : Int} (h : ¬ (decide (-1000000000 ≤ n) && decide (n ≤ 1000000000)) = true) : okN n = false := by
  unfold okN
  rw [Bool.and_assoc, show (decide (-1000000000 ≤ n) && decide (n ≤ 1000000000)) = false from by simpa using h, Bool.and_false]
theorem okN_in {n : Int} (h0 : ¬ n = 0) (h : (decide (-1000000000 ≤ n) && decide (n ≤ 1000000000)) = true) : okN n = true := by
  unfold okN
  rw [Bool.and_assoc, h]
  simp [h0]
set_option maxHeartbeats 8000000 in
set_option maxRecDepth 100000 in
theorem specBagOk_any (W : Int) (v : Value) (cs : List C2) (w : World) (hw : CsWf cs) (hr : RowsIs w v cs) :
    Calls Tryz.prog 49 #[.agg #[.int .i64 W, v]] w fun e w' => e = .returned (.bool (okBag W cs)) ∧ Below w.heap.size w w' := by
  obtain ⟨a, c, b, o, rfl, hl, hc, ha⟩ := hr.pick
  unfold maxLen at hc
  clear hr
  go_enter Tryz.func49, Tryz.ntmps49
  go_wp2
  go_loopw [3] (fun i wr => ∃ (k : Nat) (q : Int), k ≤ cs.length ∧ q = k ∧ i = .int .i64 q ∧ Below w.heap.size w wr ∧ w.heap.size < wr.heap.size ∧ wr.cell? ⟨w.heap.size, 0, none⟩ = some (.int .i64 W) ∧ wr.cell? ⟨w.heap.size, 1, none⟩ = some (.slice a cs.length c) ∧ okCs W none cs = okCs W (prev cs k) (cs.drop k)) (fun i _ => cs.length - (intOf i).toNat)
  case atStart => exact ⟨0, 0, Nat.zero_le _, rfl, rfl, by go_grown, by simp, by go_simp, by go_simp, by simp [prev]⟩
  case round =>
    obtain ⟨k, q, hk, hq, rfl, hb, hsz, p0, p1, heq⟩ := hrel
    have HE : Hid (okCs W none cs = okCs W (prev cs k) (cs.drop k)) := heq
    have hzb := hb.size
    clear heq
    by_cases hlt : k < cs.length
    · obtain ⟨rfl, hblt, hL⟩ := ha k hlt
      obtain ⟨x, u, hx, c0, hR, c1, hbr⟩ := hL.at hblt hb hlt
      obtain ⟨ur, lr, cr, rfl⟩ := hR.shape
      have hxw : VsWf x.r := (hw x (List.mem_of_getElem? hx)).1
      have HS : Hid (okCs W (prev cs k) (cs.drop k) = (okRow x.r W && okN x.n && okPrev (prev cs k) x && okCs W (prev cs (k + 1)) (cs.drop (k + 1)))) := okCs_step hx
      by_cases hok : okRow x.r W = true
      rotate_left
      · have hf : okRow x.r W = false := by simpa using hok
        subst hq
        clear ha hw hL hx
        go_wp2_with fail
        refine wp_region_held_drew (S := (fun w' => w'.cell? ⟨w.heap.size, 0, none⟩ = some (.int .i64 W) ∧ w'.cell? ⟨w.heap.size, 1, none⟩ = some (.slice (some ⟨b, o, none⟩) cs.length c) ∧ w'.cell? ⟨wr.heap.size, 0, none⟩ = some (.slice ur lr cr) ∧ w'.cell? ⟨wr.heap.size, 1, none⟩ = some (.int .i64 x.n))) (by kernel_rfl) ?_ (fun hHeld => ?_)
        · (try dsimp only); refine ⟨?_, ?_, ?_, ?_⟩ <;> first | (go_simp; done) | (exact cell_later (by assumption) (by go_simp))
        refine takeYes (i := 0) (d := 17) (v := ?_) rfl rfl (by kernel_rfl) (by kernel_rfl) (by kernel_rfl) (fun _ _ _ h => h) (by rfl) (by assumption) ?_ ?_
        rotate_left
        · intro w' hSw; (try dsimp only at hSw); go_simp; try exact rfl
        try simp only [List.setIfInBounds_toArray, List.set_cons_zero, List.set_cons_succ]
        refine takeYes (i := 1) (d := 18) (v := ?_) rfl rfl (by kernel_rfl) (by kernel_rfl) (by kernel_rfl) (fun _ _ _ h => h) (by rfl) (by assumption) ?_ ?_
        rotate_left
        · intro w' hSw; (try dsimp only at hSw); go_simp; try exact rfl
        try simp only [List.setIfInBounds_toArray, List.set_cons_zero, List.set_cons_succ]
        refine takeYes (i := 2) (d := 19) (v := ?_) rfl rfl (by kernel_rfl) (by kernel_rfl) (by kernel_rfl) (fun _ _ _ h => h) (by rfl) (by assumption) ?_ ?_
        rotate_left
        · intro w' hSw; (try dsimp only at hSw); go_simp; try exact rfl
        try simp only [List.setIfInBounds_toArray, List.set_cons_zero, List.set_cons_succ]
        refine takeYes (i := 3) (d := 20) (v := ?_) rfl rfl (by kernel_rfl) (by kernel_rfl) (by kernel_rfl) (fun _ _ _ h => h) (by rfl) (by assumption) ?_ ?_
        rotate_left
        · intro w' hSw; (try dsimp only at hSw); go_simp; try exact rfl
        try simp only [List.setIfInBounds_toArray, List.set_cons_zero, List.set_cons_succ]
        refine wpAnyH_ready (rs := [4]) (by kernel_rfl) (by simp) ?_
        refine AllReadyH.cons rfl (fun K hK => ?_) AllReadyH.nil
        go_simp
        go_at_call 68
        refine Calls.mono (l02Row_any (.slice ur lr cr) x.r W _ (hR.below (by repeat (first | exact Below.refl _ _ | refine Below.drew ?_ | refine Below.alloc ?_ (by first | (simp; done) | (simp; omega) | omega) _ | refine Below.setCell ?_ (by first | (simp; done) | (simp; omega) | omega) _ | refine bstep (by assumption) (by first | (simp; done) | (simp; omega) | omega) ?_))) hxw) ?_
        rintro e w1 ⟨rfl, hb1⟩
        have hz1 := hb1.size
        (try simp at hz1)
        try go_wp2_with fail
        refine hK.out _ _ ?_ (fun hHeld4 => ?_)
        · (try dsimp only); refine ⟨?_, ?_, ?_, ?_⟩ <;> first | (go_simp; done) | (exact cell_later (by assumption) (by go_simp))
        clear hK
        refine takeYes (i := 5) (d := 22) (v := ?_) rfl rfl (by kernel_rfl) (by kernel_rfl) (by kernel_rfl) (fun _ _ _ h => h) (by rfl) (by assumption) ?_ ?_
        rotate_left
        · intro w' hSw; (try dsimp only at hSw); go_simp; try exact rfl
        try simp only [List.setIfInBounds_toArray, List.set_cons_zero, List.set_cons_succ]
        refine takeYes (i := 6) (d := 23) (v := ?_) rfl rfl (by kernel_rfl) (by kernel_rfl) (by kernel_rfl) (fun _ _ _ h => h) (by rfl) (by assumption) ?_ ?_
        rotate_left
        · intro w' hSw; (try dsimp only at hSw); go_simp; try exact rfl
        try simp only [List.setIfInBounds_toArray, List.set_cons_zero, List.set_cons_succ]
        refine takeNo (i := 7) (d := 24) rfl rfl (by kernel_rfl) (by kernel_rfl) (by kernel_rfl) (fun _ _ _ h => h) (by rfl) (by assumption) ?_
        try simp only [List.setIfInBounds_toArray, List.set_cons_zero, List.set_cons_succ]
        refine takeNo (i := 8) (d := 25) rfl rfl (by kernel_rfl) (by kernel_rfl) (by kernel_rfl) (fun _ _ _ h => h) (by rfl) (by assumption) ?_
        try simp only [List.setIfInBounds_toArray, List.set_cons_zero, List.set_cons_succ]
        refine takeNo (i := 9) (d := 26) rfl rfl (by kernel_rfl) (by kernel_rfl) (by kernel_rfl) (fun _ _ _ h => h) (by rfl) (by assumption) ?_
        try simp only [List.setIfInBounds_toArray, List.set_cons_zero, List.set_cons_succ]
        refine takeYes (i := 10) (d := 27) (v := ?_) rfl rfl (by kernel_rfl) (by kernel_rfl) (by kernel_rfl) (fun _ _ _ h => h) (by rfl) (by assumption) ?_ ?_
        rotate_left
        · intro w' hSw; (try dsimp only at hSw); go_simp; try exact rfl
        try simp only [List.setIfInBounds_toArray, List.set_cons_zero, List.set_cons_succ]
        refine takeYes (i := 11) (d := 28) (v := ?_) rfl rfl (by kernel_rfl) (by kernel_rfl) (by kernel_rfl) (fun _ _ _ h => h) (by rfl) (by assumption) ?_ ?_
        rotate_left
        · intro w' hSw; (try dsimp only at hSw); go_simp; try exact rfl
        try simp only [List.setIfInBounds_toArray, List.set_cons_zero, List.set_cons_succ]
        refine takeNo (i := 12) (d := 29) rfl rfl (by kernel_rfl) (by kernel_rfl) (by kernel_rfl) (fun _ _ _ h => h) (by rfl) (by assumption) ?_
        try simp only [List.setIfInBounds_toArray, List.set_cons_zero, List.set_cons_succ]
        refine takeNo (i := 13) (d := 30) rfl rfl (by kernel_rfl) (by kernel_rfl) (by kernel_rfl) (fun _ _ _ h => h) (by rfl) (by assumption) ?_
        try simp only [List.setIfInBounds_toArray, List.set_cons_zero, List.set_cons_succ]
        refine wpAnyH_ready (rs := [14]) (by kernel_rfl) (by simp) ?_
        refine AllReadyH.cons rfl (fun K hK => ?_) AllReadyH.nil
        go_simp
        refine hK.out _ _ ?_ (fun hHeld14 => ?_)
        · (try dsimp only); refine ⟨?_, ?_, ?_, ?_⟩ <;> first | (go_simp; done) | (exact cell_later (by assumption) (by go_simp))
        clear hK
        refine takeNo (i := 15) (d := 32) rfl rfl (by kernel_rfl) (by kernel_rfl) (by kernel_rfl) (fun _ _ _ h => h) (by rfl) (by assumption) ?_
        try simp only [List.setIfInBounds_toArray, List.set_cons_zero, List.set_cons_succ]
        refine takeYes (i := 16) (d := 33) (v := ?_) rfl rfl (by kernel_rfl) (by kernel_rfl) (by kernel_rfl) (fun _ _ _ h => h) (by rfl) (by assumption) ?_ ?_
        rotate_left
        · intro w' hSw; (try dsimp only at hSw); go_simp; try exact rfl
        try simp only [List.setIfInBounds_toArray, List.set_cons_zero, List.set_cons_succ]
        refine takeYes (i := 17) (d := 34) (v := ?_) rfl rfl (by kernel_rfl) (by kernel_rfl) (by kernel_rfl) (fun _ _ _ h => h) (by rfl) (by assumption) ?_ ?_
        rotate_left
        · intro w' hSw; (try dsimp only at hSw); go_simp; try exact rfl
        try simp only [List.setIfInBounds_toArray, List.set_cons_zero, List.set_cons_succ]
        refine takeNo (i := 18) (d := 35) rfl rfl (by kernel_rfl) (by kernel_rfl) (by kernel_rfl) (fun _ _ _ h => h) (by rfl) (by assumption) ?_
        try simp only [List.setIfInBounds_toArray, List.set_cons_zero, List.set_cons_succ]
        refine takeNo (i := 19) (d := 36) rfl rfl (by kernel_rfl) (by kernel_rfl) (by kernel_rfl) (fun _ _ _ h => h) (by rfl) (by assumption) ?_
        try simp only [List.setIfInBounds_toArray, List.set_cons_zero, List.set_cons_succ]
        refine takeNo (i := 20) (d := 37) rfl rfl (by kernel_rfl) (by kernel_rfl) (by kernel_rfl) (fun _ _ _ h => h) (by rfl) (by assumption) ?_
        try simp only [List.setIfInBounds_toArray, List.set_cons_zero, List.set_cons_succ]
        refine takeNo (i := 21) (d := 38) rfl rfl (by kernel_rfl) (by kernel_rfl) (by kernel_rfl) (fun _ _ _ h => h) (by rfl) (by assumption) ?_
        try simp only [List.setIfInBounds_toArray, List.set_cons_zero, List.set_cons_succ]
        refine takeNo (i := 22) (d := 39) rfl rfl (by kernel_rfl) (by kernel_rfl) (by kernel_rfl) (fun _ _ _ h => h) (by rfl) (by assumption) ?_
        try simp only [List.setIfInBounds_toArray, List.set_cons_zero, List.set_cons_succ]
        refine takeNo (i := 23) (d := 40) rfl rfl (by kernel_rfl) (by kernel_rfl) (by kernel_rfl) (fun _ _ _ h => h) (by rfl) (by assumption) ?_
        try simp only [List.setIfInBounds_toArray, List.set_cons_zero, List.set_cons_succ]
        refine takeNo (i := 24) (d := 41) rfl rfl (by kernel_rfl) (by kernel_rfl) (by kernel_rfl) (fun _ _ _ h => h) (by rfl) (by assumption) ?_
        try simp only [List.setIfInBounds_toArray, List.set_cons_zero, List.set_cons_succ]
        refine takeNo (i := 25) (d := 42) rfl rfl (by kernel_rfl) (by kernel_rfl) (by kernel_rfl) (fun _ _ _ h => h) (by rfl) (by assumption) ?_
        try simp only [List.setIfInBounds_toArray, List.set_cons_zero, List.set_cons_succ]
        refine takeNo (i := 26) (d := 43) rfl rfl (by kernel_rfl) (by kernel_rfl) (by kernel_rfl) (fun _ _ _ h => h) (by rfl) (by assumption) ?_
        try simp only [List.setIfInBounds_toArray, List.set_cons_zero, List.set_cons_succ]
        refine takeNo (i := 27) (d := 44) rfl rfl (by kernel_rfl) (by kernel_rfl) (by kernel_rfl) (fun _ _ _ h => h) (by rfl) (by assumption) ?_
        try simp only [List.setIfInBounds_toArray, List.set_cons_zero, List.set_cons_succ]
        refine takeNo (i := 28) (d := 45) rfl rfl (by kernel_rfl) (by kernel_rfl) (by kernel_rfl) (fun _ _ _ h => h) (by rfl) (by assumption) ?_
        try simp only [List.setIfInBounds_toArray, List.set_cons_zero, List.set_cons_succ]
        refine takeNo (i := 29) (d := 46) rfl rfl (by kernel_rfl) (by kernel_rfl) (by kernel_rfl) (fun _ _ _ h => h) (by rfl) (by assumption) ?_
        try simp only [List.setIfInBounds_toArray, List.set_cons_zero, List.set_cons_succ]
        refine wpAnyH_ready (rs := [30]) (by kernel_rfl) (by simp) ?_
        refine AllReadyH.cons rfl (fun K hK => ?_) AllReadyH.nil
        go_simp
        refine hK.out _ _ ?_ (fun hHeld30 => ?_)
        · (try dsimp only); refine ⟨?_, ?_, ?_, ?_⟩ <;> first | (go_simp; done) | (exact cell_later (by assumption) (by go_simp))
        clear hK
        refine takeNo (i := 31) (d := 48) rfl rfl (by kernel_rfl) (by kernel_rfl) (by kernel_rfl) (fun _ _ _ h => h) (by rfl) (by assumption) ?_
        try simp only [List.setIfInBounds_toArray, List.set_cons_zero, List.set_cons_succ]
        refine takeNo (i := 32) (d := 49) rfl rfl (by kernel_rfl) (by kernel_rfl) (by kernel_rfl) (fun _ _ _ h => h) (by rfl) (by assumption) ?_
        try simp only [List.setIfInBounds_toArray, List.set_cons_zero, List.set_cons_succ]
        refine takeYes (i := 33) (d := 50) (v := ?_) rfl rfl (by kernel_rfl) (by kernel_rfl) (by kernel_rfl) (fun _ _ _ h => h) (by rfl) (by assumption) ?_ ?_
        rotate_left
        · intro w' hSw; (try dsimp only at hSw); go_simp; try exact rfl
        try simp only [List.setIfInBounds_toArray, List.set_cons_zero, List.set_cons_succ]
        refine wpAnyH_done (by kernel_rfl) ?_ _
        go_wp2
        go_returns
        refine ⟨ret_bool ?_, by repeat (first | exact Below.refl _ _ | refine Below.drew ?_ | refine Below.alloc ?_ (by first | (simp; done) | (simp; omega) | omega) _ | refine Below.setCell ?_ (by first | (simp; done) | (simp; omega) | omega) _ | refine bstep (by assumption) (by first | (simp; done) | (simp; omega) | omega) ?_)⟩
        unfold okBag
        rw [HE.out, HS.out, hf]
        simp
      by_cases hn0 : x.n = 0
      · have HN : Hid (okN x.n = false) := okN_zero hn0
        have hn1 : (x.n == 0) = true := by simpa using hn0
        subst hq
        clear ha hw hL hx hn0
        go_wp2_with fail
        refine wp_region_held_drew (S := (fun w' => w'.cell? ⟨w.heap.size, 0, none⟩ = some (.int .i64 W) ∧ w'.cell? ⟨w.heap.size, 1, none⟩ = some (.slice (some ⟨b, o, none⟩) cs.length c) ∧ w'.cell? ⟨wr.heap.size, 0, none⟩ = some (.slice ur lr cr) ∧ w'.cell? ⟨wr.heap.size, 1, none⟩ = some (.int .i64 x.n))) (by kernel_rfl) ?_ (fun hHeld => ?_)
        · (try dsimp only); refine ⟨?_, ?_, ?_, ?_⟩ <;> first | (go_simp; done) | (exact cell_later (by assumption) (by go_simp))
        refine takeYes (i := 0) (d := 17) (v := ?_) rfl rfl (by kernel_rfl) (by kernel_rfl) (by kernel_rfl) (fun _ _ _ h => h) (by rfl) (by assumption) ?_ ?_
        rotate_left
        · intro w' hSw; (try dsimp only at hSw); go_simp; try exact rfl
        try simp only [List.setIfInBounds_toArray, List.set_cons_zero, List.set_cons_succ]
        refine takeYes (i := 1) (d := 18) (v := ?_) rfl rfl (by kernel_rfl) (by kernel_rfl) (by kernel_rfl) (fun _ _ _ h => h) (by rfl) (by assumption) ?_ ?_
        rotate_left
        · intro w' hSw; (try dsimp only at hSw); go_simp; try exact rfl
        try simp only [List.setIfInBounds_toArray, List.set_cons_zero, List.set_cons_succ]
        refine takeYes (i := 2) (d := 19) (v := ?_) rfl rfl (by kernel_rfl) (by kernel_rfl) (by kernel_rfl) (fun _ _ _ h => h) (by rfl) (by assumption) ?_ ?_
        rotate_left
        · intro w' hSw; (try dsimp only at hSw); go_simp; try exact rfl
        try simp only [List.setIfInBounds_toArray, List.set_cons_zero, List.set_cons_succ]
        refine takeYes (i := 3) (d := 20) (v := ?_) rfl rfl (by kernel_rfl) (by kernel_rfl) (by kernel_rfl) (fun _ _ _ h => h) (by rfl) (by assumption) ?_ ?_
        rotate_left
        · intro w' hSw; (try dsimp only at hSw); go_simp; try exact rfl
        try simp only [List.setIfInBounds_toArray, List.set_cons_zero, List.set_cons_succ]
        refine wpAnyH_ready (rs := [4]) (by kernel_rfl) (by simp) ?_
        refine AllReadyH.cons rfl (fun K hK => ?_) AllReadyH.nil
        go_simp
        go_at_call 68
        refine Calls.mono (l02Row_any (.slice ur lr cr) x.r W _ (hR.below (by repeat (first | exact Below.refl _ _ | refine Below.drew ?_ | refine Below.alloc ?_ (by first | (simp; done) | (simp; omega) | omega) _ | refine Below.setCell ?_ (by first | (simp; done) | (simp; omega) | omega) _ | refine bstep (by assumption) (by first | (simp; done) | (simp; omega) | omega) ?_))) hxw) ?_
        rintro e w1 ⟨rfl, hb1⟩
        have hz1 := hb1.size
        (try simp at hz1)
        try go_wp2_with fail
        refine hK.out _ _ ?_ (fun hHeld4 => ?_)
        · (try dsimp only); refine ⟨?_, ?_, ?_, ?_⟩ <;> first | (go_simp; done) | (exact cell_later (by assumption) (by go_simp))
        clear hK
        refine takeYes (i := 5) (d := 22) (v := ?_) rfl rfl (by kernel_rfl) (by kernel_rfl) (by kernel_rfl) (fun _ _ _ h => h) (by rfl) (by assumption) ?_ ?_
        rotate_left
        · intro w' hSw; (try dsimp only at hSw); go_simp; try exact rfl
        try simp only [List.setIfInBounds_toArray, List.set_cons_zero, List.set_cons_succ]
        refine takeYes (i := 6) (d := 23) (v := ?_) rfl rfl (by kernel_rfl) (by kernel_rfl) (by kernel_rfl) (fun _ _ _ h => h) (by rfl) (by assumption) ?_ ?_
        rotate_left
        · intro w' hSw; (try dsimp only at hSw); go_simp; try exact rfl
        try simp only [List.setIfInBounds_toArray, List.set_cons_zero, List.set_cons_succ]
        refine takeYes (i := 7) (d := 24) (v := ?_) rfl rfl (by kernel_rfl) (by kernel_rfl) (by kernel_rfl) (fun _ _ _ h => h) (by rfl) (by assumption) ?_ ?_
        rotate_left
        · intro w' hSw; (try dsimp only at hSw); go_simp; try exact rfl
        try simp only [List.setIfInBounds_toArray, List.set_cons_zero, List.set_cons_succ]
        refine takeYes (i := 8) (d := 25) (v := ?_) rfl rfl (by kernel_rfl) (by kernel_rfl) (by kernel_rfl) (fun _ _ _ h => h) (by rfl) (by assumption) ?_ ?_
        rotate_left
        · intro w' hSw; (try dsimp only at hSw); go_simp; try exact rfl
        try simp only [List.setIfInBounds_toArray, List.set_cons_zero, List.set_cons_succ]
        refine takeYes (i := 9) (d := 26) (v := ?_) rfl rfl (by kernel_rfl) (by kernel_rfl) (by kernel_rfl) (fun _ _ _ h => h) (by rfl) (by assumption) ?_ ?_
        rotate_left
        · intro w' hSw; (try dsimp only at hSw); go_simp; try exact rfl
        try simp only [List.setIfInBounds_toArray, List.set_cons_zero, List.set_cons_succ]
        refine takeYes (i := 10) (d := 27) (v := ?_) rfl rfl (by kernel_rfl) (by kernel_rfl) (by kernel_rfl) (fun _ _ _ h => h) (by rfl) (by assumption) ?_ ?_
        rotate_left
        · intro w' hSw; (try dsimp only at hSw); go_simp; try exact rfl
        try simp only [List.setIfInBounds_toArray, List.set_cons_zero, List.set_cons_succ]
        refine takeYes (i := 11) (d := 28) (v := ?_) rfl rfl (by kernel_rfl) (by kernel_rfl) (by kernel_rfl) (fun _ _ _ h => h) (by rfl) (by assumption) ?_ ?_
        rotate_left
        · intro w' hSw; (try dsimp only at hSw); go_simp; try exact rfl
        try simp only [List.setIfInBounds_toArray, List.set_cons_zero, List.set_cons_succ]
        refine takeNo (i := 12) (d := 29) rfl rfl (by kernel_rfl) (by kernel_rfl) (by kernel_rfl) (fun _ _ _ h => h) (by rfl) (by assumption) ?_
        try simp only [List.setIfInBounds_toArray, List.set_cons_zero, List.set_cons_succ]
        refine takeNo (i := 13) (d := 30) rfl rfl (by kernel_rfl) (by kernel_rfl) (by kernel_rfl) (fun _ _ _ h => h) (by rfl) (by assumption) ?_
        try simp only [List.setIfInBounds_toArray, List.set_cons_zero, List.set_cons_succ]
        refine wpAnyH_ready (rs := [14]) (by kernel_rfl) (by simp) ?_
        refine AllReadyH.cons rfl (fun K hK => ?_) AllReadyH.nil
        go_simp
        refine hK.out _ _ ?_ (fun hHeld14 => ?_)
        · (try dsimp only); refine ⟨?_, ?_, ?_, ?_⟩ <;> first | (go_simp; done) | (exact cell_later (by assumption) (by go_simp))
        clear hK
        refine takeNo (i := 15) (d := 32) rfl rfl (by kernel_rfl) (by kernel_rfl) (by kernel_rfl) (fun _ _ _ h => h) (by rfl) (by assumption) ?_
        try simp only [List.setIfInBounds_toArray, List.set_cons_zero, List.set_cons_succ]
        refine takeYes (i := 16) (d := 33) (v := ?_) rfl rfl (by kernel_rfl) (by kernel_rfl) (by kernel_rfl) (fun _ _ _ h => h) (by rfl) (by assumption) ?_ ?_
        rotate_left
        · intro w' hSw; (try dsimp only at hSw); go_simp; try exact rfl
        try simp only [List.setIfInBounds_toArray, List.set_cons_zero, List.set_cons_succ]
        refine takeYes (i := 17) (d := 34) (v := ?_) rfl rfl (by kernel_rfl) (by kernel_rfl) (by kernel_rfl) (fun _ _ _ h => h) (by rfl) (by assumption) ?_ ?_
        rotate_left
        · intro w' hSw; (try dsimp only at hSw); go_simp; try exact rfl
        try simp only [List.setIfInBounds_toArray, List.set_cons_zero, List.set_cons_succ]
        refine takeNo (i := 18) (d := 35) rfl rfl (by kernel_rfl) (by kernel_rfl) (by kernel_rfl) (fun _ _ _ h => h) (by rfl) (by assumption) ?_
        try simp only [List.setIfInBounds_toArray, List.set_cons_zero, List.set_cons_succ]
        refine takeNo (i := 19) (d := 36) rfl rfl (by kernel_rfl) (by kernel_rfl) (by kernel_rfl) (fun _ _ _ h => h) (by rfl) (by assumption) ?_
        try simp only [List.setIfInBounds_toArray, List.set_cons_zero, List.set_cons_succ]
        refine takeNo (i := 20) (d := 37) rfl rfl (by kernel_rfl) (by kernel_rfl) (by kernel_rfl) (fun _ _ _ h => h) (by rfl) (by assumption) ?_
        try simp only [List.setIfInBounds_toArray, List.set_cons_zero, List.set_cons_succ]
        refine takeNo (i := 21) (d := 38) rfl rfl (by kernel_rfl) (by kernel_rfl) (by kernel_rfl) (fun _ _ _ h => h) (by rfl) (by assumption) ?_
        try simp only [List.setIfInBounds_toArray, List.set_cons_zero, List.set_cons_succ]
        refine takeNo (i := 22) (d := 39) rfl rfl (by kernel_rfl) (by kernel_rfl) (by kernel_rfl) (fun _ _ _ h => h) (by rfl) (by assumption) ?_
        try simp only [List.setIfInBounds_toArray, List.set_cons_zero, List.set_cons_succ]
        refine takeNo (i := 23) (d := 40) rfl rfl (by kernel_rfl) (by kernel_rfl) (by kernel_rfl) (fun _ _ _ h => h) (by rfl) (by assumption) ?_
        try simp only [List.setIfInBounds_toArray, List.set_cons_zero, List.set_cons_succ]
        refine takeNo (i := 24) (d := 41) rfl rfl (by kernel_rfl) (by kernel_rfl) (by kernel_rfl) (fun _ _ _ h => h) (by rfl) (by assumption) ?_
        try simp only [List.setIfInBounds_toArray, List.set_cons_zero, List.set_cons_succ]
        refine takeNo (i := 25) (d := 42) rfl rfl (by kernel_rfl) (by kernel_rfl) (by kernel_rfl) (fun _ _ _ h => h) (by rfl) (by assumption) ?_
        try simp only [List.setIfInBounds_toArray, List.set_cons_zero, List.set_cons_succ]
        refine takeNo (i := 26) (d := 43) rfl rfl (by kernel_rfl) (by kernel_rfl) (by kernel_rfl) (fun _ _ _ h => h) (by rfl) (by assumption) ?_
        try simp only [List.setIfInBounds_toArray, List.set_cons_zero, List.set_cons_succ]
        refine takeNo (i := 27) (d := 44) rfl rfl (by kernel_rfl) (by kernel_rfl) (by kernel_rfl) (fun _ _ _ h => h) (by rfl) (by assumption) ?_
        try simp only [List.setIfInBounds_toArray, List.set_cons_zero, List.set_cons_succ]
        refine takeNo (i := 28) (d := 45) rfl rfl (by kernel_rfl) (by kernel_rfl) (by kernel_rfl) (fun _ _ _ h => h) (by rfl) (by assumption) ?_
        try simp only [List.setIfInBounds_toArray, List.set_cons_zero, List.set_cons_succ]
        refine takeNo (i := 29) (d := 46) rfl rfl (by kernel_rfl) (by kernel_rfl) (by kernel_rfl) (fun _ _ _ h => h) (by rfl) (by assumption) ?_
        try simp only [List.setIfInBounds_toArray, List.set_cons_zero, List.set_cons_succ]
        refine wpAnyH_ready (rs := [30]) (by kernel_rfl) (by simp) ?_
        refine AllReadyH.cons rfl (fun K hK => ?_) AllReadyH.nil
        go_simp
        refine hK.out _ _ ?_ (fun hHeld30 => ?_)
        · (try dsimp only); refine ⟨?_, ?_, ?_, ?_⟩ <;> first | (go_simp; done) | (exact cell_later (by assumption) (by go_simp))
        clear hK
        refine takeNo (i := 31) (d := 48) rfl rfl (by kernel_rfl) (by kernel_rfl) (by kernel_rfl) (fun _ _ _ h => h) (by rfl) (by assumption) ?_
        try simp only [List.setIfInBounds_toArray, List.set_cons_zero, List.set_cons_succ]
        refine takeNo (i := 32) (d := 49) rfl rfl (by kernel_rfl) (by kernel_rfl) (by kernel_rfl) (fun _ _ _ h => h) (by rfl) (by assumption) ?_
        try simp only [List.setIfInBounds_toArray, List.set_cons_zero, List.set_cons_succ]
        refine takeYes (i := 33) (d := 50) (v := ?_) rfl rfl (by kernel_rfl) (by kernel_rfl) (by kernel_rfl) (fun _ _ _ h => h) (by rfl) (by assumption) ?_ ?_
        rotate_left
        · intro w' hSw; (try dsimp only at hSw); go_simp; try exact rfl
        try simp only [List.setIfInBounds_toArray, List.set_cons_zero, List.set_cons_succ]
        refine wpAnyH_done (by kernel_rfl) ?_ _
        go_wp2
        go_returns
        refine ⟨ret_bool ?_, by repeat (first | exact Below.refl _ _ | refine Below.drew ?_ | refine Below.alloc ?_ (by first | (simp; done) | (simp; omega) | omega) _ | refine Below.setCell ?_ (by first | (simp; done) | (simp; omega) | omega) _ | refine bstep (by assumption) (by first | (simp; done) | (simp; omega) | omega) ?_)⟩
        unfold okBag
        rw [HE.out, HS.out, HN.out]
        simp
      have hn1 : (x.n == 0) = false := by simpa using hn0
      by_cases hcn : (decide (-1000000000 ≤ x.n) && decide (x.n ≤ 1000000000)) = true
      rotate_left
      · have HN : Hid (okN x.n = false) := okN_out hcn
        have hcf : (decide (-1000000000 ≤ x.n) && decide (x.n ≤ 1000000000)) = false := by simpa using hcn
        subst hq
        clear ha hw hL hx hn0 hcn
        go_wp2_with fail
        refine wp_region_held_drew (S := (fun w' => w'.cell? ⟨w.heap.size, 0, none⟩ = some (.int .i64 W) ∧ w'.cell? ⟨w.heap.size, 1, none⟩ = some (.slice (some ⟨b, o, none⟩) cs.length c) ∧ w'.cell? ⟨wr.heap.size, 0, none⟩ = some (.slice ur lr cr) ∧ w'.cell? ⟨wr.heap.size, 1, none⟩ = some (.int .i64 x.n))) (by kernel_rfl) ?_ (fun hHeld => ?_)
        · (try dsimp only); refine ⟨?_, ?_, ?_, ?_⟩ <;> first | (go_simp; done) | (exact cell_later (by assumption) (by go_simp))
        refine takeYes (i := 0) (d := 17) (v := ?_) rfl rfl (by kernel_rfl) (by kernel_rfl) (by kernel_rfl) (fun _ _ _ h => h) (by rfl) (by assumption) ?_ ?_
        rotate_left
        · intro w' hSw; (try dsimp only at hSw); go_simp; try exact rfl
        try simp only [List.setIfInBounds_toArray, List.set_cons_zero, List.set_cons_succ]
        refine takeYes (i := 1) (d := 18) (v := ?_) rfl rfl (by kernel_rfl) (by kernel_rfl) (by kernel_rfl) (fun _ _ _ h => h) (by rfl) (by assumption) ?_ ?_
        rotate_left
        · intro w' hSw; (try dsimp only at hSw); go_simp; try exact rfl
        try simp only [List.setIfInBounds_toArray, List.set_cons_zero, List.set_cons_succ]
        refine takeYes (i := 2) (d := 19) (v := ?_) rfl rfl (by kernel_rfl) (by kernel_rfl) (by kernel_rfl) (fun _ _ _ h => h) (by rfl) (by assumption) ?_ ?_
        rotate_left
        · intro w' hSw; (try dsimp only at hSw); go_simp; try exact rfl
        try simp only [List.setIfInBounds_toArray, List.set_cons_zero, List.set_cons_succ]
        refine takeYes (i := 3) (d := 20) (v := ?_) rfl rfl (by kernel_rfl) (by kernel_rfl) (by kernel_rfl) (fun _ _ _ h => h) (by rfl) (by assumption) ?_ ?_
        rotate_left
        · intro w' hSw; (try dsimp only at hSw); go_simp; try exact rfl
        try simp only [List.setIfInBounds_toArray, List.set_cons_zero, List.set_cons_succ]
        refine wpAnyH_ready (rs := [4]) (by kernel_rfl) (by simp) ?_
        refine AllReadyH.cons rfl (fun K hK => ?_) AllReadyH.nil
        go_simp
        go_at_call 68
        refine Calls.mono (l02Row_any (.slice ur lr cr) x.r W _ (hR.below (by repeat (first | exact Below.refl _ _ | refine Below.drew ?_ | refine Below.alloc ?_ (by first | (simp; done) | (simp; omega) | omega) _ | refine Below.setCell ?_ (by first | (simp; done) | (simp; omega) | omega) _ | refine bstep (by assumption) (by first | (simp; done) | (simp; omega) | omega) ?_))) hxw) ?_
        rintro e w1 ⟨rfl, hb1⟩
        have hz1 := hb1.size
        (try simp at hz1)
        try go_wp2_with fail
        refine hK.out _ _ ?_ (fun hHeld4 => ?_)
        · (try dsimp only); refine ⟨?_, ?_, ?_, ?_⟩ <;> first | (go_simp; done) | (exact cell_later (by assumption) (by go_simp))
        clear hK
        refine takeYes (i := 5) (d := 22) (v := ?_) rfl rfl (by kernel_rfl) (by kernel_rfl) (by kernel_rfl) (fun _ _ _ h => h) (by rfl) (by assumption) ?_ ?_
        rotate_left
        · intro w' hSw; (try dsimp only at hSw); go_simp; try exact rfl
        try simp only [List.setIfInBounds_toArray, List.set_cons_zero, List.set_cons_succ]
        refine takeYes (i := 6) (d := 23) (v := ?_) rfl rfl (by kernel_rfl) (by kernel_rfl) (by kernel_rfl) (fun _ _ _ h => h) (by rfl) (by assumption) ?_ ?_
        rotate_left
        · intro w' hSw; (try dsimp only at hSw); go_simp; try exact rfl
        try simp only [List.setIfInBounds_toArray, List.set_cons_zero, List.set_cons_succ]
        refine takeYes (i := 7) (d := 24) (v := ?_) rfl rfl (by kernel_rfl) (by kernel_rfl) (by kernel_rfl) (fun _ _ _ h => h) (by rfl) (by assumption) ?_ ?_
        rotate_left
        · intro w' hSw; (try dsimp only at hSw); go_simp; try exact rfl
        try simp only [List.setIfInBounds_toArray, List.set_cons_zero, List.set_cons_succ]
        refine takeYes (i := 8) (d := 25) (v := ?_) rfl rfl (by kernel_rfl) (by kernel_rfl) (by kernel_rfl) (fun _ _ _ h => h) (by rfl) (by assumption) ?_ ?_
        rotate_left
        · intro w' hSw; (try dsimp only at hSw); go_simp; try exact rfl
        try simp only [List.setIfInBounds_toArray, List.set_cons_zero, List.set_cons_succ]
        refine takeYes (i := 9) (d := 26) (v := ?_) rfl rfl (by kernel_rfl) (by kernel_rfl) (by kernel_rfl) (fun _ _ _ h => h) (by rfl) (by assumption) ?_ ?_
        rotate_left
        · intro w' hSw; (try dsimp only at hSw); go_simp; try exact rfl
        try simp only [List.setIfInBounds_toArray, List.set_cons_zero, List.set_cons_succ]
        refine takeYes (i := 10) (d := 27) (v := ?_) rfl rfl (by kernel_rfl) (by kernel_rfl) (by kernel_rfl) (fun _ _ _ h => h) (by rfl) (by assumption) ?_ ?_
        rotate_left
        · intro w' hSw; (try dsimp only at hSw); go_simp; try exact rfl
        try simp only [List.setIfInBounds_toArray, List.set_cons_zero, List.set_cons_succ]
        refine takeYes (i := 11) (d := 28) (v := ?_) rfl rfl (by kernel_rfl) (by kernel_rfl) (by kernel_rfl) (fun _ _ _ h => h) (by rfl) (by assumption) ?_ ?_
        rotate_left
        · intro w' hSw; (try dsimp only at hSw); go_simp; try exact rfl
        try simp only [List.setIfInBounds_toArray, List.set_cons_zero, List.set_cons_succ]
        refine takeYes (i := 12) (d := 29) (v := ?_) rfl rfl (by kernel_rfl) (by kernel_rfl) (by kernel_rfl) (fun _ _ _ h => h) (by rfl) (by assumption) ?_ ?_
        rotate_left
        · intro w' hSw; (try dsimp only at hSw); go_simp; try exact rfl
        try simp only [List.setIfInBounds_toArray, List.set_cons_zero, List.set_cons_succ]
        refine takeYes (i := 13) (d := 30) (v := ?_) rfl rfl (by kernel_rfl) (by kernel_rfl) (by kernel_rfl) (fun _ _ _ h => h) (by rfl) (by assumption) ?_ ?_
        rotate_left
        · intro w' hSw; (try dsimp only at hSw); go_simp; try exact rfl
        try simp only [List.setIfInBounds_toArray, List.set_cons_zero, List.set_cons_succ]
        refine wpAnyH_ready (rs := [14]) (by kernel_rfl) (by simp) ?_
        refine AllReadyH.cons rfl (fun K hK => ?_) AllReadyH.nil
        go_simp
        go_at_call 29
        refine Calls.mono (l01In_any x.n (-1000000000) 1000000000 _) ?_
        rintro e w2 ⟨rfl, hb2⟩
        have hz2 := hb2.size
        (try simp at hz2)
        try go_wp2_with fail
        refine hK.out _ _ ?_ (fun hHeld14 => ?_)
        · (try dsimp only); refine ⟨?_, ?_, ?_, ?_⟩ <;> first | (go_simp; done) | (exact cell_later (by assumption) (by go_simp))
        clear hK
        refine takeYes (i := 15) (d := 32) (v := ?_) rfl rfl (by kernel_rfl) (by kernel_rfl) (by kernel_rfl) (fun _ _ _ h => h) (by rfl) (by assumption) ?_ ?_
        rotate_left
        · intro w' hSw; (try dsimp only at hSw); go_simp; try exact rfl
        try simp only [List.setIfInBounds_toArray, List.set_cons_zero, List.set_cons_succ]
        refine takeYes (i := 16) (d := 33) (v := ?_) rfl rfl (by kernel_rfl) (by kernel_rfl) (by kernel_rfl) (fun _ _ _ h => h) (by rfl) (by assumption) ?_ ?_
        rotate_left
        · intro w' hSw; (try dsimp only at hSw); go_simp; try exact rfl
        try simp only [List.setIfInBounds_toArray, List.set_cons_zero, List.set_cons_succ]
        refine takeYes (i := 17) (d := 34) (v := ?_) rfl rfl (by kernel_rfl) (by kernel_rfl) (by kernel_rfl) (fun _ _ _ h => h) (by rfl) (by assumption) ?_ ?_
        rotate_left
        · intro w' hSw; (try dsimp only at hSw); go_simp; try exact rfl
        try simp only [List.setIfInBounds_toArray, List.set_cons_zero, List.set_cons_succ]
        refine takeNo (i := 18) (d := 35) rfl rfl (by kernel_rfl) (by kernel_rfl) (by kernel_rfl) (fun _ _ _ h => h) (by rfl) (by assumption) ?_
        try simp only [List.setIfInBounds_toArray, List.set_cons_zero, List.set_cons_succ]
        refine takeNo (i := 19) (d := 36) rfl rfl (by kernel_rfl) (by kernel_rfl) (by kernel_rfl) (fun _ _ _ h => h) (by rfl) (by assumption) ?_
        try simp only [List.setIfInBounds_toArray, List.set_cons_zero, List.set_cons_succ]
        refine takeNo (i := 20) (d := 37) rfl rfl (by kernel_rfl) (by kernel_rfl) (by kernel_rfl) (fun _ _ _ h => h) (by rfl) (by assumption) ?_
        try simp only [List.setIfInBounds_toArray, List.set_cons_zero, List.set_cons_succ]
        refine takeNo (i := 21) (d := 38) rfl rfl (by kernel_rfl) (by kernel_rfl) (by kernel_rfl) (fun _ _ _ h => h) (by rfl) (by assumption) ?_
        try simp only [List.setIfInBounds_toArray, List.set_cons_zero, List.set_cons_succ]
        refine takeNo (i := 22) (d := 39) rfl rfl (by kernel_rfl) (by kernel_rfl) (by kernel_rfl) (fun _ _ _ h => h) (by rfl) (by assumption) ?_
        try simp only [List.setIfInBounds_toArray, List.set_cons_zero, List.set_cons_succ]
        refine takeNo (i := 23) (d := 40) rfl rfl (by kernel_rfl) (by kernel_rfl) (by kernel_rfl) (fun _ _ _ h => h) (by rfl) (by assumption) ?_
        try simp only [List.setIfInBounds_toArray, List.set_cons_zero, List.set_cons_succ]
        refine takeNo (i := 24) (d := 41) rfl rfl (by kernel_rfl) (by kernel_rfl) (by kernel_rfl) (fun _ _ _ h => h) (by rfl) (by assumption) ?_
        try simp only [List.setIfInBounds_toArray, List.set_cons_zero, List.set_cons_succ]
        refine takeNo (i := 25) (d := 42) rfl rfl (by kernel_rfl) (by kernel_rfl) (by kernel_rfl) (fun _ _ _ h => h) (by rfl) (by assumption) ?_
        try simp only [List.setIfInBounds_toArray, List.set_cons_zero, List.set_cons_succ]
        refine takeNo (i := 26) (d := 43) rfl rfl (by kernel_rfl) (by kernel_rfl) (by kernel_rfl) (fun _ _ _ h => h) (by rfl) (by assumption) ?_
        try simp only [List.setIfInBounds_toArray, List.set_cons_zero, List.set_cons_succ]
        refine takeNo (i := 27) (d := 44) rfl rfl (by kernel_rfl) (by kernel_rfl) (by kernel_rfl) (fun _ _ _ h => h) (by rfl) (by assumption) ?_
        try simp only [List.setIfInBounds_toArray, List.set_cons_zero, List.set_cons_succ]
        refine takeNo (i := 28) (d := 45) rfl rfl (by kernel_rfl) (by kernel_rfl) (by kernel_rfl) (fun _ _ _ h => h) (by rfl) (by assumption) ?_
        try simp only [List.setIfInBounds_toArray, List.set_cons_zero, List.set_cons_succ]
        refine takeNo (i := 29) (d := 46) rfl rfl (by kernel_rfl) (by kernel_rfl) (by kernel_rfl) (fun _ _ _ h => h) (by rfl) (by assumption) ?_
        try simp only [List.setIfInBounds_toArray, List.set_cons_zero, List.set_cons_succ]
        refine wpAnyH_ready (rs := [30]) (by kernel_rfl) (by simp) ?_
        refine AllReadyH.cons rfl (fun K hK => ?_) AllReadyH.nil
        go_simp
        refine hK.out _ _ ?_ (fun hHeld30 => ?_)
        · (try dsimp only); refine ⟨?_, ?_, ?_, ?_⟩ <;> first | (go_simp; done) | (exact cell_later (by assumption) (by go_simp))
        clear hK
        refine takeNo (i := 31) (d := 48) rfl rfl (by kernel_rfl) (by kernel_rfl) (by kernel_rfl) (fun _ _ _ h => h) (by rfl) (by assumption) ?_
        try simp only [List.setIfInBounds_toArray, List.set_cons_zero, List.set_cons_succ]
        refine takeNo (i := 32) (d := 49) rfl rfl (by kernel_rfl) (by kernel_rfl) (by kernel_rfl) (fun _ _ _ h => h) (by rfl) (by assumption) ?_
        try simp only [List.setIfInBounds_toArray, List.set_cons_zero, List.set_cons_succ]
        refine takeYes (i := 33) (d := 50) (v := ?_) rfl rfl (by kernel_rfl) (by kernel_rfl) (by kernel_rfl) (fun _ _ _ h => h) (by rfl) (by assumption) ?_ ?_
        rotate_left
        · intro w' hSw; (try dsimp only at hSw); go_simp; try exact rfl
        try simp only [List.setIfInBounds_toArray, List.set_cons_zero, List.set_cons_succ]
        refine wpAnyH_done (by kernel_rfl) ?_ _
        go_wp2
        go_returns
        refine ⟨ret_bool ?_, by repeat (first | exact Below.refl _ _ | refine Below.drew ?_ | refine Below.alloc ?_ (by first | (simp; done) | (simp; omega) | omega) _ | refine Below.setCell ?_ (by first | (simp; done) | (simp; omega) | omega) _ | refine bstep (by assumption) (by first | (simp; done) | (simp; omega) | omega) ?_)⟩
        unfold okBag
        rw [HE.out, HS.out, HN.out]
        simp
      have HN : Hid (okN x.n = true) := okN_in hn0 hcn
      clear hn0
      rcases Nat.eq_zero_or_pos k with hk0 | hk0
      · subst hk0
        obtain rfl : q = 0 := by simpa using hq
        rw [Nat.zero_mul, Nat.add_zero] at c0
        rw [Nat.zero_mul, Nat.add_zero] at c1
        clear ha hw hL hx hq
        go_wp2_with fail
        refine wp_region_held_drew (S := (fun w' => w'.cell? ⟨w.heap.size, 0, none⟩ = some (.int .i64 W) ∧ w'.cell? ⟨w.heap.size, 1, none⟩ = some (.slice (some ⟨b, o, none⟩) cs.length c) ∧ w'.cell? ⟨wr.heap.size, 0, none⟩ = some (.slice ur lr cr) ∧ w'.cell? ⟨wr.heap.size, 1, none⟩ = some (.int .i64 x.n))) (by kernel_rfl) ?_ (fun hHeld => ?_)
        · (try dsimp only); refine ⟨?_, ?_, ?_, ?_⟩ <;> first | (go_simp; done) | (exact cell_later (by assumption) (by go_simp))
        refine takeYes (i := 0) (d := 17) (v := ?_) rfl rfl (by kernel_rfl) (by kernel_rfl) (by kernel_rfl) (fun _ _ _ h => h) (by rfl) (by assumption) ?_ ?_
        rotate_left
        · intro w' hSw; (try dsimp only at hSw); go_simp; try exact rfl
        try simp only [List.setIfInBounds_toArray, List.set_cons_zero, List.set_cons_succ]
        refine takeYes (i := 1) (d := 18) (v := ?_) rfl rfl (by kernel_rfl) (by kernel_rfl) (by kernel_rfl) (fun _ _ _ h => h) (by rfl) (by assumption) ?_ ?_
        rotate_left
        · intro w' hSw; (try dsimp only at hSw); go_simp; try exact rfl
        try simp only [List.setIfInBounds_toArray, List.set_cons_zero, List.set_cons_succ]
        refine takeYes (i := 2) (d := 19) (v := ?_) rfl rfl (by kernel_rfl) (by kernel_rfl) (by kernel_rfl) (fun _ _ _ h => h) (by rfl) (by assumption) ?_ ?_
        rotate_left
        · intro w' hSw; (try dsimp only at hSw); go_simp; try exact rfl
        try simp only [List.setIfInBounds_toArray, List.set_cons_zero, List.set_cons_succ]
        refine takeYes (i := 3) (d := 20) (v := ?_) rfl rfl (by kernel_rfl) (by kernel_rfl) (by kernel_rfl) (fun _ _ _ h => h) (by rfl) (by assumption) ?_ ?_
        rotate_left
        · intro w' hSw; (try dsimp only at hSw); go_simp; try exact rfl
        try simp only [List.setIfInBounds_toArray, List.set_cons_zero, List.set_cons_succ]
        refine wpAnyH_ready (rs := [4]) (by kernel_rfl) (by simp) ?_
        refine AllReadyH.cons rfl (fun K hK => ?_) AllReadyH.nil
        go_simp
        go_at_call 68
        refine Calls.mono (l02Row_any (.slice ur lr cr) x.r W _ (hR.below (by repeat (first | exact Below.refl _ _ | refine Below.drew ?_ | refine Below.alloc ?_ (by first | (simp; done) | (simp; omega) | omega) _ | refine Below.setCell ?_ (by first | (simp; done) | (simp; omega) | omega) _ | refine bstep (by assumption) (by first | (simp; done) | (simp; omega) | omega) ?_))) hxw) ?_
        rintro e w1 ⟨rfl, hb1⟩
        have hz1 := hb1.size
        (try simp at hz1)
        try go_wp2_with fail
        refine hK.out _ _ ?_ (fun hHeld4 => ?_)
        · (try dsimp only); refine ⟨?_, ?_, ?_, ?_⟩ <;> first | (go_simp; done) | (exact cell_later (by assumption) (by go_simp))
        clear hK
        refine takeYes (i := 5) (d := 22) (v := ?_) rfl rfl (by kernel_rfl) (by kernel_rfl) (by kernel_rfl) (fun _ _ _ h => h) (by rfl) (by assumption) ?_ ?_
        rotate_left
        · intro w' hSw; (try dsimp only at hSw); go_simp; try exact rfl
        try simp only [List.setIfInBounds_toArray, List.set_cons_zero, List.set_cons_succ]
        refine takeYes (i := 6) (d := 23) (v := ?_) rfl rfl (by kernel_rfl) (by kernel_rfl) (by kernel_rfl) (fun _ _ _ h => h) (by rfl) (by assumption) ?_ ?_
        rotate_left
        · intro w' hSw; (try dsimp only at hSw); go_simp; try exact rfl
        try simp only [List.setIfInBounds_toArray, List.set_cons_zero, List.set_cons_succ]
        refine takeYes (i := 7) (d := 24) (v := ?_) rfl rfl (by kernel_rfl) (by kernel_rfl) (by kernel_rfl) (fun _ _ _ h => h) (by rfl) (by assumption) ?_ ?_
        rotate_left
        · intro w' hSw; (try dsimp only at hSw); go_simp; try exact rfl
        try simp only [List.setIfInBounds_toArray, List.set_cons_zero, List.set_cons_succ]
        refine takeYes (i := 8) (d := 25) (v := ?_) rfl rfl (by kernel_rfl) (by kernel_rfl) (by kernel_rfl) (fun _ _ _ h => h) (by rfl) (by assumption) ?_ ?_
        rotate_left
        · intro w' hSw; (try dsimp only at hSw); go_simp; try exact rfl
        try simp only [List.setIfInBounds_toArray, List.set_cons_zero, List.set_cons_succ]
        refine takeYes (i := 9) (d := 26) (v := ?_) rfl rfl (by kernel_rfl) (by kernel_rfl) (by kernel_rfl) (fun _ _ _ h => h) (by rfl) (by assumption) ?_ ?_
        rotate_left
        · intro w' hSw; (try dsimp only at hSw); go_simp; try exact rfl
        try simp only [List.setIfInBounds_toArray, List.set_cons_zero, List.set_cons_succ]
        refine takeYes (i := 10) (d := 27) (v := ?_) rfl rfl (by kernel_rfl) (by kernel_rfl) (by kernel_rfl) (fun _ _ _ h => h) (by rfl) (by assumption) ?_ ?_
        rotate_left
        · intro w' hSw; (try dsimp only at hSw); go_simp; try exact rfl
        try simp only [List.setIfInBounds_toArray, List.set_cons_zero, List.set_cons_succ]
        refine takeYes (i := 11) (d := 28) (v := ?_) rfl rfl (by kernel_rfl) (by kernel_rfl) (by kernel_rfl) (fun _ _ _ h => h) (by rfl) (by assumption) ?_ ?_
        rotate_left
        · intro w' hSw; (try dsimp only at hSw); go_simp; try exact rfl
        try simp only [List.setIfInBounds_toArray, List.set_cons_zero, List.set_cons_succ]
        refine takeYes (i := 12) (d := 29) (v := ?_) rfl rfl (by kernel_rfl) (by kernel_rfl) (by kernel_rfl) (fun _ _ _ h => h) (by rfl) (by assumption) ?_ ?_
        rotate_left
        · intro w' hSw; (try dsimp only at hSw); go_simp; try exact rfl
        try simp only [List.setIfInBounds_toArray, List.set_cons_zero, List.set_cons_succ]
        refine takeYes (i := 13) (d := 30) (v := ?_) rfl rfl (by kernel_rfl) (by kernel_rfl) (by kernel_rfl) (fun _ _ _ h => h) (by rfl) (by assumption) ?_ ?_
        rotate_left
        · intro w' hSw; (try dsimp only at hSw); go_simp; try exact rfl
        try simp only [List.setIfInBounds_toArray, List.set_cons_zero, List.set_cons_succ]
        refine wpAnyH_ready (rs := [14]) (by kernel_rfl) (by simp) ?_
        refine AllReadyH.cons rfl (fun K hK => ?_) AllReadyH.nil
        go_simp
        go_at_call 29
        refine Calls.mono (l01In_any x.n (-1000000000) 1000000000 _) ?_
        rintro e w2 ⟨rfl, hb2⟩
        have hz2 := hb2.size
        (try simp at hz2)
        try go_wp2_with fail
        refine hK.out _ _ ?_ (fun hHeld14 => ?_)
        · (try dsimp only); refine ⟨?_, ?_, ?_, ?_⟩ <;> first | (go_simp; done) | (exact cell_later (by assumption) (by go_simp))
        clear hK
        refine takeYes (i := 15) (d := 32) (v := ?_) rfl rfl (by kernel_rfl) (by kernel_rfl) (by kernel_rfl) (fun _ _ _ h => h) (by rfl) (by assumption) ?_ ?_
        rotate_left
        · intro w' hSw; (try dsimp only at hSw); go_simp; try exact rfl
        try simp only [List.setIfInBounds_toArray, List.set_cons_zero, List.set_cons_succ]
        refine takeYes (i := 16) (d := 33) (v := ?_) rfl rfl (by kernel_rfl) (by kernel_rfl) (by kernel_rfl) (fun _ _ _ h => h) (by rfl) (by assumption) ?_ ?_
        rotate_left
        · intro w' hSw; (try dsimp only at hSw); go_simp; try exact rfl
        try simp only [List.setIfInBounds_toArray, List.set_cons_zero, List.set_cons_succ]
        refine takeYes (i := 17) (d := 34) (v := ?_) rfl rfl (by kernel_rfl) (by kernel_rfl) (by kernel_rfl) (fun _ _ _ h => h) (by rfl) (by assumption) ?_ ?_
        rotate_left
        · intro w' hSw; (try dsimp only at hSw); go_simp; try exact rfl
        try simp only [List.setIfInBounds_toArray, List.set_cons_zero, List.set_cons_succ]
        refine takeYes (i := 18) (d := 35) (v := ?_) rfl rfl (by kernel_rfl) (by kernel_rfl) (by kernel_rfl) (fun _ _ _ h => h) (by rfl) (by assumption) ?_ ?_
        rotate_left
        · intro w' hSw; (try dsimp only at hSw); go_simp; try exact rfl
        try simp only [List.setIfInBounds_toArray, List.set_cons_zero, List.set_cons_succ]
        refine takeYes (i := 19) (d := 36) (v := ?_) rfl rfl (by kernel_rfl) (by kernel_rfl) (by kernel_rfl) (fun _ _ _ h => h) (by rfl) (by assumption) ?_ ?_
        rotate_left
        · intro w' hSw; (try dsimp only at hSw); go_simp; try exact rfl
        try simp only [List.setIfInBounds_toArray, List.set_cons_zero, List.set_cons_succ]
        refine takeYes (i := 20) (d := 37) (v := ?_) rfl rfl (by kernel_rfl) (by kernel_rfl) (by kernel_rfl) (fun _ _ _ h => h) (by rfl) (by assumption) ?_ ?_
        rotate_left
        · intro w' hSw; (try dsimp only at hSw); go_simp; try exact rfl
        try simp only [List.setIfInBounds_toArray, List.set_cons_zero, List.set_cons_succ]
        refine takeNo (i := 21) (d := 38) rfl rfl (by kernel_rfl) (by kernel_rfl) (by kernel_rfl) (fun _ _ _ h => h) (by rfl) (by assumption) ?_
        try simp only [List.setIfInBounds_toArray, List.set_cons_zero, List.set_cons_succ]
        refine takeNo (i := 22) (d := 39) rfl rfl (by kernel_rfl) (by kernel_rfl) (by kernel_rfl) (fun _ _ _ h => h) (by rfl) (by assumption) ?_
        try simp only [List.setIfInBounds_toArray, List.set_cons_zero, List.set_cons_succ]
        refine takeNo (i := 23) (d := 40) rfl rfl (by kernel_rfl) (by kernel_rfl) (by kernel_rfl) (fun _ _ _ h => h) (by rfl) (by assumption) ?_
        try simp only [List.setIfInBounds_toArray, List.set_cons_zero, List.set_cons_succ]
        refine takeNo (i := 24) (d := 41) rfl rfl (by kernel_rfl) (by kernel_rfl) (by kernel_rfl) (fun _ _ _ h => h) (by rfl) (by assumption) ?_
        try simp only [List.setIfInBounds_toArray, List.set_cons_zero, List.set_cons_succ]
        refine takeNo (i := 25) (d := 42) rfl rfl (by kernel_rfl) (by kernel_rfl) (by kernel_rfl) (fun _ _ _ h => h) (by rfl) (by assumption) ?_
        try simp only [List.setIfInBounds_toArray, List.set_cons_zero, List.set_cons_succ]
        refine takeNo (i := 26) (d := 43) rfl rfl (by kernel_rfl) (by kernel_rfl) (by kernel_rfl) (fun _ _ _ h => h) (by rfl) (by assumption) ?_
        try simp only [List.setIfInBounds_toArray, List.set_cons_zero, List.set_cons_succ]
        refine takeNo (i := 27) (d := 44) rfl rfl (by kernel_rfl) (by kernel_rfl) (by kernel_rfl) (fun _ _ _ h => h) (by rfl) (by assumption) ?_
        try simp only [List.setIfInBounds_toArray, List.set_cons_zero, List.set_cons_succ]
        refine takeNo (i := 28) (d := 45) rfl rfl (by kernel_rfl) (by kernel_rfl) (by kernel_rfl) (fun _ _ _ h => h) (by rfl) (by assumption) ?_
        try simp only [List.setIfInBounds_toArray, List.set_cons_zero, List.set_cons_succ]
        refine takeNo (i := 29) (d := 46) rfl rfl (by kernel_rfl) (by kernel_rfl) (by kernel_rfl) (fun _ _ _ h => h) (by rfl) (by assumption) ?_
        try simp only [List.setIfInBounds_toArray, List.set_cons_zero, List.set_cons_succ]
        refine wpAnyH_ready (rs := [30]) (by kernel_rfl) (by simp) ?_
        refine AllReadyH.cons rfl (fun K hK => ?_) AllReadyH.nil
        go_simp
        refine hK.out _ _ ?_ (fun hHeld30 => ?_)
        · (try dsimp only); refine ⟨?_, ?_, ?_, ?_⟩ <;> first | (go_simp; done) | (exact cell_later (by assumption) (by go_simp))
        clear hK
        refine takeNo (i := 31) (d := 48) rfl rfl (by kernel_rfl) (by kernel_rfl) (by kernel_rfl) (fun _ _ _ h => h) (by rfl) (by assumption) ?_
        try simp only [List.setIfInBounds_toArray, List.set_cons_zero, List.set_cons_succ]
        refine takeYes (i := 32) (d := 49) (v := ?_) rfl rfl (by kernel_rfl) (by kernel_rfl) (by kernel_rfl) (fun _ _ _ h => h) (by rfl) (by assumption) ?_ ?_
        rotate_left
        · intro w' hSw; (try dsimp only at hSw); go_simp; try exact rfl
        try simp only [List.setIfInBounds_toArray, List.set_cons_zero, List.set_cons_succ]
        refine takeYes (i := 33) (d := 50) (v := ?_) rfl rfl (by kernel_rfl) (by kernel_rfl) (by kernel_rfl) (fun _ _ _ h => h) (by rfl) (by assumption) ?_ ?_
        rotate_left
        · intro w' hSw; (try dsimp only at hSw); go_simp; try exact rfl
        try simp only [List.setIfInBounds_toArray, List.set_cons_zero, List.set_cons_succ]
        refine wpAnyH_done (by kernel_rfl) ?_ _
        obtain ⟨r0, r1, _⟩ := hHeld30
        go_wp2
        go_roundw
        case rel =>
          refine ⟨1, 1, hlt, rfl, by simp, by repeat (first | exact Below.refl _ _ | refine Below.drew ?_ | refine Below.alloc ?_ (by first | (simp; done) | (simp; omega) | omega) _ | refine Below.setCell ?_ (by first | (simp; done) | (simp; omega) | omega) _ | refine bstep (by assumption) (by first | (simp; done) | (simp; omega) | omega) ?_), by (first | omega | (simp; omega)), r0, r1, ?_⟩
          rw [HE.out, HS.out, hok, HN.out, prev_zero]
          simp [okPrev]
        case measure => simp [intOf]; omega
      · obtain ⟨j, rfl⟩ : ∃ j, k = j + 1 := ⟨k - 1, by omega⟩
        obtain rfl : q = (j : Int) + 1 := by omega
        obtain ⟨y, t, hy, d0, hT, d1, _⟩ := hL.at hblt hb (show j < cs.length by omega)
        have HP : Hid (prev cs (j + 1) = some y) := prev_succ hy
        have HQ : Hid (okPrev (prev cs (j + 1)) x = decide (cmpRow y.r x.r < 0)) := by rw [HP.out]; rfl
        have hw1 : IntKind.i64.wrap (j : Int) = j := by rw [IntKind.wrap_i64]; omega
        have hw2 : IntKind.i64.wrap ((j : Int) + 1 - 1) = j := by rw [IntKind.wrap_i64]; omega
        have hi0 : (0 : Int) ≤ j := by omega
        have hi1 : (j : Int) < cs.length := by omega
        have hi2 : (0 : Int) < (j : Int) + 1 := by omega
        clear ha hw hL hx hy hq
        go_wp2_with fail
        go_region_held3 (fun w' => w'.cell? ⟨w.heap.size, 0, none⟩ = some (.int .i64 W) ∧ w'.cell? ⟨w.heap.size, 1, none⟩ = some (.slice (some ⟨b, o, none⟩) cs.length c) ∧ w'.cell? ⟨wr.heap.size, 0, none⟩ = some (.slice ur lr cr) ∧ w'.cell? ⟨wr.heap.size, 1, none⟩ = some (.int .i64 x.n) ∧ w'.cell? ⟨b, o + j * 2, none⟩ = some t) (refine ⟨?_, ?_, ?_, ?_, ?_⟩ <;> first | (go_simp; done) | (exact cell_later (by assumption) (by go_simp))) (first | (go_at_call 68; refine Calls.mono (l02Row_any (.slice ur lr cr) x.r W _ (hR.below (by repeat (first | exact Below.refl _ _ | refine Below.drew ?_ | refine Below.alloc ?_ (by first | (simp; done) | (simp; omega) | omega) _ | refine Below.setCell ?_ (by first | (simp; done) | (simp; omega) | omega) _ | refine bstep (by assumption) (by first | (simp; done) | (simp; omega) | omega) ?_))) hxw) ?_; rintro e w1 ⟨rfl, hb1⟩; have hz1 := hb1.size; (try simp at hz1)) | (go_at_call 29; refine Calls.mono (l01In_any x.n (-1000000000) 1000000000 _) ?_; rintro e w2 ⟨rfl, hb2⟩; have hz2 := hb2.size; (try simp at hz2)) | (go_at_call 69; refine Calls.mono (specRow_any t (.slice ur lr cr) y.r x.r _ (hT.below (by repeat (first | exact Below.refl _ _ | refine Below.drew ?_ | refine Below.alloc ?_ (by first | (simp; done) | (simp; omega) | omega) _ | refine Below.setCell ?_ (by first | (simp; done) | (simp; omega) | omega) _ | refine bstep (by assumption) (by first | (simp; done) | (simp; omega) | omega) ?_))) (hR.below (by repeat (first | exact Below.refl _ _ | refine Below.drew ?_ | refine Below.alloc ?_ (by first | (simp; done) | (simp; omega) | omega) _ | refine Below.setCell ?_ (by first | (simp; done) | (simp; omega) | omega) _ | refine bstep (by assumption) (by first | (simp; done) | (simp; omega) | omega) ?_)))) ?_; rintro e w3 ⟨rfl, hb3⟩; have hz3 := hb3.size; (try simp at hz3)))
        rename_i hHeld
        obtain ⟨r0, r1, _⟩ := hHeld
        by_cases hcmp : 0 ≤ cmpRow y.r x.r
        · go_wp2
          go_returns
          refine ⟨ret_bool ?_, by repeat (first | exact Below.refl _ _ | refine Below.drew ?_ | refine Below.alloc ?_ (by first | (simp; done) | (simp; omega) | omega) _ | refine Below.setCell ?_ (by first | (simp; done) | (simp; omega) | omega) _ | refine bstep (by assumption) (by first | (simp; done) | (simp; omega) | omega) ?_)⟩
          unfold okBag
          rw [HE.out, HS.out, HQ.out]
          simp [show ¬ cmpRow y.r x.r < 0 from by omega]
        · go_wp2
          go_roundw
          case rel =>
            refine ⟨j + 1 + 1, (j : Int) + 1 + 1, hlt, by omega, by simp, by repeat (first | exact Below.refl _ _ | refine Below.drew ?_ | refine Below.alloc ?_ (by first | (simp; done) | (simp; omega) | omega) _ | refine Below.setCell ?_ (by first | (simp; done) | (simp; omega) | omega) _ | refine bstep (by assumption) (by first | (simp; done) | (simp; omega) | omega) ?_), by (first | omega | (simp; omega)), r0, r1, ?_⟩
            rw [HE.out, HS.out, HQ.out, hok, HN.out]
            simp [show cmpRow y.r x.r < 0 from by omega]
          case measure => simp [intOf]; omega
    · have HN : Hid (okCs W none cs = true) := by rw [HE.out, List.drop_eq_nil_of_le (by omega)]; exact rfl
      clear ha hw
      by_cases h0 : (decide (0 ≤ W) && decide (W ≤ 12)) = true
      · go_wp2_with (first | (go_at_call 29; refine Calls.mono (l01In_any W 0 12 _) ?_; rintro e w1 ⟨rfl, hb1⟩; have hz1 := hb1.size; have r1 : w1.cell? ⟨w.heap.size, 1, none⟩ = some (.slice a cs.length c) := cell_later hb1 (by go_simp)) | fail)
        all_goals go_returns
        all_goals refine ⟨ret_bool ?_, by repeat (first | exact Below.refl _ _ | refine Below.drew ?_ | refine Below.alloc ?_ (by first | (simp; done) | (simp; omega) | omega) _ | refine Below.setCell ?_ (by first | (simp; done) | (simp; omega) | omega) _ | refine bstep (by assumption) (by first | (simp; done) | (simp; omega) | omega) ?_)⟩
        all_goals (unfold okBag; rw [HN.out, h0, Bool.and_true, Bool.true_and])
        all_goals first | rfl | (simp; try omega)
      · go_wp2_with (first | (go_at_call 29; refine Calls.mono (l01In_any W 0 12 _) ?_; rintro e w1 ⟨rfl, hb1⟩; have hz1 := hb1.size; have r1 : w1.cell? ⟨w.heap.size, 1, none⟩ = some (.slice a cs.length c) := cell_later hb1 (by go_simp)) | fail)
        all_goals go_returns
        all_goals refine ⟨ret_bool ?_, by repeat (first | exact Below.refl _ _ | refine Below.drew ?_ | refine Below.alloc ?_ (by first | (simp; done) | (simp; omega) | omega) _ | refine Below.setCell ?_ (by first | (simp; done) | (simp; omega) | omega) _ | refine bstep (by assumption) (by first | (simp; done) | (simp; omega) | omega) ?_)⟩
        all_goals (unfold okBag; rw [show (decide (0 ≤ W) && decide (W ≤ 12)) = false from by simpa using h0, Bool.false_and, Bool.false_and])
        all_goals first | rfl | (simp_all; try omega)
end Go.Proofs.YtaeibfipcenhaaaGreatDoor
namespace Go.Proofs.YtaeibfipcenhaaaGreatDoor
open Go.RowKit
set_option linter.unusedVariables false
def noLess (cs : List C2) : Bool := cs.all fun x => decide (0 ≤ x.n)
def okPlain (W : Int) (cs : List C2) : Bool := noLess cs && okBag W cs
theorem noLess_step {cs : List C2} {k : Nat} {x : C2} (h : cs[k]? = some x) : noLess (cs.drop k) = (decide (0 ≤ x.n) && noLess (cs.drop (k + 1))) := by
  obtain ⟨hk, rfl⟩ := List.getElem?_eq_some_iff.1 h
  rw [List.drop_eq_getElem_cons hk]
  rfl
set_option maxHeartbeats 4000000 in
set_option maxRecDepth 100000 in
theorem specPlain_any (W : Int) (v : Value) (cs : List C2) (w : World) (hw : CsWf cs) (hr : RowsIs w v cs) :
    Calls Tryz.prog 31 #[.agg #[.int .i64 W, v]] w fun e w' => e = .returned (.bool (okPlain W cs)) ∧ Below w.heap.size w w' := by
  obtain ⟨a, c, b, o, rfl, hl, hc, ha⟩ := hr.pick
  unfold maxLen at hc
  go_enter Tryz.func31, Tryz.ntmps31
  go_wp2
  go_loop [3] (fun i => ∃ k : Nat, k ≤ cs.length ∧ i = .int .i64 k ∧ noLess cs = noLess (cs.drop k)) (fun i => cs.length - (intOf i).toNat)
  case atStart => exact ⟨0, Nat.zero_le _, rfl, by simp⟩
  case round =>
    obtain ⟨k, hk, rfl, heq⟩ := hrel
    have HE : Hid (noLess cs = noLess (cs.drop k)) := heq
    clear heq
    by_cases hlt : k < cs.length
    · obtain ⟨rfl, hblt, hL⟩ := ha k hlt
      obtain ⟨x, u, hx, c0, hR, c1, hbr⟩ := hL.at hblt (Below.refl _ _) hlt
      have HS : Hid (noLess (cs.drop k) = (decide (0 ≤ x.n) && noLess (cs.drop (k + 1)))) := noLess_step hx
      clear ha hL hx hR hr hw
      by_cases hn : x.n < 0
      · go_wp2
        go_returns
        refine ⟨ret_bool ?_, by go_grown⟩
        unfold okPlain
        rw [HE.out, HS.out, show decide (0 ≤ x.n) = false from by simp; omega, Bool.false_and, Bool.false_and]
      · go_wp2
        go_roundw
        case rel =>
          refine ⟨k + 1, hlt, by simp, ?_⟩
          rw [HE.out, HS.out, show decide (0 ≤ x.n) = true from by simp; omega, Bool.true_and]
        case measure => simp [intOf]; omega
    · have HN : Hid (noLess cs = true) := by rw [HE.out, List.drop_eq_nil_of_le (by omega)]; exact rfl
      clear ha
      go_wp2_with fail
      refine Calls.mono (specBagOk_any W (.slice a cs.length c) cs _ hw (hr.below ?hb)) ?_
      case hb => repeat (first | exact Below.refl _ _ | refine Below.drew ?_ | refine Below.alloc ?_ (by first | (simp; done) | (simp; omega) | omega) _ | refine Below.setCell ?_ (by first | (simp; done) | (simp; omega) | omega) _ | refine bstep (by assumption) (by first | (simp; done) | (simp; omega) | omega) ?_)
      rintro e w1 ⟨rfl, hb1⟩
      have hz1 := hb1.size
      simp only [World.size_alloc] at hz1
      go_wp2
      go_returns
      refine ⟨ret_bool ?_, by repeat (first | exact Below.refl _ _ | refine Below.drew ?_ | refine Below.alloc ?_ (by first | (simp; done) | (simp; omega) | omega) _ | refine Below.setCell ?_ (by first | (simp; done) | (simp; omega) | omega) _ | refine bstep (by assumption) (by first | (simp; done) | (simp; omega) | omega) ?_)⟩
      unfold okPlain
      rw [HN.out, Bool.true_and]
set_option maxHeartbeats 4000000 in
set_option maxRecDepth 100000 in
theorem implPlain_any (W : Int) (v : Value) (cs : List C2) (w : World) (hw : CsWf cs) (hr : RowsIs w v cs) :
    Calls Tryz.prog 34 #[.agg #[.int .i64 W, v]] w fun e w' => e = .returned (.bool (okPlain W cs)) ∧ Below w.heap.size w w' := by
  obtain ⟨a, c, b, o, rfl, hl, hc, ha⟩ := hr.pick
  unfold maxLen at hc
  go_enter Tryz.func34, Tryz.ntmps34
  go_wp2
  go_loopw [8] (fun i wr => ∃ k : Nat, k ≤ cs.length ∧ i = .int .i64 k ∧ noLess cs = noLess (cs.drop k) ∧ Below w.heap.size w wr ∧ w.heap.size < wr.heap.size ∧ wr.cell? ⟨w.heap.size, 0, none⟩ = some (.int .i64 W) ∧ wr.cell? ⟨w.heap.size, 1, none⟩ = some (.slice a cs.length c)) (fun i _ => cs.length - (intOf i).toNat)
  case atStart => exact ⟨0, Nat.zero_le _, rfl, by simp, by go_grown, by simp, by go_simp, by go_simp⟩
  case round =>
    obtain ⟨k, hk, rfl, heq, hb, hsz, p0, p1⟩ := hrel
    have HE : Hid (noLess cs = noLess (cs.drop k)) := heq
    have hzb := hb.size
    clear heq
    by_cases hlt : k < cs.length
    · obtain ⟨rfl, hblt, hL⟩ := ha k hlt
      obtain ⟨x, u, hx, c0, hR, c1, hbr⟩ := hL.at hblt hb hlt
      obtain ⟨ur, lr, cr, rfl⟩ := hR.shape
      have HS : Hid (noLess (cs.drop k) = (decide (0 ≤ x.n) && noLess (cs.drop (k + 1)))) := noLess_step hx
      clear ha hL hx hR hr hw
      by_cases hn : x.n < 0
      · go_wp2
        go_returns
        refine ⟨ret_bool ?_, by repeat (first | exact Below.refl _ _ | refine Below.drew ?_ | refine Below.alloc ?_ (by first | (simp; done) | (simp; omega) | omega) _ | refine Below.setCell ?_ (by first | (simp; done) | (simp; omega) | omega) _ | refine bstep (by assumption) (by first | (simp; done) | (simp; omega) | omega) ?_)⟩
        unfold okPlain
        rw [HE.out, HS.out, show decide (0 ≤ x.n) = false from by simp; omega, Bool.false_and, Bool.false_and]
      · go_wp2
        go_roundw
        case rel =>
          refine ⟨k + 1, hlt, by simp, ?_, by repeat (first | exact Below.refl _ _ | refine Below.drew ?_ | refine Below.alloc ?_ (by first | (simp; done) | (simp; omega) | omega) _ | refine Below.setCell ?_ (by first | (simp; done) | (simp; omega) | omega) _ | refine bstep (by assumption) (by first | (simp; done) | (simp; omega) | omega) ?_), by (first | omega | (simp; omega)), by go_simp, by go_simp⟩
          rw [HE.out, HS.out, show decide (0 ≤ x.n) = true from by simp; omega, Bool.true_and]
        case measure => simp [intOf]; omega
    · have HN : Hid (noLess cs = true) := by rw [HE.out, List.drop_eq_nil_of_le (by omega)]; exact rfl
      clear ha
      go_wp2_with fail
      refine Calls.mono (implBagOk_any W (.slice a cs.length c) cs _ hw (hr.below ?hb)) ?_
      case hb => repeat (first | exact Below.refl _ _ | refine Below.drew ?_ | refine Below.alloc ?_ (by first | (simp; done) | (simp; omega) | omega) _ | refine Below.setCell ?_ (by first | (simp; done) | (simp; omega) | omega) _ | refine bstep (by assumption) (by first | (simp; done) | (simp; omega) | omega) ?_)
      rintro e w1 ⟨rfl, hb1⟩
      have hz1 := hb1.size
      go_wp2
      go_returns
      refine ⟨ret_bool ?_, by repeat (first | exact Below.refl _ _ | refine Below.drew ?_ | refine Below.alloc ?_ (by first | (simp; done) | (simp; omega) | omega) _ | refine Below.setCell ?_ (by first | (simp; done) | (simp; omega) | omega) _ | refine bstep (by assumption) (by first | (simp; done) | (simp; omega) | omega) ?_)⟩
      unfold okPlain
      rw [HN.out, Bool.true_and]
end Go.Proofs.YtaeibfipcenhaaaGreatDoor
namespace Go.Proofs.YtaeibfipcenhaaaGreatDoor
open Go.RowKit Go.Deep Go.ChangeShapes Go.WideShapes
set_option linter.unusedVariables false
theorem Tryz.infoPtE : (Tryz.prog.info? 169).map (fun i => (i.zero, i.size, i.bytes)) = some (some (.pointer none), 1, 8) := by kernel_rfl
/-- the pointers to nodes. -/
def pts (ns : List Nd) : List Value := ns.map fun x => .pointer (some ⟨x.b, x.o, none⟩)
theorem pts_len (ns : List Nd) : (pts ns).length = ns.length := by simp [pts]
theorem pts_push (ns : List Nd) (x : Nd) : pts (ns ++ [x]) = pts ns ++ [.pointer (some ⟨x.b, x.o, none⟩)] := by simp [pts]
theorem pts_read {w : World} {N n : Nat} {v : Value} {ns : List Nd} {t : TypeId} (h : w.ownsRow N t 1 v n (pts ns)) {i : Nat} {x : Nd} (hx : ns[i]? = some x) :
    ∃ g cap, v = .slice (some ⟨g, 0, none⟩) n cap ∧ n = ns.length ∧ i < n ∧ n ≤ cap ∧ cap ≤ maxLen ∧ g < w.heap.size ∧ N ≤ g ∧ w.cell? ⟨g, i, none⟩ = some (.pointer (some ⟨x.b, x.o, none⟩)) := by
  obtain ⟨hl, ho⟩ := h
  rw [pts_len] at hl
  have hi : i < ns.length := (List.getElem?_eq_some_iff.1 hx).1
  have e0 : (pts ns)[i]? = some (.pointer (some ⟨x.b, x.o, none⟩)) := by simp [pts, hx]
  rcases ho with ⟨_, h0⟩ | ⟨g, cap, cur, rfl, hg, hc, hn, hmx, hs, ht⟩
  · omega
  have hlt : g < w.heap.size := by
    rcases Nat.lt_or_ge g w.heap.size with h' | h'
    · exact h'
    · simp [Array.getElem?_eq_none h'] at hc
  refine ⟨g, cap, rfl, by omega, by omega, hn, hmx, hlt, hg, ?_⟩
  simp only [World.cell?, hc]
  rw [← ht, List.getElem?_take, if_pos (by omega), Array.getElem?_toList] at e0
  simpa using e0
theorem news_take {ks : List E7} {g k : Nat} {e : E7} (h : ks[k]? = some e) : (news ks g).take (k + 1) = (news ks g).take k ++ [⟨g, k * 7, e⟩] := by
  have h1 := news_at (g := g) h
  obtain ⟨hk, h2⟩ := List.getElem?_eq_some_iff.1 h1
  rw [List.take_succ_eq_append_getElem hk, h2]
theorem nq_start {w : World} {D : Nat} {P : E7 → Prop} {e : E7} {u : Value} {wr : World} (hN : 0 < w.heap.size) (he : e.wf) (hP : P e) (hb : w.heap.size < wr.heap.size) (hf : ∀ q, wr.frozen? ⟨w.heap.size, q, none⟩ = false) (hc : cellsE wr w.heap.size 0 e) (hu : wr.cell? ⟨w.heap.size, 6, none⟩ = some u) (hr : RE w (D + 1) u e.ks) :
    NQ w D (fun _ => (0, 0)) P wr 0 [⟨w.heap.size, 0, e⟩] := by
  refine ⟨fun j x hx => ?_, fun j k x y hx hy _ _ => ?_, rfl, fun c hc => hc⟩
  · cases j with
    | zero =>
      simp at hx
      subst hx
      exact ⟨⟨he, hP, Nat.le_refl _, hb, hf, rfl⟩, hc, u, hu, fun _ => hr, fun h => absurd h (by omega)⟩
    | succ j => simp at hx
  · have h1 := (List.getElem?_eq_some_iff.1 hx).1
    have h2 := (List.getElem?_eq_some_iff.1 hy).1
    simp at h1 h2
    omega
theorem clOf_parts {w wr w1 : World} {u v : Value} {ks : List E7} (hcl : ClOf w1 wr.heap.size u v ks.length) (hb : Below w.heap.size w w1) :
    ∃ gg av cv, v = .slice av ks.length cv ∧ wr.heap.size ≤ gg ∧ ks.length ≤ cv ∧ cv ≤ maxLen ∧ (ks ≠ [] → av = some ⟨gg, 0, none⟩) ∧
      (ks ≠ [] → gg < w1.heap.size ∧ (∀ q, w1.frozen? ⟨gg, q, none⟩ = false) ∧ ∀ b o n c, u = .slice (some ⟨b, o, none⟩) n c → b < w.heap.size → ∀ j, j < ks.length * 7 → w1.cell? ⟨gg, j, none⟩ = w.cell? ⟨b, o + j, none⟩) := by
  rcases hcl with ⟨h0, a, c, rfl, hc⟩ | ⟨b, o, c, g, cap, rfl, rfl, hg, hgl, hcap, hm, hf, hcell⟩
  · have hne : ¬ ks ≠ [] := fun h => h (List.length_eq_zero_iff.1 h0)
    exact ⟨wr.heap.size, a, c, by rw [h0], Nat.le_refl _, by omega, hc, fun h => absurd h hne, fun h => absurd h hne⟩
  · refine ⟨g, _, cap, rfl, hg, hcap, hm, fun _ => rfl, fun _ => ⟨hgl, hf, fun b' o' n' c' hu hb' j hj => ?_⟩⟩
    injection hu with ha
    injection ha with ha
    injection ha with h1 h2
    subst h1 h2
    rw [hcell j hj]
    exact (bcell hb).1 _ _ hb'
theorem NQ.round2 {w wr w1 w3 : World} {D i g gg BM : Nat} {hang : Nat → Nat × Nat} {P : E7 → Prop} {ns : List Nd} {x : Nd} {u : Value} {av : Option Addr} {cv : Nat} (h : NQ w D hang P wr i ns) (hx : ns[i]? = some x) (hP : ∀ e, P e → ∀ k ∈ e.ks, P k) (hu : wr.cell? ⟨x.b, x.o + 6, none⟩ = some u) (hN : w.heap.size ≤ wr.heap.size)
    (hb1 : Below wr.heap.size wr w1) (hdis : ∀ (j : Nat) (y : Nd), ns[j]? = some y → y.b ≠ g) (hdisB : ∀ (j : Nat) (y : Nd), ns[j]? = some y → y.b ≠ BM) (hBM : BM < wr.heap.size) (hg : g < wr.heap.size) (hs3 : w1.heap.size ≤ w3.heap.size)
    (h3 : ∀ b, b < w1.heap.size → b ≠ g → b ≠ BM → w3.heap[b]? = (w1.setCell ⟨x.b, x.o + 6, none⟩ (.slice av x.e.ks.length cv)).heap[b]?)
    (hgg : wr.heap.size ≤ gg) (hc1 : x.e.ks.length ≤ cv) (hc2 : cv ≤ maxLen) (hav : x.e.ks ≠ [] → av = some ⟨gg, 0, none⟩)
    (hgl : x.e.ks ≠ [] → gg < w1.heap.size ∧ (∀ q, w1.frozen? ⟨gg, q, none⟩ = false) ∧ ∀ b o n c, u = .slice (some ⟨b, o, none⟩) n c → b < w.heap.size → ∀ j, j < x.e.ks.length * 7 → w1.cell? ⟨gg, j, none⟩ = w.cell? ⟨b, o + j, none⟩) :
    NQ w D (fun c => if c = gg then (x.b, x.o + 6) else hang c) P w3 (i + 1) (ns ++ news x.e.ks gg) ∧ (∀ (j : Nat) (y : Nd), ns[j]? = some y → j ≠ i → w3.cell? ⟨y.b, y.o + 6, none⟩ = wr.cell? ⟨y.b, y.o + 6, none⟩) ∧
      (x.e.ks ≠ [] → ∀ b o n c, u = .slice (some ⟨b, o, none⟩) n c → b < w.heap.size → ∀ j, j < x.e.ks.length * 7 → w3.cell? ⟨gg, j, none⟩ = w.cell? ⟨b, o + j, none⟩) := by
  have hz1 := hb1.size
  have hlt : ∀ (j : Nat) (y : Nd), ns[j]? = some y → y.b < wr.heap.size := fun j y hy => (h.at' j y hy).1.2.2.2.1
  have hxl := hlt i x hx
  have far : ∀ (j : Nat) (y : Nd), ns[j]? = some y → ∀ q, (y.b ≠ x.b ∨ q ≠ x.o + 6) → w3.cell? ⟨y.b, q, none⟩ = wr.cell? ⟨y.b, q, none⟩ := by
    intro j y hy q hne
    have hy1 := hlt j y hy
    rw [cell_blk (h3 y.b (by omega) (hdis j y hy) (hdisB j y hy)), World.cell?_setCell_other _ _ _ _ (by
      intro e
      have e1 := congrArg Addr.block e
      have e2 := congrArg Addr.off e
      rcases hne with h | h
      · exact h e1.symm
      · exact h e2.symm)]
    exact (bcell hb1).1 _ _ hy1
  have hgb : x.e.ks ≠ [] → w3.heap[gg]? = w1.heap[gg]? := fun hne => by
    rw [h3 gg (hgl hne).1 (by omega) (by omega)]
    exact Below.heap_setCell _ _ _ _ (by show gg ≠ x.b; omega)
  refine ⟨h.step hx hP hu (by omega) hN far (fun j y hy q => ?_) ?_ hgg ⟨av, cv, rfl, hc1, hc2, hav⟩ fun hne => ?_, fun j y hy hji => far j y hy _ ?_, fun hne b o n c hu hb j hj => (cell_blk (hgb hne)).trans ((hgl hne).2.2 b o n c hu hb j hj)⟩
  · have hy1 := hlt j y hy
    rw [frozen_blk (h3 y.b (by omega) (hdis j y hy) (hdisB j y hy)), World.frozen?_setCell]
    exact (bcell hb1).2 _ _ hy1
  · rw [cell_blk (h3 x.b (by omega) (hdis i x hx) (hdisB i x hx))]
    exact World.cell?_setCell_same _ _ _ (((bcell hb1).1 _ _ hxl).trans hu)
  · obtain ⟨hl, hf, hc⟩ := hgl hne
    exact ⟨by omega, fun q => (frozen_blk (hgb hne)).trans (hf q), fun b o n c hu hb j hj => (cell_blk (hgb hne)).trans (hc b o n c hu hb j hj)⟩
  · by_cases hb : y.b = x.b
    · right
      intro ho
      exact hji (h.dist j i y x hy hx hb (by omega))
    · exact .inl hb
set_option maxHeartbeats 1000000 in
theorem kidsPtr_any (b q : Nat) (u : Value) (w : World) (hl : b < w.heap.size) (h : w.cell? ⟨b, q + 6, none⟩ = some u) :
    Calls Tryz.prog 95 #[.pointer (some ⟨b, q, none⟩)] w fun x w' => x = .returned (.pointer (some ⟨b, q + 6, none⟩)) ∧ w' = w := by
  go_enter Tryz.func95, Tryz.ntmps95
  go_wp2
  go_returns
  exact ⟨rfl, rfl⟩
/-- what copyNodes answers: the slice v of pointers to the nodes of the copy, the first one the copy itself. -/
def CpOut (w : World) (D : Nat) (P : E7 → Prop) (e : E7) (w' : World) (v : Value) : Prop :=
  ∃ (ns : List Nd) (hang : Nat → Nat × Nat), w'.ownsRow w.heap.size 169 1 v ns.length (pts ns) ∧ ns[0]? = some ⟨w.heap.size, 0, e⟩ ∧ NQ w D hang P w' ns.length ns ∧ (∀ (j : Nat) (y : Nd), ns[j]? = some y → v.ownBlock ≠ some y.b) ∧ ns.length ≤ 2097153
theorem heap_three (w : World) (X Y Z : Obj) : (((w.alloc X).alloc Y).alloc Z).heap[w.heap.size + 1]? = some Y ∧ (((w.alloc X).alloc Y).alloc Z).heap[w.heap.size + 1 + 1]? = some Z := by
  constructor
  · have := (heap_two (w.alloc X) Y Z).1
    rwa [World.size_alloc] at this
  · have := (heap_two (w.alloc X) Y Z).2
    rwa [World.size_alloc] at this
attribute [local go_sem] Go.run_makeMap_plain
set_option maxHeartbeats 8000000 in
set_option maxRecDepth 100000 in
theorem copyPlaces_any (D : Nat) (P : E7 → Prop) (hP : ∀ e, P e → ∀ k ∈ e.ks, P k) (e : E7) (u : Value) (F : List Nat) (w : World) (hN : 0 < w.heap.size) (he : e.wf) (hPe : P e) (hk : KidsIs w (D + 1) u e.ks F) (hd : (F.Nodup ∧ ∀ b ∈ F, Fr w b) ∨ cntE e ≤ 8191) (hn : wtE e ≤ 2097152) :
    Calls Tryz.prog 115 #[(.agg #[.int .i64 e.k, .int .i64 e.n, .int .i64 e.v.k, .int .i64 e.v.n, .string e.v.s, .string e.p, u]), .func (.func 95) #[] #[], .int .i64 8192] w fun x w' => (∃ v, x = .returned v ∧ CpOut w D P e w' v) ∧ Below w.heap.size w w' := by
  obtain ⟨i0, hi, hz0, hz1, hz2⟩ := info_parts Tryz.infoPtE
  obtain ⟨a, c, rfl, hl, hc⟩ := hk.shape
  have hre := hk.re
  go_enter Tryz.func115, Tryz.ntmps115
  go_wp2
  go_loopw [7, 9] (fun y i wr => ∃ (i' : Nat) (ns : List Nd) (hang : Nat → Nat × Nat) (es : Array MapEntry) (ck : Nat), i = .int .i64 i' ∧ i' ≤ ns.length ∧ wr.ownsRow w.heap.size 169 1 y ns.length (pts ns) ∧ ns[0]? = some ⟨w.heap.size, 0, e⟩ ∧ NQ w D hang P wr i' ns ∧ (∀ (j : Nat) (z : Nd), ns[j]? = some z → y.ownBlock ≠ some z.b) ∧ (∀ (j : Nat) (z : Nd), ns[j]? = some z → z.b ≠ w.heap.size + 1 + 1) ∧ wr.heap[w.heap.size + 1 + 1]? = some (.map es ck) ∧ MQ w D F wr i' ns es ∧ Below w.heap.size w wr ∧ i' + rem i' ns ≤ 1 + wtE e) (fun _ i _ => 1 + wtE e - (intOf i).toNat)
  case atStart =>
    refine ⟨0, [⟨w.heap.size, 0, e⟩], fun _ => (0, 0), #[], 0, rfl, Nat.zero_le _, ?_, rfl, nq_start hN he hPe (by simp; omega) (fun q => by go_simp) ⟨by go_simp, by go_simp, by go_simp, by go_simp, by go_simp, by go_simp⟩ (u := .slice a e.ks.length c) (by go_simp) hre, ?_, ?_, ?_, mq_start (u := .slice a e.ks.length c) hd (by show World.cell? _ ⟨w.heap.size, 0 + 6, none⟩ = _; go_simp) hk, by repeat (first | (with_reducible exact Below.refl _ _) | (with_reducible refine Below.drew ?_) | (with_reducible refine Below.alloc ?_ ?hh _; case hh => first | (simp; done) | (simp; omega) | omega) | (with_reducible refine Below.setCell ?_ ?hh _; case hh => first | (simp; done) | (simp; omega) | omega) | refine bstep (by assumption) (by first | (simp; done) | (simp; omega) | omega) ?_), by simp [rem]⟩
    · refine ⟨by simp [pts], .inr ⟨w.heap.size + 1, 1, #[.pointer (some ⟨w.heap.size, 0, none⟩)], rfl, by omega, ?_, Nat.le_refl _, by unfold maxLen; omega, by first | rfl | simp, by first | rfl | simp [pts]⟩⟩
      exact (heap_three w _ _ _).1
    · intro j z hz
      have h1 := (List.getElem?_eq_some_iff.1 hz).1
      simp at h1
      subst h1
      simp at hz
      subst hz
      simp [Value.ownBlock]
    · intro j z hz
      have h1 := (List.getElem?_eq_some_iff.1 hz).1
      simp at h1
      subst h1
      simp at hz
      subst hz
      show w.heap.size ≠ w.heap.size + 1 + 1
      omega
    · exact (heap_three w _ _ _).2
  case round =>
    obtain ⟨i, ns, hang, es, ck, rfl, hile, hown, h00, hQ, hdis, hdisB, hmap, hMQ, hb, hrem⟩ := hrel
    have hzb := hb.size
    have hlen : ns.length ≤ 2097153 := by have := rem_len i ns; omega
    by_cases hlt : i < ns.length
    · obtain ⟨x, hx⟩ : ∃ x, ns[i]? = some x := ⟨ns[i], by simp [hlt]⟩
      obtain ⟨g, cap, rfl, _, _, hcap, hcm, hgl0, hgN, hp⟩ := pts_read hown hx
      obtain ⟨⟨xw, xP, xN, xl, xf, xo⟩, xc, uu, xu, xre, _⟩ := hQ.at' i x hx
      have xre := xre (Nat.le_refl _)
      obtain ⟨au, cu, rfl, hul, huc⟩ := xre.shape
      have hxr := rem_pos hx
      have hks : x.e.ks.length ≤ 2097152 := by have := wtE_eq x.e; omega
      have hxg : x.b ≠ g := fun h => hdis i x hx (by rw [h]; rfl)
      have hxB : x.b ≠ w.heap.size + 1 + 1 := hdisB i x hx
      have hBz : w.heap.size + 1 + 1 < wr.heap.size := (Array.getElem?_eq_some_iff.1 hmap).1
      have hgB : g ≠ w.heap.size + 1 + 1 := by
        obtain ⟨g', cap', e', _, _, _, _, c', t', l', hc'⟩ := own_shape hown (by omega)
        injection e' with e1
        injection e1 with e1
        injection e1 with e1
        intro h
        rw [← e1, h, hmap] at hc'
        cases hc'
      have HX : Hid (ns[i]? = some x) := hx
      have HR := fun g => rem_step g hx
      unfold maxLen at hcm huc
      by_cases hne0 : x.e.ks = []
      · have h0 : ((x.e.ks.length : Int) == 0) = true := by rw [hne0]; rfl
        have far : ∀ (j : Nat) (y : Nd), ns[j]? = some y → ∀ q, (y.b ≠ x.b ∨ q ≠ x.o + 6) → (wr.setCell ⟨x.b, x.o + 6, none⟩ (.slice none 0 0)).cell? ⟨y.b, q, none⟩ = wr.cell? ⟨y.b, q, none⟩ := by
          intro j y hy q hne
          exact World.cell?_setCell_other _ _ _ _ (by
            intro e
            have e1 := congrArg Addr.block e
            have e2 := congrArg Addr.off e
            rcases hne with h | h
            · exact h e1.symm
            · exact h e2.symm)
        have hQ3 := hQ.step (w3 := wr.setCell ⟨x.b, x.o + 6, none⟩ (.slice none 0 0)) (g := wr.heap.size) (v := .slice none 0 0) hx hP xu (by simp) hzb far (fun j y hy q => World.frozen?_setCell _ _ _ _) (World.cell?_setCell_same _ _ _ xu) (Nat.le_refl _) ⟨none, 0, by rw [hne0]; rfl, by rw [hne0]; simp, by simp, fun h => absurd hne0 h⟩ (fun h => absurd hne0 h)
        have hM3 : MQ w D F (wr.setCell ⟨x.b, x.o + 6, none⟩ (.slice none 0 0)) (i + 1) ns es := hMQ.skip hx fun j y hy hji => far j y hy _ (by
          by_cases hb : y.b = x.b
          · right
            intro ho
            exact hji (hQ.dist j i y x hy hx hb (by omega))
          · exact .inl hb)
        have hnil : ns ++ news x.e.ks wr.heap.size = ns := by rw [hne0]; simp [news]
        rw [hnil] at hQ3
        have hrem3 := HR wr.heap.size
        rw [hnil] at hrem3
        have hown3 : (wr.setCell ⟨x.b, x.o + 6, none⟩ (.slice none 0 0)).ownsRow w.heap.size 169 1 (.slice (some ⟨g, 0, none⟩) ns.length cap) ns.length (pts ns) := ownsE_keep hown fun b hb => by simp [Value.ownBlock] at hb; subst hb; exact Below.heap_setCell _ _ _ _ (Ne.symm hxg)
        have hmap3 : (wr.setCell ⟨x.b, x.o + 6, none⟩ (.slice none 0 0)).heap[w.heap.size + 1 + 1]? = some (.map es ck) := (Below.heap_setCell _ _ _ _ (Ne.symm hxB)).trans hmap
        have hbw3 : Below w.heap.size w (wr.setCell ⟨x.b, x.o + 6, none⟩ (.slice none 0 0)) := hb.setCell xN _
        clear hre HX HR far hQ hMQ hnil
        go_wp2_with (first | (go_at_call 95; refine (kidsPtr_any x.b x.o (.slice au x.e.ks.length cu) _ xl xu).mono ?_; rintro z w' ⟨rfl, hww⟩; (obtain rfl : wr = w' := hww.symm)) | fail)
        exact ⟨⟨i + 1, ns, _, es, ck, by simp, hlt, hown3, h00, hQ3, hdis, hdisB, hmap3, hM3, hbw3, by omega⟩, by simp [intOf]; omega⟩
      · have hne : x.e.ks ≠ [] := hne0
        obtain ⟨b, o, rfl, hbw⟩ : ∃ b o, au = some ⟨b, o, none⟩ ∧ b < w.heap.size := by
          obtain ⟨a', c', e', _, _, h⟩ := xre
          obtain ⟨b, o, rfl, hb, _⟩ := h hne
          injection e' with e1
          exact ⟨b, o, e1, hb⟩
        have h0 : ((x.e.ks.length : Int) == 0) = false := by
          have := List.length_pos_iff.2 hne
          simp
          omega
        have hpos : (0 : Int) < x.e.ks.length := by have := List.length_pos_iff.2 hne; omega
        have hposN : 0 < x.e.ks.length := List.length_pos_iff.2 hne
        have hcuI : (cu : Int) ≤ 9223372036854775807 := by omega
        clear hre hx hne0
        go_wp2_with (first | (go_at_call 95; refine (kidsPtr_any x.b x.o (.slice (some ⟨b, o, none⟩) x.e.ks.length cu) _ xl xu).mono ?_; rintro z w' ⟨rfl, hww⟩; (obtain rfl : wr = w' := hww.symm)) | fail)
        go_region_held3 (fun w' => w'.cell? ⟨x.b, x.o + 6, none⟩ = some (.slice (some ⟨b, o, none⟩) x.e.ks.length cu)) (go_simp) (fail)
        have hX : Below w.heap.size w (World.drew (World.alloc wr (.cells #[.pointer (some ⟨b, o, none⟩), .int .i64 x.e.ks.length] 223))) := by repeat (first | (with_reducible exact Below.refl _ _) | (with_reducible refine Below.drew ?_) | (with_reducible refine Below.alloc ?_ ?hh _; case hh => first | (simp; done) | (simp; omega) | omega) | (with_reducible refine Below.setCell ?_ ?hh _; case hh => first | (simp; done) | (simp; omega) | omega) | refine bstep (by assumption) (by first | (simp; done) | (simp; omega) | omega) ?_)
        have hbX : Below wr.heap.size wr (World.drew (World.alloc wr (.cells #[.pointer (some ⟨b, o, none⟩), .int .i64 x.e.ks.length] 223))) := by repeat (first | (with_reducible exact Below.refl _ _) | (with_reducible refine Below.drew ?_) | (with_reducible refine Below.alloc ?_ ?hh _; case hh => first | (simp; done) | (simp; omega) | omega) | (with_reducible refine Below.setCell ?_ ?hh _; case hh => first | (simp; done) | (simp; omega) | omega) | refine bstep (by assumption) (by first | (simp; done) | (simp; omega) | omega) ?_)
        have x0 : (World.drew (World.alloc wr (.cells #[.pointer (some ⟨b, o, none⟩), .int .i64 x.e.ks.length] 223))).cell? ⟨wr.heap.size, 0, none⟩ = some (.pointer (some ⟨b, o, none⟩)) := by go_simp
        have x1 : (World.drew (World.alloc wr (.cells #[.pointer (some ⟨b, o, none⟩), .int .i64 x.e.ks.length] 223))).cell? ⟨wr.heap.size, 1, none⟩ = some (.int .i64 x.e.ks.length) := by go_simp
        have xz : (World.drew (World.alloc wr (.cells #[.pointer (some ⟨b, o, none⟩), .int .i64 x.e.ks.length] 223))).heap.size = wr.heap.size + 1 := by simp
        have xuX : (World.drew (World.alloc wr (.cells #[.pointer (some ⟨b, o, none⟩), .int .i64 x.e.ks.length] 223))).cell? ⟨x.b, x.o + 6, none⟩ = some (.slice (some ⟨b, o, none⟩) x.e.ks.length cu) := (hbX.cell (p := ⟨x.b, _, none⟩) xl).trans xu
        generalize (World.drew (World.alloc wr (.cells #[.pointer (some ⟨b, o, none⟩), .int .i64 x.e.ks.length] 223))) = wX at *
        have hmX : wX.heap[w.heap.size + 1 + 1]? = some (.map es ck) := (hbX.block _ hBz).trans hmap
        have hlook := look_noS wX (p := ⟨b, o, none⟩) (n := x.e.ks.length) hmX (hMQ.miss HX.out xu hne hX)
        have hxX : x.b < wX.heap.size := by omega
        have pX := ((bcell hbX).1 _ _ hgl0).trans hp
        have gX : g < wX.heap.size := by omega
        have HQ : Hid (NQ w D hang P wr i ns) := hQ
        clear hQ hp
        go_wp2_with fail
        refine Calls.mono (cloneR_any D (.slice (some ⟨b, o, none⟩) x.e.ks.length cu) x.e.ks wX (RE.below hX xre) hks) ?_
        rintro ex w1 ⟨⟨v1, rfl, hcl⟩, hb1⟩
        have hz1' := hb1.size
        have hbw1 : Below w.heap.size w w1 := hX.trans (hb1.mono hX.size)
        obtain ⟨gg, av, cv, rfl, hgg, hcv1, hcv2, hav, hgl⟩ := clOf_parts hcl hbw1
        obtain rfl := hav hne
        have hggl := (hgl hne).1
        have xu1 : w1.cell? ⟨x.b, x.o + 6, none⟩ = some (.slice (some ⟨b, o, none⟩) x.e.ks.length cu) := ((bcell hb1).1 _ _ hxX).trans xuX
        have xf1 : ∀ q, w1.frozen? ⟨x.b, q, none⟩ = false := fun q => ((bcell hb1).2 _ q hxX).trans (((bcell hbX).2 _ q xl).trans (xf q))
        have xl1 : x.b < w1.heap.size := by omega
        have hm1 : w1.heap[w.heap.size + 1 + 1]? = some (.map es ck) := (hb1.block _ (by omega)).trans hmX
        have y0 := ((bcell hb1).1 _ _ (show wr.heap.size < wX.heap.size by omega)).trans x0
        have y1 := ((bcell hb1).1 _ _ (show wr.heap.size < wX.heap.size by omega)).trans x1
        have hmis := hMQ.miss HX.out xu hne (hbw1.setCell (p := ⟨x.b, x.o + 6, none⟩) xN (.slice (some ⟨gg, 0, none⟩) x.e.ks.length cv))
        have hxr3 : x.b ≠ wr.heap.size := by omega
        have hB4 := hbw1.setCell (p := ⟨x.b, x.o + 6, none⟩) xN (.slice (some ⟨gg, 0, none⟩) x.e.ks.length cv)
        clear hcl hlook pX x0 x1 xuX hav
        by_cases hbig : 8192 ≤ ns.length
        · have hbb : decide ((8192 : Int) ≤ (ns.length : Int)) = true := by simp; omega
          have HM : Hid (∀ w3 : World, (∀ (j : Nat) (y : Nd), ns[j]? = some y → j ≠ i → w3.cell? ⟨y.b, y.o + 6, none⟩ = wr.cell? ⟨y.b, y.o + 6, none⟩) → (∀ j, j < x.e.ks.length * 7 → w3.cell? ⟨gg, j, none⟩ = w.cell? ⟨b, o + j, none⟩) → MQ w D F w3 (i + 1) (ns ++ news x.e.ks gg) (es.push ⟨.agg #[.pointer (some ⟨b, o, none⟩), .int .i64 x.e.ks.length], .slice (some ⟨gg, 0, none⟩) x.e.ks.length cv, ck⟩)) := fun w3 h1 h2 => hMQ.note hbig HX.out xu hne h1 h2
          go_wp2_with fail
          obtain ⟨wa, hwa⟩ : ∃ z, z = (w1.setCell ⟨x.b, x.o + 6, none⟩ (.slice (some ⟨gg, 0, none⟩) x.e.ks.length cv)) := ⟨_, rfl⟩
          rw [← hwa] at hmis hB4 ⊢
          have s0 : wa.cell? ⟨wr.heap.size, 0, none⟩ = some (.pointer (some ⟨b, o, none⟩)) := by rw [hwa, cell_blk (Below.heap_setCell _ _ _ _ (Ne.symm hxr3))]; exact y0
          have s1 : wa.cell? ⟨wr.heap.size, 1, none⟩ = some (.int .i64 x.e.ks.length) := by rw [hwa, cell_blk (Below.heap_setCell _ _ _ _ (Ne.symm hxr3))]; exact y1
          have s2 : wa.cell? ⟨x.b, x.o + 6, none⟩ = some (.slice (some ⟨gg, 0, none⟩) x.e.ks.length cv) := by rw [hwa]; exact World.cell?_setCell_same _ _ _ xu1
          have A1 : ∀ b', b' < w1.heap.size → wa.heap[b']? = (w1.setCell ⟨x.b, x.o + 6, none⟩ (.slice (some ⟨gg, 0, none⟩) x.e.ks.length cv)).heap[b']? := by rw [hwa]; intro _ _; rfl
          have A2 : wa.heap.size = w1.heap.size := by rw [hwa]; simp
          have m2 : wa.drew.heap[w.heap.size + 1 + 1]? = some (.map es ck) := (A1 _ (by omega)).trans ((Below.heap_setCell _ _ _ _ (Ne.symm hxB)).trans hm1)
          have hupd := upd_noS wa.drew (p := ⟨b, o, none⟩) (n := x.e.ks.length) (v := .slice (some ⟨gg, 0, none⟩) x.e.ks.length cv) m2 (hMQ.miss HX.out xu hne hB4.drew)
          obtain ⟨B3, u1, B2, B4⟩ := upd_world (o' := .map (es.push ⟨.agg #[.pointer (some ⟨b, o, none⟩), .int .i64 x.e.ks.length], .slice (some ⟨gg, 0, none⟩) x.e.ks.length cv, ck⟩) (ck + 1)) m2 (by omega) hB4.drew
          generalize ({ wa.drew with heap := wa.drew.heap.setIfInBounds (w.heap.size + 1 + 1) (.map (es.push ⟨.agg #[.pointer (some ⟨b, o, none⟩), .int .i64 x.e.ks.length], .slice (some ⟨gg, 0, none⟩) x.e.ks.length cv, ck⟩) (ck + 1)) } : World) = w2 at hupd B3 u1 B2 B4
          have hwax : x.b < wa.drew.heap.size := by show x.b < wa.heap.size; omega
          have hwar : wr.heap.size < wa.drew.heap.size := by show wr.heap.size < wa.heap.size; omega
          clear hwa hmis
          refine wp_region_held_drew (S := (fun w' => w'.cell? ⟨wr.heap.size, 0, none⟩ = some (.pointer (some ⟨b, o, none⟩)) ∧ w'.cell? ⟨wr.heap.size, 1, none⟩ = some (.int .i64 x.e.ks.length) ∧ w'.cell? ⟨x.b, x.o + 6, none⟩ = some (.slice (some ⟨gg, 0, none⟩) x.e.ks.length cv))) (by kernel_rfl) ?_ (fun hHeld => ?_)
          · exact ⟨s0, s1, s2⟩
          refine takeYes (i := 0) (d := 65) (v := ?_) rfl rfl (by kernel_rfl) (by kernel_rfl) (by kernel_rfl) (fun _ _ _ h => h) (by rfl) (by assumption) ?_ ?_
          rotate_left
          · intro w' hSw; obtain ⟨s0, s1, s2⟩ := hSw; go_simp; try exact rfl
          try simp only [List.setIfInBounds_toArray, List.set_cons_zero, List.set_cons_succ]
          refine takeYes (i := 1) (d := 66) (v := ?_) rfl rfl (by kernel_rfl) (by kernel_rfl) (by kernel_rfl) (fun _ _ _ h => h) (by rfl) (by assumption) ?_ ?_
          rotate_left
          · intro w' hSw; obtain ⟨s0, s1, s2⟩ := hSw; go_simp; try exact rfl
          try simp only [List.setIfInBounds_toArray, List.set_cons_zero, List.set_cons_succ]
          refine takeYes (i := 2) (d := 67) (v := ?_) rfl rfl (by kernel_rfl) (by kernel_rfl) (by kernel_rfl) (fun _ _ _ h => h) (by rfl) (by assumption) ?_ ?_
          rotate_left
          · intro w' hSw; obtain ⟨s0, s1, s2⟩ := hSw; go_simp; try exact rfl
          try simp only [List.setIfInBounds_toArray, List.set_cons_zero, List.set_cons_succ]
          refine takeYes (i := 3) (d := 68) (v := ?_) rfl rfl (by kernel_rfl) (by kernel_rfl) (by kernel_rfl) (fun _ _ _ h => h) (by rfl) (by assumption) ?_ ?_
          rotate_left
          · intro w' hSw; obtain ⟨s0, s1, s2⟩ := hSw; go_simp; try exact rfl
          try simp only [List.setIfInBounds_toArray, List.set_cons_zero, List.set_cons_succ]
          refine takeYes (i := 4) (d := 69) (v := ?_) rfl rfl (by kernel_rfl) (by kernel_rfl) (by kernel_rfl) (fun _ _ _ h => h) (by rfl) (by assumption) ?_ ?_
          rotate_left
          · intro w' hSw; obtain ⟨s0, s1, s2⟩ := hSw; go_simp; try exact rfl
          try simp only [List.setIfInBounds_toArray, List.set_cons_zero, List.set_cons_succ]
          refine wpAnyH_ready (rs := [5]) (by kernel_rfl) (by simp) ?_
          refine AllReadyH.cons rfl (fun KK hKK => ?_) AllReadyH.nil
          go_simp
          refine hKK.out _ _ ⟨(cell_blk (u1 _ (by omega))).trans s0, (cell_blk (u1 _ (by omega))).trans s1, (cell_blk (u1 _ (by omega))).trans s2⟩ (fun hHeld5 => ?_)
          clear hKK hHeld5
          refine wpAnyH_done (by kernel_rfl) ?_ _
          have B1 : ∀ b', b' < w1.heap.size → b' ≠ w.heap.size + 1 + 1 → w2.heap[b']? = (w1.setCell ⟨x.b, x.o + 6, none⟩ (.slice (some ⟨gg, 0, none⟩) x.e.ks.length cv)).heap[b']? := fun b' h1 h2 => (u1 b' h2).trans (A1 b' h1)
          have B2' : w2.heap.size = w1.heap.size := B2.trans A2
          have xc2 : w2.cell? ⟨x.b, x.o + 6, none⟩ = some (.slice (some ⟨gg, 0, none⟩) x.e.ks.length cv) := (cell_blk (u1 _ (by omega))).trans s2
          have hxw2 : x.b < w2.heap.size := by omega
          clear hHeld hupd s0 s1 s2 u1 m2 hB4 hMQ hm1 hwax hwar A1 B2
          have B2 := B2'
          clear B2'
          obtain ⟨es2, hes2⟩ : ∃ z, z = es.push ⟨.agg #[.pointer (some ⟨b, o, none⟩), .int .i64 x.e.ks.length], .slice (some ⟨gg, 0, none⟩) x.e.ks.length cv, ck⟩ := ⟨_, rfl⟩
          obtain ⟨ck2, hck2⟩ : ∃ z, z = ck + 1 := ⟨_, rfl⟩
          rw [← hes2, ← hck2] at B3
          rw [← hes2] at HM
          clear hes2 hck2
          go_wp2_with fail
          obtain ⟨wo, hwo⟩ : ∃ z, z = wr := ⟨_, rfl⟩
          subst hwo
          have hown2 : w2.ownsRow w.heap.size 169 1 (.slice (some ⟨g, 0, none⟩) ns.length cap) ns.length (pts ns) := ownsE_keep hown fun b hb => by
            simp [Value.ownBlock] at hb
            subst hb
            rw [B1 g (by omega) (by omega), Below.heap_setCell _ _ _ _ (Ne.symm hxg), hb1.block _ (by omega)]
            exact hbX.block _ hgl0
          clear hown
          go_loopw [7, 74] (fun y' k' wr' => ∃ (k : Nat), k ≤ x.e.ks.length ∧ k' = .int .i64 k ∧ wr'.ownsRow w.heap.size 169 1 y' (ns.length + k) (pts (ns ++ (news x.e.ks gg).take k)) ∧ (∀ b, b < w2.heap.size → b ≠ g → wr'.heap[b]? = w2.heap[b]?) ∧ w2.heap.size ≤ wr'.heap.size ∧ (∀ q, y'.ownBlock = some q → q = g ∨ w2.heap.size ≤ q) ∧ Below w.heap.size w wr') (fun _ k' _ => x.e.ks.length - (intOf k').toNat)
          case atStart =>
            refine ⟨0, Nat.zero_le _, rfl, ?_, fun b _ _ => rfl, Nat.le_refl _, fun q hq => by simp [Value.ownBlock] at hq; exact .inl hq.symm, B4⟩
            rw [List.take_zero, List.append_nil]
            exact hown2
          case round =>
            obtain ⟨k, hkl, rfl, hown2, hblk, hz2', hob, hbw2⟩ := hrel
            have xc : wr.cell? ⟨x.b, x.o + 6, none⟩ = some (.slice (some ⟨gg, 0, none⟩) x.e.ks.length cv) := by
              rw [cell_blk (hblk x.b (by omega) hxg), cell_blk (B1 x.b (by omega) hxB)]
              exact World.cell?_setCell_same _ _ _ xu1
            have hxr2 : x.b < wr.heap.size := by omega
            by_cases hk2 : k < x.e.ks.length
            · obtain ⟨ek, hek⟩ : ∃ ek, x.e.ks[k]? = some ek := ⟨x.e.ks[k], by simp [hk2]⟩
              have HT := news_take (g := gg) hek
              have hol := ownsE_lt hown2
              have HB : Hid (∀ b, b < w2.heap.size → b ≠ g → wr.heap[b]? = w2.heap[b]?) := hblk
              have hown3 : (wr.alloc (.cells #[.pointer (some ⟨gg, k * 7, none⟩)] 169)).ownsRow w.heap.size 169 1 u7 (ns.length + k) (pts (ns ++ (news x.e.ks gg).take k)) := ownsE_keep hown2 fun b hb => Below.heap_alloc _ _ _ (hol b hb).2
              have hnew : ∀ j' u, [Value.pointer (some ⟨gg, k * 7, none⟩)][j']? = some u → (wr.alloc (.cells #[.pointer (some ⟨gg, k * 7, none⟩)] 169)).cell? ((⟨wr.heap.size, 0, none⟩ : Addr).add j') = some u := by
                intro j' u hu
                match j', hu with
                | 0, hu => simp at hu; subst hu; go_simp
              have hkm : ns.length + k ≤ 5000000 := by omega
              clear hown2 hblk hgl
              go_wp2_with (at_builtin; refine wpList_append_own_at _ rfl _ _ 203 rfl w.heap.size 169 i0 _ 1 8 Tryz.underlying203 hi hz0 hz1 hz2 rfl (by decide) u7 (ns.length + k) (pts (ns ++ (news x.e.ks gg).take k)) rfl hown3 ⟨wr.heap.size, 0, none⟩ 1 1 [.pointer (some ⟨gg, k * 7, none⟩)] rfl rfl hnew (by simp [Value.oneCell']) ?c3 ?c4 ?c5 ?_)
              case c3 => unfold maxLen; omega
              case c4 => omega
              case c5 => have := hbw2.size; simp; omega
              intro v5 w5 hown5 hgr5 _ hat5
              have hsz5 := hgr5.size
              simp at hsz5
              have hown6 : w5.ownsRow w.heap.size 169 1 v5 (ns.length + (k + 1)) (pts (ns ++ (news x.e.ks gg).take (k + 1))) := by
                rw [HT, ← List.append_assoc, pts_push]
                exact hown5
              have hob5 : ∀ q, v5.ownBlock = some q → q = g ∨ w2.heap.size ≤ q := by
                intro q hq
                rcases hat5 with e | e
                · rw [e] at hq; exact hob q hq
                · rw [e] at hq; cases hq; right; omega
              have hblk5 : ∀ b, b < w2.heap.size → b ≠ g → w5.heap[b]? = w2.heap[b]? := by
                intro b hb hbg
                rw [← HB.out b hb hbg, hgr5.block b (by simp; omega) (fun e => by rcases hob b e.symm with h | h; exact hbg h; omega)]
                exact Below.heap_alloc _ _ _ (by omega)
              have hbw5 : Below w.heap.size w w5 := (hbw2.alloc hbw2.size _).grown hgr5 (by have := hbw2.size; simp; omega) (fun q hq => (hol q hq).1)
              clear hown5 hgr5 hat5 hown3 hnew hol hob hbw2
              go_wp2
              exact ⟨⟨k + 1, hk2, by simp, hown6, hblk5, by omega, hob5, hbw5⟩, by simp [intOf]; omega⟩
            · obtain rfl : k = x.e.ks.length := by omega
              have h3 : ∀ b, b < w1.heap.size → b ≠ g → b ≠ w.heap.size + 1 + 1 → wr.heap[b]? = (w1.setCell ⟨x.b, x.o + 6, none⟩ (.slice (some ⟨gg, 0, none⟩) x.e.ks.length cv)).heap[b]? := fun b h1 h2 h3 => (hblk b (by omega) h2).trans (B1 b h1 h3)
              obtain ⟨hQ3, hC3, hG3⟩ := HQ.out.round2 HX.out hP xu hzb (hbX.trans (hb1.mono hbX.size)) (fun j y hy => fun h => hdis j y hy (by rw [h]; rfl)) hdisB (by omega) hgl0 (by omega) h3 (by omega) hcv1 hcv2 (fun _ => rfl) hgl
              have hM3 := HM.out wr hC3 (hG3 hne b o _ _ rfl hbw)
              have hrem3 := HR gg
              have hmap3 : wr.heap[w.heap.size + 1 + 1]? = some (.map es2 ck2) := (hblk _ (by omega) (by omega)).trans B3
              have hown6 : wr.ownsRow w.heap.size 169 1 u7 (ns ++ news x.e.ks gg).length (pts (ns ++ news x.e.ks gg)) := by
                rw [← news_len x.e.ks gg, List.take_length] at hown2
                rw [List.length_append]
                exact hown2
              have hggl := (hgl hne).1
              have hnew : ∀ (j : Nat) (z : Nd), (ns ++ news x.e.ks gg)[j]? = some z → ns[j]? = some z ∨ z.b = gg := by
                intro j z hz
                by_cases hj : j < ns.length
                · rw [List.getElem?_append_left hj] at hz; exact .inl hz
                · rw [List.getElem?_append_right (by omega)] at hz
                  obtain ⟨ez, hez, rfl⟩ := news_of hz
                  exact .inr rfl
              have hdis3 : ∀ (j : Nat) (z : Nd), (ns ++ news x.e.ks gg)[j]? = some z → u7.ownBlock ≠ some z.b := by
                intro j z hz hq
                have hq := hob _ hq
                rcases hnew j z hz with h | h
                · have h1 := (HQ.out.at' j z h).1.2.2.2.1
                  rcases hq with h' | h'
                  · exact hdis j z h (by rw [h']; rfl)
                  · omega
                · omega
              have hdisB3 : ∀ (j : Nat) (z : Nd), (ns ++ news x.e.ks gg)[j]? = some z → z.b ≠ w.heap.size + 1 + 1 := by
                intro j z hz
                rcases hnew j z hz with h | h
                · exact hdisB j z h
                · omega
              have h003 : (ns ++ news x.e.ks gg)[0]? = some ⟨w.heap.size, 0, e⟩ := by
                rw [List.getElem?_append_left (by omega)]; exact h00
              have hlt3 : i + 1 ≤ (ns ++ news x.e.ks gg).length := by rw [List.length_append]; omega
              clear HQ HX HR HM hown2 hdis h00 hblk hgl hnew hC3 hG3 h3
              go_wp2
              exact ⟨⟨i + 1, _, _, es2, ck2, by simp, hlt3, hown6, h003, hQ3, hdis3, hdisB3, hmap3, hM3, hbw2, by omega⟩, by simp [intOf]; omega⟩
        · have hbb : decide ((8192 : Int) ≤ (ns.length : Int)) = false := by simp; omega
          have HM : Hid (∀ w3 : World, (∀ (j : Nat) (y : Nd), ns[j]? = some y → j ≠ i → w3.cell? ⟨y.b, y.o + 6, none⟩ = wr.cell? ⟨y.b, y.o + 6, none⟩) → (∀ j, j < x.e.ks.length * 7 → w3.cell? ⟨gg, j, none⟩ = w.cell? ⟨b, o + j, none⟩) → MQ w D F w3 (i + 1) (ns ++ news x.e.ks gg) es) := fun w3 h1 h2 => hMQ.step HX.out xu hne h1 h2
          have B2 : (w1.setCell ⟨x.b, x.o + 6, none⟩ (.slice (some ⟨gg, 0, none⟩) x.e.ks.length cv)).heap.size = w1.heap.size := by simp
          have B3 : (w1.setCell ⟨x.b, x.o + 6, none⟩ (.slice (some ⟨gg, 0, none⟩) x.e.ks.length cv)).heap[w.heap.size + 1 + 1]? = some (.map es ck) := (Below.heap_setCell _ _ _ _ (Ne.symm hxB)).trans hm1
          have B4 := hB4
          clear hmis hB4 hMQ hm1
          go_wp2_with fail
          obtain ⟨w2, hw2⟩ : ∃ z, z = (w1.setCell ⟨x.b, x.o + 6, none⟩ (.slice (some ⟨gg, 0, none⟩) x.e.ks.length cv)) := ⟨_, rfl⟩
          have B1' : ∀ b', b' < w1.heap.size → b' ≠ w.heap.size + 1 + 1 → w2.heap[b']? = (w1.setCell ⟨x.b, x.o + 6, none⟩ (.slice (some ⟨gg, 0, none⟩) x.e.ks.length cv)).heap[b']? := by rw [hw2]; intro _ _ _; rfl
          rw [← hw2] at B2 B3 B4 ⊢
          clear hw2
          have B1 := B1'
          clear B1'
          obtain ⟨es2, ck2, B3'⟩ : ∃ es2 ck2, Hid (es2 = es ∧ ck2 = ck) := ⟨es, ck, rfl, rfl⟩
          obtain ⟨rfl, rfl⟩ := B3'.out
          obtain ⟨wo, hwo⟩ : ∃ z, z = wr := ⟨_, rfl⟩
          subst hwo
          have hown2 : w2.ownsRow w.heap.size 169 1 (.slice (some ⟨g, 0, none⟩) ns.length cap) ns.length (pts ns) := ownsE_keep hown fun b hb => by
            simp [Value.ownBlock] at hb
            subst hb
            rw [B1 g (by omega) (by omega), Below.heap_setCell _ _ _ _ (Ne.symm hxg), hb1.block _ (by omega)]
            exact hbX.block _ hgl0
          clear hown
          go_loopw [7, 74] (fun y' k' wr' => ∃ (k : Nat), k ≤ x.e.ks.length ∧ k' = .int .i64 k ∧ wr'.ownsRow w.heap.size 169 1 y' (ns.length + k) (pts (ns ++ (news x.e.ks gg).take k)) ∧ (∀ b, b < w2.heap.size → b ≠ g → wr'.heap[b]? = w2.heap[b]?) ∧ w2.heap.size ≤ wr'.heap.size ∧ (∀ q, y'.ownBlock = some q → q = g ∨ w2.heap.size ≤ q) ∧ Below w.heap.size w wr') (fun _ k' _ => x.e.ks.length - (intOf k').toNat)
          case atStart =>
            refine ⟨0, Nat.zero_le _, rfl, ?_, fun b _ _ => rfl, Nat.le_refl _, fun q hq => by simp [Value.ownBlock] at hq; exact .inl hq.symm, B4⟩
            rw [List.take_zero, List.append_nil]
            exact hown2
          case round =>
            obtain ⟨k, hkl, rfl, hown2, hblk, hz2', hob, hbw2⟩ := hrel
            have xc : wr.cell? ⟨x.b, x.o + 6, none⟩ = some (.slice (some ⟨gg, 0, none⟩) x.e.ks.length cv) := by
              rw [cell_blk (hblk x.b (by omega) hxg), cell_blk (B1 x.b (by omega) hxB)]
              exact World.cell?_setCell_same _ _ _ xu1
            have hxr2 : x.b < wr.heap.size := by omega
            by_cases hk2 : k < x.e.ks.length
            · obtain ⟨ek, hek⟩ : ∃ ek, x.e.ks[k]? = some ek := ⟨x.e.ks[k], by simp [hk2]⟩
              have HT := news_take (g := gg) hek
              have hol := ownsE_lt hown2
              have HB : Hid (∀ b, b < w2.heap.size → b ≠ g → wr.heap[b]? = w2.heap[b]?) := hblk
              have hown3 : (wr.alloc (.cells #[.pointer (some ⟨gg, k * 7, none⟩)] 169)).ownsRow w.heap.size 169 1 u7 (ns.length + k) (pts (ns ++ (news x.e.ks gg).take k)) := ownsE_keep hown2 fun b hb => Below.heap_alloc _ _ _ (hol b hb).2
              have hnew : ∀ j' u, [Value.pointer (some ⟨gg, k * 7, none⟩)][j']? = some u → (wr.alloc (.cells #[.pointer (some ⟨gg, k * 7, none⟩)] 169)).cell? ((⟨wr.heap.size, 0, none⟩ : Addr).add j') = some u := by
                intro j' u hu
                match j', hu with
                | 0, hu => simp at hu; subst hu; go_simp
              have hkm : ns.length + k ≤ 5000000 := by omega
              clear hown2 hblk hgl
              go_wp2_with (at_builtin; refine wpList_append_own_at _ rfl _ _ 203 rfl w.heap.size 169 i0 _ 1 8 Tryz.underlying203 hi hz0 hz1 hz2 rfl (by decide) u7 (ns.length + k) (pts (ns ++ (news x.e.ks gg).take k)) rfl hown3 ⟨wr.heap.size, 0, none⟩ 1 1 [.pointer (some ⟨gg, k * 7, none⟩)] rfl rfl hnew (by simp [Value.oneCell']) ?c3 ?c4 ?c5 ?_)
              case c3 => unfold maxLen; omega
              case c4 => omega
              case c5 => have := hbw2.size; simp; omega
              intro v5 w5 hown5 hgr5 _ hat5
              have hsz5 := hgr5.size
              simp at hsz5
              have hown6 : w5.ownsRow w.heap.size 169 1 v5 (ns.length + (k + 1)) (pts (ns ++ (news x.e.ks gg).take (k + 1))) := by
                rw [HT, ← List.append_assoc, pts_push]
                exact hown5
              have hob5 : ∀ q, v5.ownBlock = some q → q = g ∨ w2.heap.size ≤ q := by
                intro q hq
                rcases hat5 with e | e
                · rw [e] at hq; exact hob q hq
                · rw [e] at hq; cases hq; right; omega
              have hblk5 : ∀ b, b < w2.heap.size → b ≠ g → w5.heap[b]? = w2.heap[b]? := by
                intro b hb hbg
                rw [← HB.out b hb hbg, hgr5.block b (by simp; omega) (fun e => by rcases hob b e.symm with h | h; exact hbg h; omega)]
                exact Below.heap_alloc _ _ _ (by omega)
              have hbw5 : Below w.heap.size w w5 := (hbw2.alloc hbw2.size _).grown hgr5 (by have := hbw2.size; simp; omega) (fun q hq => (hol q hq).1)
              clear hown5 hgr5 hat5 hown3 hnew hol hob hbw2
              go_wp2
              exact ⟨⟨k + 1, hk2, by simp, hown6, hblk5, by omega, hob5, hbw5⟩, by simp [intOf]; omega⟩
            · obtain rfl : k = x.e.ks.length := by omega
              have h3 : ∀ b, b < w1.heap.size → b ≠ g → b ≠ w.heap.size + 1 + 1 → wr.heap[b]? = (w1.setCell ⟨x.b, x.o + 6, none⟩ (.slice (some ⟨gg, 0, none⟩) x.e.ks.length cv)).heap[b]? := fun b h1 h2 h3 => (hblk b (by omega) h2).trans (B1 b h1 h3)
              obtain ⟨hQ3, hC3, hG3⟩ := HQ.out.round2 HX.out hP xu hzb (hbX.trans (hb1.mono hbX.size)) (fun j y hy => fun h => hdis j y hy (by rw [h]; rfl)) hdisB (by omega) hgl0 (by omega) h3 (by omega) hcv1 hcv2 (fun _ => rfl) hgl
              have hM3 := HM.out wr hC3 (hG3 hne b o _ _ rfl hbw)
              have hrem3 := HR gg
              have hmap3 : wr.heap[w.heap.size + 1 + 1]? = some (.map es2 ck2) := (hblk _ (by omega) (by omega)).trans B3
              have hown6 : wr.ownsRow w.heap.size 169 1 u7 (ns ++ news x.e.ks gg).length (pts (ns ++ news x.e.ks gg)) := by
                rw [← news_len x.e.ks gg, List.take_length] at hown2
                rw [List.length_append]
                exact hown2
              have hggl := (hgl hne).1
              have hnew : ∀ (j : Nat) (z : Nd), (ns ++ news x.e.ks gg)[j]? = some z → ns[j]? = some z ∨ z.b = gg := by
                intro j z hz
                by_cases hj : j < ns.length
                · rw [List.getElem?_append_left hj] at hz; exact .inl hz
                · rw [List.getElem?_append_right (by omega)] at hz
                  obtain ⟨ez, hez, rfl⟩ := news_of hz
                  exact .inr rfl
              have hdis3 : ∀ (j : Nat) (z : Nd), (ns ++ news x.e.ks gg)[j]? = some z → u7.ownBlock ≠ some z.b := by
                intro j z hz hq
                have hq := hob _ hq
                rcases hnew j z hz with h | h
                · have h1 := (HQ.out.at' j z h).1.2.2.2.1
                  rcases hq with h' | h'
                  · exact hdis j z h (by rw [h']; rfl)
                  · omega
                · omega
              have hdisB3 : ∀ (j : Nat) (z : Nd), (ns ++ news x.e.ks gg)[j]? = some z → z.b ≠ w.heap.size + 1 + 1 := by
                intro j z hz
                rcases hnew j z hz with h | h
                · exact hdisB j z h
                · omega
              have h003 : (ns ++ news x.e.ks gg)[0]? = some ⟨w.heap.size, 0, e⟩ := by
                rw [List.getElem?_append_left (by omega)]; exact h00
              have hlt3 : i + 1 ≤ (ns ++ news x.e.ks gg).length := by rw [List.length_append]; omega
              clear HQ HX HR HM hown2 hdis h00 hblk hgl hnew hC3 hG3 h3
              go_wp2
              exact ⟨⟨i + 1, _, _, es2, ck2, by simp, hlt3, hown6, h003, hQ3, hdis3, hdisB3, hmap3, hM3, hbw2, by omega⟩, by simp [intOf]; omega⟩
    · obtain rfl : i = ns.length := by omega
      obtain ⟨g, cap, rfl, _, _, hcap, hcm, hgl0, hgN, hp⟩ := pts_read hown h00
      unfold maxLen at hcm
      clear hp
      go_wp2
      refine bodyPost_ret (v := .slice (some ⟨g, 0, none⟩) ns.length cap) (by simp [results, Tryz.results115, go_sem]) rfl ⟨⟨_, rfl, ns, hang, hown, h00, hQ, hdis, hlen⟩, hb⟩
end Go.Proofs.YtaeibfipcenhaaaGreatDoor
