/- Own text. The contract of impl.TimesBag. -/
import Derived.Test.YtnbcmkbkiebbdaaTimesM
import Derived.Test.YtnbcmkbkiebbdaaCopyB
import Derived.Handy
namespace Go.Proofs.Ytnbcmkbkiebbdaa
open Go.RowKit Go.Deep
set_option linter.unusedVariables false
theorem rowsF_nil (w : World) : RowsF w (.slice none 0 0) [] [] := ⟨none, 0, [], rfl, Nat.le_refl _, by simp, fun _ => rfl, rfl, fun _ => rfl, fun x => absurd rfl x⟩
theorem own_nil (w : World) (N : Nat) : Own w N [] := by simp [Own, Free]
theorem wf_in {n : Int} (h : (Lit.int .i64 n).wf = true) : In64 n := by
  have := h
  simp only [Lit.wf, Bool.and_eq_true, decide_eq_true_eq] at this
  have e1 : IntKind.i64.min = -9223372036854775808 := by decide
  have e2 : IntKind.i64.max = 9223372036854775807 := by decide
  unfold In64
  omega
set_option maxHeartbeats 4000000 in
set_option maxRecDepth 100000 in
theorem implTimes_any (W n : Int) (v : Value) (cs : List C2) (F : List Nat) (w : World) (hw : CsWf cs) (hnw : In64 n) (hr : RowsF w v cs F) (hn : wtb cs ≤ 1048576) :
    Calls Try.prog 124 #[.agg #[.int .i64 W, v], .int .i64 n] w fun e w' => (∃ u F', e = .returned (.agg #[.int .i64 W, u]) ∧ RowsF w' u (timesC W n cs) F' ∧ Own w' w.heap.size F') ∧ Below w.heap.size w w' := by
  obtain ⟨av, lv, cv, rfl⟩ := hr.is.shape
  have hn1 : cs.length ≤ 1048576 := by unfold wtb at hn; omega
  go_enter Try.func124, Try.ntmps124
  go_wp2_with fail
  refine Calls.mono (copyBag_any W (.slice av lv cv) cs F _ (hr.below ?hb) hn) ?_
  case hb => repeat (first | (with_reducible exact Below.refl _ _) | (with_reducible refine Below.drew ?_) | (with_reducible refine Below.alloc ?_ ?hh _; case hh => first | (simp; done) | (simp; omega) | omega) | (with_reducible refine Below.setCell ?_ ?hh _; case hh => first | (simp; done) | (simp; omega) | omega) | refine bstep (by assumption) (by first | (simp; done) | (simp; omega) | omega) ?_)
  rintro e w2 ⟨⟨u2, us, G, rfl, hB2⟩, hb2⟩
  have hz2 := hb2.size
  simp only [World.size_alloc] at hz2 hB2
  obtain ⟨a2, c2, rfl⟩ := hB2.shape
  have b0 : w2.cell? ⟨w.heap.size, 0, none⟩ = some (.int .i64 W) := cell_later hb2 (by go_simp)
  have r0 : w2.cell? ⟨w.heap.size + 1, 0, none⟩ = some (.int .i64 0) := cell_later hb2 (by go_simp)
  have r1 : w2.cell? ⟨w.heap.size + 1, 1, none⟩ = some (.slice none 0 0) := cell_later hb2 (by go_simp)
  have rf : ∀ q, w2.frozen? ⟨w.heap.size + 1, q, none⟩ = false := fun q => ((bcell hb2).2 _ q (by simp)).trans (by go_simp)
  have bel2 : Below w.heap.size w w2 := by repeat (first | (with_reducible exact Below.refl _ _) | (with_reducible refine Below.drew ?_) | (with_reducible refine Below.alloc ?_ ?hh _; case hh => first | (simp; done) | (simp; omega) | omega) | (with_reducible refine Below.setCell ?_ ?hh _; case hh => first | (simp; done) | (simp; omega) | omega) | refine bstep (by assumption) (by first | (simp; done) | (simp; omega) | omega) ?_)
  have hB3 : BagOwn (w2.alloc (.cells #[.int .i64 W, .slice a2 cs.length c2] 26)) (w.heap.size + 1 + 1) (.slice a2 cs.length c2) (timesK n 0 cs) us G := by
    rw [timesK_zero]; exact hB2.below ((Below.refl _ _).alloc (Nat.le_refl _) _)
  have hob : ∀ b, (Value.slice a2 cs.length c2).ownBlock = some b → b < w2.heap.size := fun b hb => (ownsRow_lt hB2.own b hb).2
  clear hr hb2 hB2
  go_wp2
  go_loopw [15] (fun i wr => ∃ k : Nat, k ≤ cs.length ∧ i = .int .i64 k ∧ wr.cell? ⟨w.heap.size, 0, none⟩ = some (.int .i64 W) ∧ wr.cell? ⟨w2.heap.size, 0, none⟩ = some (.int .i64 W) ∧ wr.cell? ⟨w2.heap.size, 1, none⟩ = some (.slice a2 cs.length c2) ∧ wr.cell? ⟨w.heap.size + 1, 0, none⟩ = some (.int .i64 0) ∧ wr.cell? ⟨w.heap.size + 1, 1, none⟩ = some (.slice none 0 0) ∧ (∀ q, wr.frozen? ⟨w.heap.size + 1, q, none⟩ = false) ∧ BagOwn wr (w.heap.size + 1 + 1) (.slice a2 cs.length c2) (timesK n k cs) us G ∧ (∀ b, (Value.slice a2 cs.length c2).ownBlock = some b → b < w2.heap.size) ∧ Below w.heap.size w wr ∧ w2.heap.size < wr.heap.size ∧ (∀ x ∈ cs.take k, In64 (n * x.n))) (fun i _ => cs.length - (intOf i).toNat)
  case atStart =>
    refine ⟨0, Nat.zero_le _, rfl, (cell_blk (Below.heap_alloc _ _ _ (by omega))).trans b0, by go_simp, by go_simp, (cell_blk (Below.heap_alloc _ _ _ (by omega))).trans r0, (cell_blk (Below.heap_alloc _ _ _ (by omega))).trans r1, fun q => (frozen_blk (Below.heap_alloc _ _ _ (by omega))).trans (rf q), hB3, hob, by repeat (first | (with_reducible exact Below.refl _ _) | (with_reducible refine Below.drew ?_) | (with_reducible refine Below.alloc ?_ ?hh _; case hh => first | (simp; done) | (simp; omega) | omega) | (with_reducible refine Below.setCell ?_ ?hh _; case hh => first | (simp; done) | (simp; omega) | omega) | refine bstep (by assumption) (by first | (simp; done) | (simp; omega) | omega) ?_), by simp, by simp⟩
  case round =>
    obtain ⟨k, hk, rfl, c0, t0, t1, q0, q1, qf, hB, hob, hb, hzt, hin⟩ := hrel
    by_cases hlt : k < cs.length
    · obtain ⟨x, hx⟩ : ∃ x, cs[k]? = some x := ⟨cs[k], by simp [hlt]⟩
      obtain ⟨g, cap, x', ax, cx, hv, hx', d0, d1, df, hgl, hgN, hcl, hcm⟩ := hB.cells (k := k) (by rw [timesK_len]; exact hlt)
      obtain rfl : x = x' := by rw [timesK_at hx] at hx'; exact Option.some.inj hx'
      rw [timesK_len] at hv
      cases hv
      unfold maxLen at hcm
      rw [timesK_len] at hcl
      have hg2 : g < w2.heap.size := hob g rfl
      have hxw : In64 x.n := wf_in (hw x (List.mem_of_getElem? hx)).2
      have hxm : x ∈ cs := List.mem_of_getElem? hx
      have HX : Hid (cs[k]? = some x) := hx
      clear hx hx' hw
      go_wp2_with fail
      refine Calls.mono (mulInts_any x.n n _) ?_
      rintro e w4 ⟨p, t, rfl, hT, hb4⟩
      have hz4 := hb4.size
      simp only [World.size_alloc] at hz4
      have bel4 : Below wr.heap.size wr w4 := by repeat (first | (with_reducible exact Below.refl _ _) | (with_reducible refine Below.drew ?_) | (with_reducible refine Below.alloc ?_ ?hh _; case hh => first | (simp; done) | (simp; omega) | omega) | (with_reducible refine Below.setCell ?_ ?hh _; case hh => first | (simp; done) | (simp; omega) | omega) | refine bstep (by assumption) (by first | (simp; done) | (simp; omega) | omega) ?_)
      have c04 := ((bcell bel4).1 w.heap.size 0 (by omega)).trans c0
      have t04 := ((bcell bel4).1 w2.heap.size 0 (by omega)).trans t0
      have t14 := ((bcell bel4).1 w2.heap.size 1 (by omega)).trans t1
      have q04 := ((bcell bel4).1 (w.heap.size + 1) 0 (by omega)).trans q0
      have q14 := ((bcell bel4).1 (w.heap.size + 1) 1 (by omega)).trans q1
      have qf4 : ∀ q, w4.frozen? ⟨w.heap.size + 1, q, none⟩ = false := fun q => ((bcell bel4).2 _ q (by omega)).trans (qf q)
      have d14 := ((bcell bel4).1 g (k * 2 + 1) (by omega)).trans d1
      have df4 : ∀ q, w4.frozen? ⟨g, q, none⟩ = false := fun q => ((bcell bel4).2 _ q (by omega)).trans (df q)
      have hB4 := hB.below bel4
      have belw : Below w.heap.size w w4 := hb.trans (bel4.mono (by omega))
      clear hb4 hB c0 t0 t1 q0 q1 qf d0 d1 df b0 r0 r1 rf hB3
      cases t with
      | false =>
        have hno : ¬ In64 (x.n * n) := fun h => by
          have := mulO_in h hxw
          rw [hT] at this
          cases this
        have HC : Hid (timesC W n cs = []) := timesC_out hxm hno
        clear hT hno
        go_wp2
        refine bodyPost_ret (v := .agg #[.int .i64 W, .slice none 0 0]) (by simp [results, Try.results124, go_sem, *]) rfl ⟨⟨_, [], rfl, by rw [HC.out]; exact rowsF_nil _, own_nil _ _⟩, ?_⟩
        repeat (first | (with_reducible exact belw) | (with_reducible refine Below.setCell ?_ ?hh _; case hh => (simp; try omega)))
      | true =>
        obtain ⟨rfl, hin64⟩ := mulO_some hxw hnw hT
        have HB : Hid (BagOwn (w4.setCell ⟨g, k * 2 + 1, none⟩ (.int .i64 (x.n * n))) (w.heap.size + 1 + 1) (.slice (some ⟨g, 0, none⟩) cs.length c2) (timesK n (k + 1) cs) us G) := by
          show BagOwn _ _ _ _ _ _
          rw [timesK_step HX.out, Int.mul_comm n x.n]
          exact hB4.setN (timesK_at HX.out) _
        have hin2 : ∀ y ∈ cs.take (k + 1), In64 (n * y.n) := by
          intro y hy
          rw [take_snoc HX.out] at hy
          rcases List.mem_append.1 hy with hy | hy
          · exact hin y hy
          · rcases List.mem_singleton.1 hy with rfl
            rw [Int.mul_comm]; exact hin64
        clear hT hB4 hin
        generalize x.n * n = p at *
        go_wp2
        refine ⟨⟨k + 1, hlt, by simp, ?_, ?_, ?_, ?_, ?_, fun q => by simpa using qf4 q, HB.out, hob, belw.setCell (by simp; omega) _, by simp; omega, hin2⟩, by simp [intOf]; omega⟩
        · exact (World.cell?_setCell_far _ _ _ _ (by simp; omega)).trans c04
        · exact (World.cell?_setCell_far _ _ _ _ (by simp; omega)).trans t04
        · exact (World.cell?_setCell_far _ _ _ _ (by simp; omega)).trans t14
        · exact (World.cell?_setCell_far _ _ _ _ (by simp; omega)).trans q04
        · exact (World.cell?_setCell_far _ _ _ _ (by simp; omega)).trans q14
    · obtain rfl : k = cs.length := by omega
      rw [timesK_all] at hB
      rw [List.take_length] at hin
      obtain ⟨Fb, hRF, hOF⟩ := hB.rowsF
      have hwT : CsWf (timesL n cs) := by
        intro y hy
        obtain ⟨z, hz, rfl⟩ := List.mem_map.1 hy
        refine ⟨(hw z hz).1, ?_⟩
        have := hin z hz
        have e1 : IntKind.i64.min = -9223372036854775808 := by decide
        have e2 : IntKind.i64.max = 9223372036854775807 := by decide
        unfold In64 at this
        simp only [Lit.wf, Bool.and_eq_true, decide_eq_true_eq]
        omega
      clear hB3 hw hin hB
      go_wp2_with fail
      refine Calls.mono (implBagOk_any W (.slice a2 cs.length c2) (timesL n cs) _ hwT hRF.is) ?_
      rintro e w5 ⟨rfl, hb5⟩
      have hz5 := hb5.size
      have hR5 := hRF.below hb5
      have hO5 : Own w5 w.heap.size Fb := Own.below ⟨hOF.1, fun b hb => by have := hOF.2.1 b hb; omega, hOF.2.2⟩ hRF.lt hb5
      have hN5 : ∀ b ∈ Fb, b ≠ w.heap.size + 1 := fun b hb => by have := hOF.2.1 b hb; omega
      have c05 := ((bcell hb5).1 w.heap.size 0 (by omega)).trans c0
      have t05 := ((bcell hb5).1 w2.heap.size 0 (by omega)).trans t0
      have t15 := ((bcell hb5).1 w2.heap.size 1 (by omega)).trans t1
      have q05 := ((bcell hb5).1 (w.heap.size + 1) 0 (by omega)).trans q0
      have q15 := ((bcell hb5).1 (w.heap.size + 1) 1 (by omega)).trans q1
      have qf5 : ∀ q, w5.frozen? ⟨w.heap.size + 1, q, none⟩ = false := fun q => ((bcell hb5).2 _ q (by omega)).trans (qf q)
      have belw : Below w.heap.size w w5 := hb.trans (hb5.mono (by omega))
      clear hb5 c0 t0 t1 q0 q1 qf b0 r0 r1 rf hRF hOF
      cases hk5 : okBag W (timesL n cs) with
      | false =>
        have HC : Hid (timesC W n cs = []) := by show _ = _; unfold timesC; rw [hk5]; rfl
        clear hk5
        go_wp2
        refine bodyPost_ret (v := .agg #[.int .i64 W, .slice none 0 0]) (by simp [results, Try.results124, go_sem, *]) rfl ⟨⟨_, [], rfl, by rw [HC.out]; exact rowsF_nil _, own_nil _ _⟩, ?_⟩
        repeat (first | (with_reducible exact belw) | (with_reducible refine Below.setCell ?_ ?hh _; case hh => (simp; try omega)))
      | true =>
        have HC : Hid (timesC W n cs = timesL n cs) := by show _ = _; unfold timesC; rw [hk5]; rfl
        clear hk5
        go_wp2
        refine bodyPost_ret (v := .agg #[.int .i64 W, .slice a2 cs.length c2]) (by simp [results, Try.results124, go_sem, *]) rfl ⟨⟨_, Fb, rfl, ?_, ?_⟩, ?_⟩
        · rw [HC.out]
          refine hR5.keep (by simp) fun b hb => ?_
          repeat rw [Below.heap_setCell _ _ _ _ (hN5 b hb)]
        · refine hO5.keep fun b hb => ?_
          repeat rw [Below.heap_setCell _ _ _ _ (hN5 b hb)]
        · repeat (first | (with_reducible exact belw) | (with_reducible refine Below.setCell ?_ ?hh _; case hh => (simp; try omega)))
end Go.Proofs.Ytnbcmkbkiebbdaa
