/- Own text. The contract of spec.TimesBag. -/
import Derived.Test.YtnbcmkbkiebbdaaTimesI
import Derived.Test.YtnbcmkbkiebbdaaBagOkS
import Derived.Test.YtnbcmkbkiebbdaaLastE
import Derived.Handy
import Derived.Deep.DrawnRows
namespace Go.Proofs.Ytnbcmkbkiebbdaa
open Go.RowKit Go.Deep
set_option linter.unusedVariables false
attribute [local go_sem ↓] Go.wp_at_zero Go.wp_at_succ
/-- the rows where it is a bag, none where it is not. -/
def rightV (k : Bool) (v : Value) : Value := if k = true then v else .slice none 0 0
set_option maxHeartbeats 1000000 in
set_option maxRecDepth 100000 in
theorem l02Right_any (W : Int) (v : Value) (cs : List C2) (w : World) (hw : CsWf cs) (hr : RowsIs w v cs) :
    Calls Try.prog 69 #[.agg #[.int .i64 W, v]] w fun e w' => e = .returned (.agg #[.int .i64 W, rightV (okBag W cs) v]) ∧ Below w.heap.size w w' := by
  obtain ⟨a, l, c, rfl⟩ := hr.shape
  go_enter Try.func69, Try.ntmps69
  go_wp2_with fail
  refine Calls.mono (specBagOk_any W (.slice a l c) cs _ hw (hr.below ?hb)) ?_
  case hb => repeat (first | (with_reducible exact Below.refl _ _) | (with_reducible refine Below.drew ?_) | (with_reducible refine Below.alloc ?_ ?hh _; case hh => first | (simp; done) | (simp; omega) | omega) | (with_reducible refine Below.setCell ?_ ?hh _; case hh => first | (simp; done) | (simp; omega) | omega) | refine bstep (by assumption) (by first | (simp; done) | (simp; omega) | omega) ?_)
  rintro e w2 ⟨rfl, hb2⟩
  have hz2 := hb2.size
  simp only [World.size_alloc] at hz2
  have b0 : w2.cell? ⟨w.heap.size, 0, none⟩ = some (.int .i64 W) := cell_later hb2 (by go_simp)
  have b1 : w2.cell? ⟨w.heap.size, 1, none⟩ = some (.slice a l c) := cell_later hb2 (by go_simp)
  have r0 : w2.cell? ⟨w.heap.size + 1, 0, none⟩ = some (.int .i64 0) := cell_later hb2 (by go_simp)
  have r1 : w2.cell? ⟨w.heap.size + 1, 1, none⟩ = some (.slice none 0 0) := cell_later hb2 (by go_simp)
  have rf : ∀ q, w2.frozen? ⟨w.heap.size + 1, q, none⟩ = false := fun q => ((bcell hb2).2 _ q (by simp)).trans (by go_simp)
  have bel2 : Below w.heap.size w w2 := by repeat (first | (with_reducible exact Below.refl _ _) | (with_reducible refine Below.drew ?_) | (with_reducible refine Below.alloc ?_ ?hh _; case hh => first | (simp; done) | (simp; omega) | omega) | (with_reducible refine Below.setCell ?_ ?hh _; case hh => first | (simp; done) | (simp; omega) | omega) | refine bstep (by assumption) (by first | (simp; done) | (simp; omega) | omega) ?_)
  clear hb2 hr
  cases hk : okBag W cs with
  | false =>
    have HK : Hid (okBag W cs = false) := hk
    clear hk
    go_wp2
    refine bodyPost_ret (v := .agg #[.int .i64 W, .slice none 0 0]) (by simp [results, Try.results69, go_sem, *]) rfl ⟨by rw [HK.out]; rfl, ?_⟩
    repeat (first | (with_reducible exact bel2) | (with_reducible refine Below.setCell ?_ ?hh _; case hh => (simp; try omega)))
  | true =>
    have HK : Hid (okBag W cs = true) := hk
    clear hk
    go_wp2
    refine bodyPost_ret (v := .agg #[.int .i64 W, .slice a l c]) (by simp [results, Try.results69, go_sem, *]) rfl ⟨by rw [HK.out]; rfl, ?_⟩
    repeat (first | (with_reducible exact bel2) | (with_reducible refine Below.setCell ?_ ?hh _; case hh => (simp; try omega)))
theorem timesC_zero {W n : Int} {cs : List C2} (h : n = 0) : timesC W n cs = [] := by
  unfold timesC
  split
  · rename_i hk
    cases cs with
    | nil => rfl
    | cons x xs => exact absurd h ((okBag_times hk).2 x List.mem_cons_self).1
  · rfl
theorem timesC_no {W n : Int} {cs : List C2} {x : C2} (hx : x ∈ cs) (h : ¬ (okBag W cs = true ∧ -1000000000 ≤ n ∧ n ≤ 1000000000)) : timesC W n cs = [] := by
  unfold timesC
  split
  · rename_i hk
    have h1 := okBag_times hk
    have h2 := h1.2 x hx
    exact absurd ⟨h1.1, h2.2.1, h2.2.2⟩ h
  · rfl
theorem okBag_mem {W : Int} {cs : List C2} (h : okBag W cs = true) : ∀ x ∈ cs, -1000000000 ≤ x.n ∧ x.n ≤ 1000000000 := by
  simp only [okBag, Bool.and_eq_true] at h
  have hN : ∀ {cs : List C2} {p : Option C2}, okCs W p cs = true → ∀ x ∈ cs, okN x.n = true := by
    intro cs
    induction cs with
    | nil => intro p _ x hx; cases hx
    | cons y ys ih =>
      intro p h x hx
      simp only [okCs, Bool.and_eq_true] at h
      rcases List.mem_cons.1 hx with rfl | hx
      · exact h.1.1.2
      · exact ih h.2 x hx
  intro x hx
  have := hN h.2 x hx
  simp only [okN, Bool.and_eq_true, decide_eq_true_eq] at this
  omega
theorem mul_bd {a b : Int} (h : -1000000000 ≤ a ∧ a ≤ 1000000000) (k : -1000000000 ≤ b ∧ b ≤ 1000000000) : -1000000000000000000 ≤ a * b ∧ a * b ≤ 1000000000000000000 := by
  have e : (a * b).natAbs = a.natAbs * b.natAbs := Int.natAbs_mul a b
  have h1 : a.natAbs * b.natAbs ≤ 1000000000 * 1000000000 := Nat.mul_le_mul (by omega) (by omega)
  generalize a * b = p at *
  omega
set_option maxHeartbeats 4000000 in
set_option maxRecDepth 100000 in
theorem specTimesO_any (W n : Int) (v : Value) (cs : List C2) (F : List Nat) (w : World) (hw : CsWf cs) (hr : RowsF w v cs F) (hn : wtb cs ≤ 1048576) :
    Calls Try.prog 123 #[.agg #[.int .i64 W, v], .int .i64 n] w fun e w' => (∃ u F', e = .returned (.agg #[.int .i64 W, u]) ∧ RowsF w' u (timesC W n cs) F' ∧ Own w' w.heap.size F') ∧ Below w.heap.size w w' := by
  obtain ⟨i0, hi, hz0, hz1, hz2⟩ := info_parts Try.infoCnt
  have hr0 := hr
  obtain ⟨a, c, b, o, G0, rfl, hl, hc, _, hG0, _, hC, ha⟩ := hr.pick
  unfold maxLen at hc
  clear hr
  have hn1 : cs.length ≤ 1048576 := by unfold wtb at hn; omega
  go_enter Try.func123, Try.ntmps123
  go_wp2
  go_loopw [6] (fun i wr => ∃ (k : Nat) (y : Value) (us : List Value) (G : List (List Nat)), k ≤ cs.length ∧ i = .int .i64 k ∧ wr.cell? ⟨w.heap.size, 0, none⟩ = some (.int .i64 W) ∧ wr.cell? ⟨w.heap.size, 1, none⟩ = some (.slice a cs.length c) ∧ wr.cell? ⟨w.heap.size + 1 + 1, 0, none⟩ = some (.int .i64 W) ∧ wr.cell? ⟨w.heap.size + 1 + 1, 1, none⟩ = some y ∧ (∀ q, wr.frozen? ⟨w.heap.size + 1 + 1, q, none⟩ = false) ∧ wr.cell? ⟨w.heap.size + 1, 0, none⟩ = some (.int .i64 0) ∧ wr.cell? ⟨w.heap.size + 1, 1, none⟩ = some (.slice none 0 0) ∧ (∀ q, wr.frozen? ⟨w.heap.size + 1, q, none⟩ = false) ∧ BagOwn wr (w.heap.size + 1 + 1 + 1) y (timesL n (cs.take k)) us G ∧ Below w.heap.size w wr ∧ w.heap.size + 1 + 1 + 1 ≤ wr.heap.size ∧ (0 < k → n ≠ 0 ∧ okBag W cs = true ∧ -1000000000 ≤ n ∧ n ≤ 1000000000)) (fun i _ => cs.length - (intOf i).toNat)
  case atStart =>
    refine ⟨0, .slice none 0 0, [], [], Nat.zero_le _, rfl, by go_simp, by go_simp, by go_simp, by go_simp, fun q => by go_simp, by go_simp, by go_simp, fun q => by go_simp, by simpa [timesL] using BagOwn.nil _ _, by repeat (first | (with_reducible exact Below.refl _ _) | (with_reducible refine Below.drew ?_) | (with_reducible refine Below.alloc ?_ ?hh _; case hh => first | (simp; done) | (simp; omega) | omega) | (with_reducible refine Below.setCell ?_ ?hh _; case hh => first | (simp; done) | (simp; omega) | omega) | refine bstep (by assumption) (by first | (simp; done) | (simp; omega) | omega) ?_), by simp, by omega⟩
  case round =>
    obtain ⟨k, y, us, G, hk, rfl, b0, b1, p0, p1, pf, r0, r1, rf, hB, hb, hzb, hok⟩ := hrel
    have hrr : RowsF wr (.slice a cs.length c) cs F := hr0.below hb
    obtain ⟨ay, cy, rfl⟩ := hB.shape
    by_cases hlt : k < cs.length ∧ n ≠ 0
    · obtain ⟨hlt, hnz⟩ := hlt
      have hnz' : (n != 0) = true := by simpa using hnz
      obtain ⟨rfl, hblt, _⟩ := ha k hlt
      obtain ⟨x, u0, g0, hx, _, c0, hR, c1, hbr⟩ := hC.at hG0 hblt hb hlt
      have hxm : x ∈ cs := List.mem_of_getElem? hx
      -- where the answer is none: the rows so far are none
      have hnone : ¬ (okBag W cs = true ∧ -1000000000 ≤ n ∧ n ≤ 1000000000) → timesC W n cs = [] ∧ timesL n (cs.take k) = [] := fun h => by
        refine ⟨timesC_no hxm h, ?_⟩
        rcases Nat.eq_zero_or_pos k with e | e
        · subst e; rfl
        · exact absurd (hok e).2 h
      go_wp2_with fail
      refine Calls.mono (specBagOk_any W (.slice (some ⟨b, o, none⟩) cs.length c) cs wr hw hrr.is) ?_
      rintro e w3 ⟨rfl, hb3⟩
      have hz3 := hb3.size
      cases hkb : okBag W cs with
      | false =>
        have HC : Hid (timesC W n cs = timesL n (cs.take k)) := by
          have := hnone (by rw [hkb]; simp)
          show _ = _
          rw [this.1, this.2]
        obtain ⟨Fe, hRe0, hOe⟩ := hB.rowsF
        have hRe := hRe0.below hb3
        have hOf : Own w3 w.heap.size Fe := Own.below ⟨hOe.1, fun b hb => by have := hOe.2.1 b hb; omega, hOe.2.2⟩ hRe0.lt hb3
        have hNe : ∀ b ∈ Fe, b ≠ w.heap.size + 1 := fun b hb => by have := hOe.2.1 b hb; omega
        have belE : Below w.heap.size w w3 := hb.trans (hb3.mono (by omega))
        have b03 := ((bcell hb3).1 w.heap.size 0 (by omega)).trans b0
        have b13 := ((bcell hb3).1 w.heap.size 1 (by omega)).trans b1
        have p03 := ((bcell hb3).1 (w.heap.size + 1 + 1) 0 (by omega)).trans p0
        have p13 := ((bcell hb3).1 (w.heap.size + 1 + 1) 1 (by omega)).trans p1
        have r03 := ((bcell hb3).1 (w.heap.size + 1) 0 (by omega)).trans r0
        have r13 := ((bcell hb3).1 (w.heap.size + 1) 1 (by omega)).trans r1
        have pf3 : ∀ q, w3.frozen? ⟨w.heap.size + 1 + 1, q, none⟩ = false := fun q => ((bcell hb3).2 _ q (by omega)).trans (pf q)
        have rf3 : ∀ q, w3.frozen? ⟨w.heap.size + 1, q, none⟩ = false := fun q => ((bcell hb3).2 _ q (by omega)).trans (rf q)
        clear hkb hnone hok hB hRe0 hOe hb3 b0 b1 p0 p1 pf r0 r1 rf c0 c1 ha hC hrr hx hw
        · go_wp2
          refine bodyPost_ret (v := .agg #[.int .i64 W, .slice ay (timesL n (cs.take k)).length cy]) (by simp [results, Try.results123, go_sem, *]) rfl ⟨⟨_, Fe, rfl, ?_, ?_⟩, ?_⟩
          · rw [HC.out]
            refine hRe.keep (by simp) fun b hb => ?_
            repeat rw [Below.heap_setCell _ _ _ _ (hNe b hb)]
          · refine hOf.keep fun b hb => ?_
            repeat rw [Below.heap_setCell _ _ _ _ (hNe b hb)]
          · repeat (first | (with_reducible exact belE) | (with_reducible refine Below.setCell ?_ ?hh _; case hh => (simp; try omega)))
      | true =>
        have hb3' := hb3
        have b03 := ((bcell hb3).1 w.heap.size 0 (by omega)).trans b0
        have b13 := ((bcell hb3).1 w.heap.size 1 (by omega)).trans b1
        have p03 := ((bcell hb3).1 (w.heap.size + 1 + 1) 0 (by omega)).trans p0
        have p13 := ((bcell hb3).1 (w.heap.size + 1 + 1) 1 (by omega)).trans p1
        have r03 := ((bcell hb3).1 (w.heap.size + 1) 0 (by omega)).trans r0
        have r13 := ((bcell hb3).1 (w.heap.size + 1) 1 (by omega)).trans r1
        have pf3 : ∀ q, w3.frozen? ⟨w.heap.size + 1 + 1, q, none⟩ = false := fun q => ((bcell hb3).2 _ q (by omega)).trans (pf q)
        have rf3 : ∀ q, w3.frozen? ⟨w.heap.size + 1, q, none⟩ = false := fun q => ((bcell hb3).2 _ q (by omega)).trans (rf q)
        have c03 := ((bcell hb3).1 b (o + k * 2) (by omega)).trans c0
        have c13 := ((bcell hb3).1 b (o + k * 2 + 1) (by omega)).trans c1
        have hB3 := hB.below hb3
        have bel3 : Below w.heap.size w w3 := hb.trans (hb3.mono (by omega))
        have hR3 := hR.below hb3
        have HKB : Hid (okBag W cs = true) := hkb
        clear hb3 b0 b1 p0 p1 pf r0 r1 rf c0 c1 hB hkb hR
        go_wp2_with fail
        refine Calls.mono (l01In_any n (-1000000000) 1000000000 w3) ?_
        rintro e w4 ⟨rfl, hb4⟩
        have hz4 := hb4.size
        have b04 := ((bcell hb4).1 w.heap.size 0 (by omega)).trans b03
        have b14 := ((bcell hb4).1 w.heap.size 1 (by omega)).trans b13
        have p04 := ((bcell hb4).1 (w.heap.size + 1 + 1) 0 (by omega)).trans p03
        have p14 := ((bcell hb4).1 (w.heap.size + 1 + 1) 1 (by omega)).trans p13
        have r04 := ((bcell hb4).1 (w.heap.size + 1) 0 (by omega)).trans r03
        have r14 := ((bcell hb4).1 (w.heap.size + 1) 1 (by omega)).trans r13
        have pf4 : ∀ q, w4.frozen? ⟨w.heap.size + 1 + 1, q, none⟩ = false := fun q => ((bcell hb4).2 _ q (by omega)).trans (pf3 q)
        have rf4 : ∀ q, w4.frozen? ⟨w.heap.size + 1, q, none⟩ = false := fun q => ((bcell hb4).2 _ q (by omega)).trans (rf3 q)
        have c04 := ((bcell hb4).1 b (o + k * 2) (by omega)).trans c03
        have c14 := ((bcell hb4).1 b (o + k * 2 + 1) (by omega)).trans c13
        have hB4 := hB3.below hb4
        have bel4 : Below w.heap.size w w4 := bel3.trans (hb4.mono (by omega))
        have hR4 := hR3.below hb4
        clear hb4 b03 b13 p03 p13 pf3 r03 r13 rf3 c03 c13 hB3 hR3
        by_cases hrg : -1000000000 ≤ n ∧ n ≤ 1000000000
        rotate_left
        · have hdc : (decide (-1000000000 ≤ n) && decide (n ≤ 1000000000)) = false := by simp; omega
          have HC : Hid (timesC W n cs = timesL n (cs.take k)) := by
            have := hnone (fun h => hrg h.2)
            show _ = _
            rw [this.1, this.2]
          obtain ⟨Fe, hRe, hOe⟩ := hB4.rowsF
          have hOf : Own w4 w.heap.size Fe := ⟨hOe.1, fun b hb => by have := hOe.2.1 b hb; omega, hOe.2.2⟩
          have hNe : ∀ b ∈ Fe, b ≠ w.heap.size + 1 := fun b hb => by have := hOe.2.1 b hb; omega
          have belE := bel4
          clear hnone hok hB4 hOe ha hC hrr hx hw hrg
          go_wp2
          refine bodyPost_ret (v := .agg #[.int .i64 W, .slice ay (timesL n (cs.take k)).length cy]) (by simp [results, Try.results123, go_sem, *]) rfl ⟨⟨_, Fe, rfl, ?_, ?_⟩, ?_⟩
          · rw [HC.out]
            refine hRe.keep (by simp) fun b hb => ?_
            repeat rw [Below.heap_setCell _ _ _ _ (hNe b hb)]
          · refine hOf.keep fun b hb => ?_
            repeat rw [Below.heap_setCell _ _ _ _ (hNe b hb)]
          · repeat (first | (with_reducible exact belE) | (with_reducible refine Below.setCell ?_ ?hh _; case hh => (simp; try omega)))
        · have hdc : (decide (-1000000000 ≤ n) && decide (n ≤ 1000000000)) = true := by simp; omega
          have hxb := okBag_mem HKB.out x hxm
          have hmb := mul_bd hrg hxb
          have hwr : IntKind.i64.wrap (n * x.n) = n * x.n := by rw [IntKind.wrap_i64]; omega
          have hxn : x.r.length ≤ 1048576 := by have := wt_mem hxm; unfold wt at this; unfold wtb at hn; omega
          have HT : Hid (timesL n (cs.take (k + 1)) = timesL n (cs.take k) ++ [⟨x.r, n * x.n⟩]) := by show _ = _; rw [take_snoc hx]; simp [timesL]
          have htl : (timesL n (cs.take k)).length = k := by rw [timesL_len]; simp; omega
          obtain ⟨a0, n0, rfl⟩ := hR4.shape
          have HOK : Hid (n ≠ 0 ∧ okBag W cs = true ∧ -1000000000 ≤ n ∧ n ≤ 1000000000) := ⟨hnz, HKB.out, hrg⟩
          generalize timesL n (cs.take k) = ct at *
          have hml : ct.length + 1 ≤ maxLen := by unfold maxLen; omega
          have hby : (ct.length + 1) * 32 ≤ 140737488355328 := by omega
          have hv : ∀ q, q < w.heap.size + 1 + 1 + 1 → (Value.slice ay ct.length cy).ownBlock ≠ some q := fun q hq e => by have := (ownsRow_lt hB4.own _ e).1; omega
          have b0 := b04
          have b1 := b14
          have p0 := p04
          have p1 := p14
          have pf := pf4
          have r0 := r04
          have r1 := r14
          have rf := rf4
          have c0 := c04
          have c1 := c14
          have hB := hB4
          have hR := hR4
          clear b04 b14 p04 p14 pf4 r04 r14 rf4 c04 c14 hB4 hR4
          clear hnone hok ha hC hrr hx hw hrg htl
          go_wp2_with fail
          -- region
          refine startE 21 (fun w' => w'.cell? ⟨w.heap.size + 1 + 1, 1, none⟩ = some (.slice ay ct.length cy) ∧ w'.cell? ⟨w.heap.size, 1, none⟩ = some (.slice (some ⟨b, o, none⟩) cs.length c) ∧ w'.cell? ⟨b, o + k * 2, none⟩ = some (.slice a0 x.r.length n0) ∧ w'.cell? ⟨b, o + k * 2 + 1, none⟩ = some (.int .i64 x.n)) (by kernel_rfl) ?_ (fun hHeld => ?_)
          · (try dsimp only)
            exact ⟨p1, b1, c0, c1⟩
          refine takeE (i := 0) (d := 30) (v := ?_) rfl rfl (by kernel_rfl) (by kernel_rfl) (by kernel_rfl) (by kernel_rfl) (fun _ _ _ h => h) (by rfl) (by assumption) ?_ ?_
          rotate_left
          · intro w' hSw; (try dsimp only at hSw); go_simp; try exact rfl
          try simp only [List.setIfInBounds_toArray, List.set_cons_zero, List.set_cons_succ]
          refine takeE (i := 1) (d := 31) (v := ?_) rfl rfl (by kernel_rfl) (by kernel_rfl) (by kernel_rfl) (by kernel_rfl) (fun _ _ _ h => h) (by rfl) (by assumption) ?_ ?_
          rotate_left
          · intro w' hSw; (try dsimp only at hSw); go_simp; try exact rfl
          try simp only [List.setIfInBounds_toArray, List.set_cons_zero, List.set_cons_succ]
          refine takeE (i := 2) (d := 32) (v := ?_) rfl rfl (by kernel_rfl) (by kernel_rfl) (by kernel_rfl) (by kernel_rfl) (fun _ _ _ h => h) (by rfl) (by assumption) ?_ ?_
          rotate_left
          · intro w' hSw; (try dsimp only at hSw); go_simp; try exact rfl
          try simp only [List.setIfInBounds_toArray, List.set_cons_zero, List.set_cons_succ]
          refine takeE (i := 3) (d := 33) (v := ?_) rfl rfl (by kernel_rfl) (by kernel_rfl) (by kernel_rfl) (by kernel_rfl) (fun _ _ _ h => h) (by rfl) (by assumption) ?_ ?_
          rotate_left
          · intro w' hSw; (try dsimp only at hSw); go_simp; try exact rfl
          try simp only [List.setIfInBounds_toArray, List.set_cons_zero, List.set_cons_succ]
          refine takeE (i := 4) (d := 34) (v := ?_) rfl rfl (by kernel_rfl) (by kernel_rfl) (by kernel_rfl) (by kernel_rfl) (fun _ _ _ h => h) (by rfl) (by assumption) ?_ ?_
          rotate_left
          · intro w' hSw; (try dsimp only at hSw); go_simp; try exact rfl
          try simp only [List.setIfInBounds_toArray, List.set_cons_zero, List.set_cons_succ]
          refine takeE (i := 5) (d := 35) (v := ?_) rfl rfl (by kernel_rfl) (by kernel_rfl) (by kernel_rfl) (by kernel_rfl) (fun _ _ _ h => h) (by rfl) (by assumption) ?_ ?_
          rotate_left
          · intro w' hSw; (try dsimp only at hSw); go_simp; try exact rfl
          try simp only [List.setIfInBounds_toArray, List.set_cons_zero, List.set_cons_succ]
          refine takeE (i := 6) (d := 36) (v := ?_) rfl rfl (by kernel_rfl) (by kernel_rfl) (by kernel_rfl) (by kernel_rfl) (fun _ _ _ h => h) (by rfl) (by assumption) ?_ ?_
          rotate_left
          · intro w' hSw; (try dsimp only at hSw); go_simp; try exact rfl
          try simp only [List.setIfInBounds_toArray, List.set_cons_zero, List.set_cons_succ]
          refine takeE (i := 7) (d := 37) (v := ?_) rfl rfl (by kernel_rfl) (by kernel_rfl) (by kernel_rfl) (by kernel_rfl) (fun _ _ _ h => h) (by rfl) (by assumption) ?_ ?_
          rotate_left
          · intro w' hSw; (try dsimp only at hSw); go_simp; try exact rfl
          try simp only [List.setIfInBounds_toArray, List.set_cons_zero, List.set_cons_succ]
          refine takeE (i := 9) (d := 39) (v := ?_) rfl rfl (by kernel_rfl) (by kernel_rfl) (by kernel_rfl) (by kernel_rfl) (fun _ _ _ h => h) (by rfl) (by assumption) ?_ ?_
          rotate_left
          · intro w' hSw; (try dsimp only at hSw); go_simp; try exact rfl
          try simp only [List.setIfInBounds_toArray, List.set_cons_zero, List.set_cons_succ]
          refine takeE (i := 10) (d := 40) (v := ?_) rfl rfl (by kernel_rfl) (by kernel_rfl) (by kernel_rfl) (by kernel_rfl) (fun _ _ _ h => h) (by rfl) (by assumption) ?_ ?_
          rotate_left
          · intro w' hSw; (try dsimp only at hSw); go_simp; try exact rfl
          try simp only [List.setIfInBounds_toArray, List.set_cons_zero, List.set_cons_succ]
          refine takeE (i := 11) (d := 41) (v := ?_) rfl rfl (by kernel_rfl) (by kernel_rfl) (by kernel_rfl) (by kernel_rfl) (fun _ _ _ h => h) (by rfl) (by assumption) ?_ ?_
          rotate_left
          · intro w' hSw; (try dsimp only at hSw); go_simp; try exact rfl
          try simp only [List.setIfInBounds_toArray, List.set_cons_zero, List.set_cons_succ]
          refine takeE (i := 12) (d := 42) (v := ?_) rfl rfl (by kernel_rfl) (by kernel_rfl) (by kernel_rfl) (by kernel_rfl) (fun _ _ _ h => h) (by rfl) (by assumption) ?_ ?_
          rotate_left
          · intro w' hSw; (try dsimp only at hSw); go_simp; try exact rfl
          try simp only [List.setIfInBounds_toArray, List.set_cons_zero, List.set_cons_succ]
          refine takeE (i := 13) (d := 43) (v := ?_) rfl rfl (by kernel_rfl) (by kernel_rfl) (by kernel_rfl) (by kernel_rfl) (fun _ _ _ h => h) (by rfl) (by assumption) ?_ ?_
          rotate_left
          · intro w' hSw; (try dsimp only at hSw); go_simp; try exact rfl
          try simp only [List.setIfInBounds_toArray, List.set_cons_zero, List.set_cons_succ]
          refine takeE (i := 14) (d := 44) (v := ?_) rfl rfl (by kernel_rfl) (by kernel_rfl) (by kernel_rfl) (by kernel_rfl) (fun _ _ _ h => h) (by rfl) (by assumption) ?_ ?_
          rotate_left
          · intro w' hSw; (try dsimp only at hSw); go_simp; try exact rfl
          try simp only [List.setIfInBounds_toArray, List.set_cons_zero, List.set_cons_succ]
          refine takeE (i := 15) (d := 45) (v := ?_) rfl rfl (by kernel_rfl) (by kernel_rfl) (by kernel_rfl) (by kernel_rfl) (fun _ _ _ h => h) (by rfl) (by assumption) ?_ ?_
          rotate_left
          · intro w' hSw; (try dsimp only at hSw); go_simp; try exact rfl
          try simp only [List.setIfInBounds_toArray, List.set_cons_zero, List.set_cons_succ]
          refine takeE (i := 16) (d := 46) (v := ?_) rfl rfl (by kernel_rfl) (by kernel_rfl) (by kernel_rfl) (by kernel_rfl) (fun _ _ _ h => h) (by rfl) (by assumption) ?_ ?_
          rotate_left
          · intro w' hSw; (try dsimp only at hSw); go_simp; try exact rfl
          try simp only [List.setIfInBounds_toArray, List.set_cons_zero, List.set_cons_succ]
          refine oneE (i := 8) (by kernel_rfl) rfl (fun K hK => ?_)
          go_simp
          go_at_call 130
          refine Calls.mono (l02CopyRow_any (.slice a0 x.r.length n0) x.r g0 _ (hR.below ?hbb) hxn) ?_
          case hbb => repeat (first | (with_reducible exact Below.refl _ _) | (with_reducible refine Below.drew ?_) | (with_reducible refine Below.alloc ?_ ?hh _; case hh => first | (simp; done) | (simp; omega) | omega) | (with_reducible refine Below.setCell ?_ ?hh _; case hh => first | (simp; done) | (simp; omega) | omega) | refine bstep (by assumption) (by first | (simp; done) | (simp; omega) | omega) ?_)
          rintro e w5 ⟨⟨u5, g5, rfl, hR5, hO5⟩, hb5⟩
          obtain ⟨a5, n5, rfl⟩ := hR5.shape
          have hz5 := hb5.size
          rw [show w4.drew.heap.size = w4.heap.size from rfl] at hz5
          have bel5 : Below w4.heap.size w4 w5 := by repeat (first | (with_reducible exact Below.refl _ _) | (with_reducible refine Below.drew ?_) | (with_reducible refine Below.alloc ?_ ?hh _; case hh => first | (simp; done) | (simp; omega) | omega) | (with_reducible refine Below.setCell ?_ ?hh _; case hh => first | (simp; done) | (simp; omega) | omega) | refine bstep (by assumption) (by first | (simp; done) | (simp; omega) | omega) ?_)
          have hB5 := hB.below bel5
          have p05 := ((bcell bel5).1 (w.heap.size + 1 + 1) 0 (by omega)).trans p0
          have p15 := ((bcell bel5).1 (w.heap.size + 1 + 1) 1 (by omega)).trans p1
          have pf5 : ∀ q, w5.frozen? ⟨w.heap.size + 1 + 1, q, none⟩ = false := fun q => ((bcell bel5).2 _ q (by omega)).trans (pf q)
          have r05 := ((bcell bel5).1 (w.heap.size + 1) 0 (by omega)).trans r0
          have r15 := ((bcell bel5).1 (w.heap.size + 1) 1 (by omega)).trans r1
          have rf5 : ∀ q, w5.frozen? ⟨w.heap.size + 1, q, none⟩ = false := fun q => ((bcell bel5).2 _ q (by omega)).trans (rf q)
          have b05 := ((bcell bel5).1 w.heap.size 0 (by omega)).trans b0
          have b15 := ((bcell bel5).1 w.heap.size 1 (by omega)).trans b1
          have c05 := ((bcell bel5).1 b (o + k * 2) (by omega)).trans c0
          have c15 := ((bcell bel5).1 b (o + k * 2 + 1) (by omega)).trans c1
          try go_wp2_with fail
          refine hK.out _ _ ?_ (fun hHeld8 => ?_)
          · intro _
            (try dsimp only)
            exact ⟨p15, b15, c05, c15⟩
          clear hK
          replace hHeld8 := hHeld8 (by decide)
          try simp only [List.setIfInBounds_toArray, List.set_cons_zero, List.set_cons_succ]
          refine takeE (i := 17) (d := 47) (v := ?_) rfl rfl (by kernel_rfl) (by kernel_rfl) (by kernel_rfl) (by kernel_rfl) (fun _ _ _ h => h) (by rfl) (by assumption) ?_ ?_
          rotate_left
          · intro w' hSw; (try dsimp only at hSw); go_simp; try exact rfl
          try simp only [List.setIfInBounds_toArray, List.set_cons_zero, List.set_cons_succ]
          refine oneE (i := 18) (by kernel_rfl) rfl (fun K hK => ?_)
          go_simp
          refine hK.out _ _ ?_ (fun hHeld18 => ?_)
          · intro _
            (try dsimp only)
            exact ⟨(cell_blk (Below.heap_alloc w5 _ _ (by omega))).trans p15, (cell_blk (Below.heap_alloc w5 _ _ (by omega))).trans b15, (cell_blk (Below.heap_alloc w5 _ _ (by omega))).trans c05, (cell_blk (Below.heap_alloc w5 _ _ (by omega))).trans c15⟩
          clear hK
          replace hHeld18 := hHeld18 (by decide)
          try simp only [List.setIfInBounds_toArray, List.set_cons_zero, List.set_cons_succ]
          refine oneE (i := 19) (by kernel_rfl) rfl (fun K hK => ?_)
          refine step_append_lies _ (by rfl) _ _ _ (by rfl) (w.heap.size + 1 + 1 + 1) 158 i0 _ 2 32 Try.underlying24 hi hz0 hz1 hz2 rfl (by omega) (.slice ay ct.length cy) ct.length (cc us ct) (by rfl) (hB5.own.alloc _) ⟨w5.heap.size, 0, none⟩ 1 1 [.slice a5 x.r.length n5, .int .i64 (n * x.n)] (by rfl) (by rfl) (World.news_of_block (cs := #[.slice a5 x.r.length n5, .int .i64 (n * x.n)]) (t := 158) (fr := (0, 0)) (heap_alloc_new w5 _)) (by simp [Value.oneCell']) (by omega) hml hby (by simp; omega) (w5.heap.size + 1) (by simp) ?_
          intro gg cap w6 hown6 hgrow hat hlt6
          have hz6 := hgrow.size
          simp at hz6
          have far : ∀ b q, b < w5.heap.size → (Value.slice ay ct.length cy).ownBlock ≠ some b → w6.cell? ⟨b, q, none⟩ = w5.cell? ⟨b, q, none⟩ := fun b q hb hne => (hgrow.cell_far _ (by simp; omega) (Ne.symm hne)).trans (cell_blk (Below.heap_alloc _ _ _ hb))
          have farf : ∀ b q, b < w5.heap.size → (Value.slice ay ct.length cy).ownBlock ≠ some b → w6.frozen? ⟨b, q, none⟩ = w5.frozen? ⟨b, q, none⟩ := fun b q hb hne => (hgrow.frozen_far _ (by simp; omega) (Ne.symm hne)).trans (frozen_blk (Below.heap_alloc _ _ _ hb))
          have pf6 : ∀ q, w6.frozen? ⟨w.heap.size + 1 + 1, q, none⟩ = false := fun q => (farf _ q (by omega) (hv _ (by omega))).trans (pf5 q)
          have rf6 : ∀ q, w6.frozen? ⟨w.heap.size + 1, q, none⟩ = false := fun q => (farf _ q (by omega) (hv _ (by omega))).trans (rf5 q)
          have p06 := (far (w.heap.size + 1 + 1) 0 (by omega) (hv _ (by omega))).trans p05
          have p16 := (far (w.heap.size + 1 + 1) 1 (by omega) (hv _ (by omega))).trans p15
          have r06 := (far (w.heap.size + 1) 0 (by omega) (hv _ (by omega))).trans r05
          have r16 := (far (w.heap.size + 1) 1 (by omega) (hv _ (by omega))).trans r15
          have b06 := (far w.heap.size 0 (by omega) (hv _ (by omega))).trans b05
          have b16 := (far w.heap.size 1 (by omega) (hv _ (by omega))).trans b15
          have c06 := (far b (o + k * 2) (by omega) (hv _ (by omega))).trans c05
          have c16 := (far b (o + k * 2 + 1) (by omega) (hv _ (by omega))).trans c15
          have hBp := BagOwn.push (x := ⟨x.r, n * x.n⟩) (hB5.below ((Below.refl _ _).alloc (Nat.le_refl _) (.cells #[.slice a5 x.r.length n5, .int .i64 (n * x.n)] 158))) (hR5.below ((Below.refl _ _).alloc (Nat.le_refl _) _)) ⟨hO5.1, fun b hb => by have := hO5.2.1 b hb; have : w4.drew.heap.size = w4.heap.size := rfl; omega, fun b hb q => (frozen_blk (Below.heap_alloc _ _ _ (hR5.lt b hb))).trans (hO5.2.2 b hb q)⟩ (fun b hb hb' => by have := hO5.2.1 b hb'; have := hB.lt b hb; have : w4.drew.heap.size = w4.heap.size := rfl; omega) (fun b hb hb' => by have := hO5.2.1 b hb'; have := (ownsRow_lt hB.own b hb).2; have : w4.drew.heap.size = w4.heap.size := rfl; omega) hown6 hgrow (fun b hb => by simp [Value.ownBlock] at hb; subst hb; rcases hat with h | h; exact .inl h; exact .inr (by simp; omega))
          have bel6 : Below w.heap.size w w6 := Below.grown ((bel4.trans (bel5.mono (by omega))).alloc (by omega) _) hgrow (by simp; omega) (fun b hb => by have := (ownsRow_lt hB.own b hb).1; omega)
          refine hK.out _ _ ?_ (fun hHeld19 => ?_)
          · intro _
            (try dsimp only)
            exact ⟨p16, b16, c06, c16⟩
          clear hK
          replace hHeld19 := hHeld19 (by decide)
          try simp only [List.setIfInBounds_toArray, List.set_cons_zero, List.set_cons_succ]
          refine takeE (i := 20) (d := 50) (v := ?_) rfl rfl (by kernel_rfl) (by kernel_rfl) (by kernel_rfl) (by kernel_rfl) (fun _ _ _ h => h) (by rfl) (by assumption) ?_ ?_
          rotate_left
          · intro w' hSw; (try dsimp only at hSw); go_simp; try exact rfl
          try simp only [List.setIfInBounds_toArray, List.set_cons_zero, List.set_cons_succ]
          refine oneE (i := 21) (by kernel_rfl) rfl (fun K hK => ?_)
          go_simp
          refine hK.out _ _ ?_ (fun hHeld21 => ?_)
          · exact fun h => absurd rfl h
          clear hK hHeld21
          try simp only [List.setIfInBounds_toArray, List.set_cons_zero, List.set_cons_succ]
          refine doneE (by kernel_rfl) ?_ _
          -- end of the region
          have P0 : (w6.setCell ⟨w.heap.size + 1 + 1, 1, none⟩ (.slice (some ⟨gg, 0, none⟩) (ct.length + 1) cap)).cell? ⟨w.heap.size + 1 + 1, 0, none⟩ = some (.int .i64 W) := (World.cell?_setCell_other _ _ _ _ (by simp)).trans p06
          have P1 : (w6.setCell ⟨w.heap.size + 1 + 1, 1, none⟩ (.slice (some ⟨gg, 0, none⟩) (ct.length + 1) cap)).cell? ⟨w.heap.size + 1 + 1, 1, none⟩ = some (.slice (some ⟨gg, 0, none⟩) (ct.length + 1) cap) := World.cell?_setCell_same _ _ _ p16
          have PF : ∀ q, (w6.setCell ⟨w.heap.size + 1 + 1, 1, none⟩ (.slice (some ⟨gg, 0, none⟩) (ct.length + 1) cap)).frozen? ⟨w.heap.size + 1 + 1, q, none⟩ = false := fun q => by simpa using pf6 q
          have R0 : (w6.setCell ⟨w.heap.size + 1 + 1, 1, none⟩ (.slice (some ⟨gg, 0, none⟩) (ct.length + 1) cap)).cell? ⟨w.heap.size + 1, 0, none⟩ = some (.int .i64 0) := (World.cell?_setCell_other _ _ _ _ (by simp)).trans r06
          have R1 : (w6.setCell ⟨w.heap.size + 1 + 1, 1, none⟩ (.slice (some ⟨gg, 0, none⟩) (ct.length + 1) cap)).cell? ⟨w.heap.size + 1, 1, none⟩ = some (.slice none 0 0) := (World.cell?_setCell_other _ _ _ _ (by simp)).trans r16
          have B0 : (w6.setCell ⟨w.heap.size + 1 + 1, 1, none⟩ (.slice (some ⟨gg, 0, none⟩) (ct.length + 1) cap)).cell? ⟨w.heap.size, 0, none⟩ = some (.int .i64 W) := (World.cell?_setCell_far _ _ _ _ (by simp; omega)).trans b06
          have B1 : (w6.setCell ⟨w.heap.size + 1 + 1, 1, none⟩ (.slice (some ⟨gg, 0, none⟩) (ct.length + 1) cap)).cell? ⟨w.heap.size, 1, none⟩ = some (.slice (some ⟨b, o, none⟩) cs.length c) := (World.cell?_setCell_far _ _ _ _ (by simp; omega)).trans b16
          have RF : ∀ q, (w6.setCell ⟨w.heap.size + 1 + 1, 1, none⟩ (.slice (some ⟨gg, 0, none⟩) (ct.length + 1) cap)).frozen? ⟨w.heap.size + 1, q, none⟩ = false := fun q => by simpa using rf6 q
          have hBs := hBp.keep (w' := (w6.setCell ⟨w.heap.size + 1 + 1, 1, none⟩ (.slice (some ⟨gg, 0, none⟩) (ct.length + 1) cap))) (by simp) (fun b hb _ => Below.heap_setCell _ _ _ _ (by simp; omega))
          rw [← HT.out] at hBs
          have belS : Below w.heap.size w (w6.setCell ⟨w.heap.size + 1 + 1, 1, none⟩ (.slice (some ⟨gg, 0, none⟩) (ct.length + 1) cap)) := bel6.setCell (by simp; omega) _
          have hzS : w.heap.size + 1 + 1 + 1 ≤ (w6.setCell ⟨w.heap.size + 1 + 1, 1, none⟩ (.slice (some ⟨gg, 0, none⟩) (ct.length + 1) cap)).heap.size := by simp; omega
          clear hown6 hgrow hat far farf hBp hB5 hR5 hO5 hb5 hB p06 p16 pf6 r06 r16 rf6 b06 b16 c06 c16 hHeld hHeld8 hHeld18 hHeld19
          go_wp2
          exact ⟨⟨k + 1, _, _, _, hlt, by simp, B0, B1, P0, P1, PF, R0, R1, RF, hBs, belS, hzS, fun _ => HOK.out⟩, by simp [intOf]; omega⟩
    · obtain ⟨Fe, hRe, hOe⟩ := hB.rowsF
      have hNe : ∀ b ∈ Fe, b ≠ w.heap.size + 1 := fun b hb => by have := hOe.2.1 b hb; omega
      have hwT : CsWf (timesL n (cs.take k)) := by
        rcases Nat.eq_zero_or_pos k with e | e
        · subst e; intro y hy; simp [timesL] at hy
        · obtain ⟨_, h1, h2⟩ := hok e
          intro y hy
          obtain ⟨z, hz, rfl⟩ := List.mem_map.1 hy
          have hz' := List.mem_of_mem_take hz
          refine ⟨(hw z hz').1, ?_⟩
          have := mul_bd h2 (okBag_mem h1 z hz')
          have e1 : IntKind.i64.min = -9223372036854775808 := by decide
          have e2 : IntKind.i64.max = 9223372036854775807 := by decide
          simp only [Lit.wf, Bool.and_eq_true, decide_eq_true_eq]
          omega
      have HL : Hid (timesC W n cs = if okBag W (timesL n (cs.take k)) = true then timesL n (cs.take k) else []) := by
        show _ = _
        by_cases hz : n = 0
        · rcases Nat.eq_zero_or_pos k with e | e
          · subst e; rw [timesC_zero hz]; simp [timesL]
          · exact absurd hz (hok e).1
        · obtain rfl : k = cs.length := by omega
          rw [List.take_length]; rfl
      have hE : ∀ w', RowsF w' (.slice ay (timesL n (cs.take k)).length cy) (timesL n (cs.take k)) Fe → ∃ F', RowsF w' (rightV (okBag W (timesL n (cs.take k))) (.slice ay (timesL n (cs.take k)).length cy)) (timesC W n cs) F' ∧ F'.Nodup ∧ ∀ b ∈ F', b ∈ Fe := by
        intro w' h
        rw [HL.out]
        cases okBag W (timesL n (cs.take k)) with
        | false => exact ⟨[], rowsF_nil _, List.nodup_nil, fun b hb => by cases hb⟩
        | true => exact ⟨Fe, h, hOe.1, fun b hb => hb⟩
      have hsh : ∃ ar lr cr, rightV (okBag W (timesL n (cs.take k))) (.slice ay (timesL n (cs.take k)).length cy) = .slice ar lr cr := by
        cases okBag W (timesL n (cs.take k)) with
        | false => exact ⟨none, 0, 0, rfl⟩
        | true => exact ⟨_, _, _, rfl⟩
      obtain ⟨ar, lr, cr, hsh⟩ := hsh
      have hR9 := fun w' => l02Right_any W (.slice ay (timesL n (cs.take k)).length cy) (timesL n (cs.take k)) w' hwT
      rw [hsh] at hE hR9
      have hex : ¬ k < cs.length ∨ (k < cs.length ∧ (n != 0) = false) := by
        by_cases hkl : k < cs.length
        · have hz : n = 0 := by omega
          exact .inr ⟨hkl, by simp [hz]⟩
        · exact .inl hkl
      clear hok hw hwT HL hsh ha hC hrr hB hlt
      rcases hex with hex | ⟨hex1, hex⟩
      all_goals (
        go_wp2_with fail
        refine Calls.mono (hR9 wr hRe.is) ?_
        rintro e w5 ⟨rfl, hb5⟩
        have hz5 := hb5.size
        obtain ⟨F5, hR5, hnd5, hF5⟩ := hE w5 (hRe.below hb5)
        have hO5 : Own w5 w.heap.size F5 := ⟨hnd5, fun b hb => by have := hOe.2.1 b (hF5 b hb); omega, fun b hb o => ((bcell hb5).2 b o (hRe.lt b (hF5 b hb))).trans (hOe.2.2 b (hF5 b hb) o)⟩
        have q05 := ((bcell hb5).1 (w.heap.size + 1) 0 (by omega)).trans r0
        have q15 := ((bcell hb5).1 (w.heap.size + 1) 1 (by omega)).trans r1
        have qf5 : ∀ q, w5.frozen? ⟨w.heap.size + 1, q, none⟩ = false := fun q => ((bcell hb5).2 _ q (by omega)).trans (rf q)
        have belw : Below w.heap.size w w5 := hb.trans (hb5.mono (by omega))
        clear hb5 hR9 hE
        go_wp2
        refine bodyPost_ret (v := .agg #[.int .i64 W, .slice ar lr cr]) (by simp [results, Try.results123, go_sem, *]) rfl ⟨⟨_, F5, rfl, hR5.keep (by simp) fun b hb => ?_, hO5.keep fun b hb => ?_⟩, ?_⟩
        · repeat rw [Below.heap_setCell _ _ _ _ (hNe b (hF5 b hb))]
        · repeat rw [Below.heap_setCell _ _ _ _ (hNe b (hF5 b hb))]
        · repeat (first | (with_reducible exact belw) | (with_reducible refine Below.setCell ?_ ?hh _; case hh => (simp; try omega))))
theorem specTimes_any (W n : Int) (v : Value) (cs : List C2) (F : List Nat) (w : World) (hw : CsWf cs) (hr : RowsF w v cs F) (hn : wtb cs ≤ 1048576) :
    Calls Try.prog 123 #[.agg #[.int .i64 W, v], .int .i64 n] w fun e w' => (∃ u F', e = .returned (.agg #[.int .i64 W, u]) ∧ RowsF w' u (timesC W n cs) F') ∧ Below w.heap.size w w' :=
  (specTimesO_any W n v cs F w hw hr hn).mono fun e w' ⟨⟨u, F', h1, h2, _⟩, h3⟩ => ⟨⟨u, F', h1, h2⟩, h3⟩
end Go.Proofs.Ytnbcmkbkiebbdaa
