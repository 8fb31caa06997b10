/- Own text. The contract of toBag: a new bag with the same rows, all of it in memory of the call's own. -/
import Derived.Test.YtooeohhkcemoiaaBagC
import Derived.Handy
namespace Go.Proofs.Ytooeohhkcemoiaa
open Go.RowKit Go.Deep
set_option linter.unusedVariables false
theorem Try.infoCnt : (Try.prog.info? 53).map (fun i => (i.zero, i.size, i.bytes)) = some (some (.agg #[.slice none 0 0, .int .i64 0]), 2, 32) := by kernel_rfl
/-- counted rows of the call's own: block B0 has the rows' heads, g i is row i's own block; the first k are laid. -/
structure HalfB (w : World) (B0 : Nat) (cs : List C2) (g : Nat → Nat) (k : Nat) : Prop where
  own : ∃ f, w.rowIs B0 53 (cs.length * 2) f ∧ ∀ i x, i < k → cs[i]? = some x → f (i * 2) = .slice (some ⟨g i, 0, none⟩) x.r.length x.r.length ∧ f (i * 2 + 1) = .int .i64 x.n
  row : ∀ i x, i < k → cs[i]? = some x → w.rowIs (g i) 66 (x.r.length * 3) (cf x.r)
  above : ∀ i, i < k → B0 < g i
  up : ∀ i j, i < j → j < k → g i < g j
theorem HalfB.cells {w : World} {B : Nat} {cs : List C2} {g : Nat → Nat} {k : Nat} (h : HalfB w B cs g k) (hk : k < cs.length) :
    (∃ u, w.cell? ⟨B, k * 2, none⟩ = some u) ∧ (∃ u, w.cell? ⟨B, k * 2 + 1, none⟩ = some u) ∧ (∀ i, w.frozen? ⟨B, i, none⟩ = false) ∧ B < w.heap.size := by
  obtain ⟨f, h, _⟩ := h.own
  exact ⟨⟨_, h.cell (by omega)⟩, ⟨_, h.cell (by omega)⟩, fun i => h.frozen i, h.lt⟩
theorem HalfB.lt {w : World} {B : Nat} {cs : List C2} {g : Nat → Nat} {k : Nat} (h : HalfB w B cs g k) (hk : k ≤ cs.length) {i : Nat} (hi : i < k) : g i < w.heap.size := (h.row i cs[i] hi (by simp)).lt
theorem HalfB.below {w w' : World} {B : Nat} {cs : List C2} {g : Nat → Nat} {k : Nat} (h : HalfB w B cs g k) (hk : k ≤ cs.length) (hb : Below w.heap.size w w') : HalfB w' B cs g k := by
  obtain ⟨⟨f, hf, he⟩, h1, h2, h3⟩ := h
  exact ⟨⟨f, hf.of_block (hb.block _ hf.lt), he⟩, fun i x hi hx => (h1 i x hi hx).of_block (hb.block _ (h1 i x hi hx).lt), h2, h3⟩
theorem HalfB.keep {w w' : World} {B : Nat} {cs : List C2} {g : Nat → Nat} {k : Nat} (h : HalfB w B cs g k) (hk : k ≤ cs.length) (e : ∀ b, B ≤ b → w'.heap[b]? = w.heap[b]?) : HalfB w' B cs g k := by
  obtain ⟨⟨f, hf, he⟩, h1, h2, h3⟩ := h
  exact ⟨⟨f, hf.of_block (e _ (Nat.le_refl _)), he⟩, fun i x hi hx => (h1 i x hi hx).of_block (e _ (Nat.le_of_lt (h2 i hi))), h2, h3⟩
theorem HalfB.step {w : World} {B D : Nat} {cs : List C2} {g : Nat → Nat} {k : Nat} {x : C2} (h : HalfB w B cs g k) (hx : cs[k]? = some x) (hD : w.rowIs D 66 (x.r.length * 3) (cf x.r)) (hB : B < D) (hup : ∀ i, i < k → g i < D) :
    HalfB ((w.setCell ⟨B, k * 2, none⟩ (.slice (some ⟨D, 0, none⟩) x.r.length x.r.length)).setCell ⟨B, k * 2 + 1, none⟩ (.int .i64 x.n)) B cs (fun i => if i = k then D else g i) (k + 1) := by
  obtain ⟨⟨f, hf, he⟩, h1, h2, h3⟩ := h
  refine ⟨⟨_, (hf.set _ _).set _ _, fun i y hi hy => ?_⟩, fun i y hi hy => ?_, fun i hi => ?_, fun i j hij hj => ?_⟩
  · by_cases e : i = k
    · subst e
      obtain rfl : y = x := by rw [hx] at hy; exact (Option.some.inj hy).symm
      simp
    · have e1 : i * 2 ≠ k * 2 := by omega
      have e2 : i * 2 ≠ k * 2 + 1 := by omega
      have e3 : i * 2 + 1 ≠ k * 2 := by omega
      have e4 : i * 2 + 1 ≠ k * 2 + 1 := by omega
      simp only [if_neg e1, if_neg e2, if_neg e3, if_neg e4, if_neg e]
      exact he i y (by omega) hy
  · by_cases e : i = k
    · subst e
      obtain rfl : y = x := by rw [hx] at hy; exact (Option.some.inj hy).symm
      simp only [if_true]
      exact (hD.setOther (by show D ≠ B; omega) _).setOther (by show D ≠ B; omega) _
    · simp only [if_neg e]
      have := h2 i (by omega)
      exact ((h1 i y (by omega) hy).setOther (by show g i ≠ B; omega) _).setOther (by show g i ≠ B; omega) _
  · by_cases e : i = k
    · simp only [if_pos e]; exact hB
    · simp only [if_neg e]; exact h2 i (by omega)
  · by_cases e : j = k
    · have e' : i ≠ k := by omega
      simp only [if_pos e, if_neg e']; exact hup i (by omega)
    · have e' : i ≠ k := by omega
      simp only [if_neg e, if_neg e']; exact h3 i j hij (by omega)
theorem HalfB.rows {w : World} {B : Nat} {cs : List C2} {g : Nat → Nat} (h : HalfB w B cs g cs.length) (hl : ∀ x ∈ cs, x.r.length ≤ maxLen) (hm : cs.length ≤ maxLen) : RowsIs w (.slice (some ⟨B, 0, none⟩) cs.length cs.length) cs := by
  obtain ⟨f, hf, he⟩ := h.own
  refine ⟨_, _, rfl, Nat.le_refl _, hm, fun _ => ⟨B, 0, rfl, hf.lt, fun i x hx => ?_⟩⟩
  have hi : i < cs.length := (List.getElem?_eq_some_iff.1 hx).1
  obtain ⟨e0, e1⟩ := he i x hi hx
  refine ⟨_, by rw [Nat.zero_add, hf.cell (by omega), e0], rowIs_row (h.row i x hi hx) (Nat.le_refl _) (hl x (List.mem_of_getElem? hx)), by rw [Nat.zero_add, hf.cell (by omega), e1]⟩
theorem halfB_made (w : World) (z : Array Value) (cs : List C2) (g : Nat → Nat) : HalfB (w.alloc (.cells (madeCells z (cs.length * 2)) 53)) w.heap.size cs g 0 :=
  ⟨⟨fun i => (madeCells z (cs.length * 2))[i]?.getD undef, ⟨_, blk_alloc_new _ _, size_madeCells _ _, fun i hi => by
    have : i < (madeCells z (cs.length * 2)).size := by rw [size_madeCells]; exact hi
    simp [this]⟩, fun i x hi => by omega⟩, fun i x hi => by omega, fun i hi => by omega, fun i j _ hj => by omega⟩
set_option maxHeartbeats 1000000 in
theorem toCounted_any (v : Value) (r : List V3) (n : Int) (w : World) (hr : RowIs w v r) (hn : r.length ≤ 1048576) :
    Calls Try.prog 48 #[.agg #[v, .int .i64 n]] w fun e w' => (∃ B, w.heap.size ≤ B ∧ e = .returned (.agg #[.slice (some ⟨B, 0, none⟩) r.length r.length, .int .i64 n]) ∧ w'.rowIs B 66 (r.length * 3) (cf r)) ∧ Below w.heap.size w w' := by
  have hb0 : ∀ o p q, Below w.heap.size w (((w.alloc o).alloc p).alloc q) := fun o p q => (((Below.refl _ _).alloc (Nat.le_refl _) o).alloc (by simp) p).alloc (by simp; omega) q
  go_enter Try.func48, Try.ntmps48
  go_wp2_with fail
  refine (toValueS_any v r _ (hr.below (hb0 _ _ _)) hn).mono ?_
  rintro e w1 ⟨rfl, hR1, hb1⟩
  have hz1 := hb1.size
  simp only [World.size_alloc] at hz1 hR1
  have hf1 := (bcell hb1).2
  have hy : w.heap.size + 1 + 1 < w1.heap.size := by omega
  have hy1 : w.heap.size + 1 < w1.heap.size := by omega
  have hy0 : w.heap.size < w1.heap.size := by omega
  have q0 : w1.cell? ⟨w.heap.size, 1, none⟩ = some (.int .i64 n) := cell_later hb1 (by go_simp)
  have p0 : w1.cell? ⟨w.heap.size + 1, 0, none⟩ = some (.slice none 0 0) := cell_later hb1 (by go_simp)
  have p1 : w1.cell? ⟨w.heap.size + 1, 1, none⟩ = some (.int .i64 0) := cell_later hb1 (by go_simp)
  have t0 : w1.cell? ⟨w.heap.size + 1 + 1, 0, none⟩ = some (.slice none 0 0) := cell_later hb1 (by go_simp)
  have t1 : w1.cell? ⟨w.heap.size + 1 + 1, 1, none⟩ = some (.int .i64 0) := cell_later hb1 (by go_simp)
  go_wp2
  refine bodyPost_ret (v := .agg #[.slice (some ⟨w.heap.size + 1 + 1 + 1, 0, none⟩) r.length r.length, .int .i64 n]) (by simp [results, Try.results48, go_sem, *]) rfl ⟨⟨w.heap.size + 1 + 1 + 1, by omega, rfl, ?_⟩, ?_⟩
  · refine hR1.of_block ?_
    repeat rw [Below.heap_setCell _ _ _ _ (by simp; try omega)]
  · repeat (first | exact Below.refl _ _ | refine Below.drew ?_ | refine Below.alloc ?_ (by first | (simp; done) | (simp; omega) | omega) _ | refine Below.setCell ?_ (by first | (simp; done) | (simp; omega) | omega) _ | refine bstep (by assumption) (by first | (simp; done) | (simp; omega) | omega) ?_)
set_option maxHeartbeats 2000000 in
set_option maxRecDepth 100000 in
theorem toCountedS_any (v : Value) (cs : List C2) (w : World) (hr : RowsIs w v cs) (hn : wtb cs ≤ 1048576) :
    Calls Try.prog 38 #[v] w fun e w' => (∃ g, e = .returned (.slice (some ⟨w.heap.size, 0, none⟩) cs.length cs.length) ∧ HalfB w' w.heap.size cs g cs.length) ∧ Below w.heap.size w w' := by
  obtain ⟨a, c, b, o, rfl, hl, hc, ha⟩ := hr.pick
  unfold maxLen at hc
  clear hr
  have hn1 : cs.length ≤ 1048576 := by unfold wtb at hn; omega
  have hmk := run_make_wide (P := Try.prog) 35 53 _ 2 32 Try.underlying35 Try.infoCnt cs.length (by omega) (by omega)
  go_enter Try.func38, Try.ntmps38
  go_wp2
  go_loopw [4] (fun i wr => ∃ (k : Nat) (g : Nat → Nat), k ≤ cs.length ∧ i = .int .i64 k ∧ Below w.heap.size w wr ∧ HalfB wr w.heap.size cs g k) (fun i _ => cs.length - (intOf i).toNat)
  case atStart => exact ⟨0, fun _ => 0, Nat.zero_le _, rfl, by go_grown, halfB_made _ _ _ _⟩
  case round =>
    obtain ⟨k, g, hk, rfl, hb, hH⟩ := hrel
    clear hmk
    by_cases hlt : k < cs.length
    · have hzb := hb.size
      obtain ⟨rfl, hblt, hL⟩ := ha k hlt
      obtain ⟨x, u, hx, c0, hR, c1, hbr⟩ := hL.at hblt hb hlt
      have HX : Hid (cs[k]? = some x) := hx
      have hxn : x.r.length ≤ 1048576 := by have := wt_mem (List.mem_of_getElem? hx); unfold wt at this; unfold wtb at hn; omega
      have hBr := (hH.cells hlt).2.2.2
      clear ha hL hx
      go_wp2_with (go_at_call 48; refine (toCounted_any _ _ _ _ hR hxn).mono ?_; rintro e w1 ⟨⟨D, hD, rfl, hRD⟩, hb1⟩; have hz1 := hb1.size; have hH1 := hH.below hk hb1; obtain ⟨⟨y0, g0⟩, ⟨y1, g1⟩, gf, gs⟩ := hH1.cells hlt)
      refine ⟨⟨k + 1, _, hlt, by simp, by repeat (first | exact Below.refl _ _ | refine Below.drew ?_ | refine Below.alloc ?_ (by first | (simp; done) | (simp; omega) | omega) _ | refine Below.setCell ?_ (by first | (simp; done) | (simp; omega) | omega) _ | refine bstep (by assumption) (by first | (simp; done) | (simp; omega) | omega) ?_), hH1.step HX.out hRD (by omega) (fun i hi => Nat.lt_of_lt_of_le (hH.lt hk hi) hD)⟩, by simp [intOf]; omega⟩
    · go_wp2
      go_returns
      obtain rfl : k = cs.length := by omega
      exact ⟨⟨g, rfl, hH⟩, hb⟩
set_option maxHeartbeats 1000000 in
theorem toBag_any (W : Int) (v : Value) (cs : List C2) (w : World) (hr : RowsIs w v cs) (hn : wtb cs ≤ 1048576) :
    Calls Try.prog 29 #[.agg #[.int .i64 W, v]] w fun e w' => (∃ B g, w.heap.size ≤ B ∧ e = .returned (.agg #[.int .i64 W, .slice (some ⟨B, 0, none⟩) cs.length cs.length]) ∧ HalfB w' B cs g cs.length) ∧ Below w.heap.size w w' := by
  go_enter Try.func29, Try.ntmps29
  go_wp2_with fail
  refine Calls.mono (toCountedS_any v cs _ (hr.below ?hb) hn) ?_
  case hb => repeat (first | exact Below.refl _ _ | refine Below.drew ?_ | refine Below.alloc ?_ (by first | (simp; done) | (simp; omega) | omega) _ | refine Below.setCell ?_ (by first | (simp; done) | (simp; omega) | omega) _ | refine bstep (by assumption) (by first | (simp; done) | (simp; omega) | omega) ?_)
  rintro e w1 ⟨⟨g, rfl, hH1⟩, hb1⟩
  have hz1 := hb1.size
  simp only [World.size_alloc] at hz1 hH1
  have hf1 := (bcell hb1).2
  have hy : w.heap.size + 1 + 1 < w1.heap.size := by omega
  have hy1 : w.heap.size + 1 < w1.heap.size := by omega
  have hy0 : w.heap.size < w1.heap.size := by omega
  have p0 : w1.cell? ⟨w.heap.size + 1, 0, none⟩ = some (.int .i64 0) := cell_later hb1 (by go_simp)
  have p1 : w1.cell? ⟨w.heap.size + 1, 1, none⟩ = some (.slice none 0 0) := cell_later hb1 (by go_simp)
  have t0 : w1.cell? ⟨w.heap.size + 1 + 1, 0, none⟩ = some (.int .i64 W) := cell_later hb1 (by go_simp)
  have t1 : w1.cell? ⟨w.heap.size + 1 + 1, 1, none⟩ = some (.slice none 0 0) := cell_later hb1 (by go_simp)
  go_wp2
  refine bodyPost_ret (v := .agg #[.int .i64 W, .slice (some ⟨w.heap.size + 1 + 1 + 1, 0, none⟩) cs.length cs.length]) (by simp [results, Try.results29, go_sem, *]) rfl ⟨⟨w.heap.size + 1 + 1 + 1, g, by omega, by simp, ?_⟩, ?_⟩
  · refine hH1.keep (Nat.le_refl _) fun b hb => ?_
    repeat rw [Below.heap_setCell _ _ _ _ (by simp; try omega)]
  · repeat (first | exact Below.refl _ _ | refine Below.drew ?_ | refine Below.alloc ?_ (by first | (simp; done) | (simp; omega) | omega) _ | refine Below.setCell ?_ (by first | (simp; done) | (simp; omega) | omega) _ | refine bstep (by assumption) (by first | (simp; done) | (simp; omega) | omega) ?_)
/-- .. in plain words. -/
theorem toBag_rows (W : Int) (v : Value) (cs : List C2) (w : World) (hr : RowsIs w v cs) (hn : wtb cs ≤ 1048576) :
    Calls Try.prog 29 #[.agg #[.int .i64 W, v]] w fun e w' => (∃ u, e = .returned (.agg #[.int .i64 W, u]) ∧ RowsIs w' u cs) ∧ Below w.heap.size w w' :=
  (toBag_any W v cs w hr hn).mono fun e w' ⟨⟨B, g, hB, he, h⟩, hb⟩ => ⟨⟨_, he, h.rows (fun x hx => by have := wt_mem hx; unfold wt at this; unfold wtb at hn; unfold maxLen; omega) (by unfold wtb at hn; unfold maxLen; omega)⟩, hb⟩
end Go.Proofs.Ytooeohhkcemoiaa
