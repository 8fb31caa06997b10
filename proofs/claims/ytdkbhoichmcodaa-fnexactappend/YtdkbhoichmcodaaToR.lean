/- Own text. The contract of toRelS: new relations with the same names and bags, all of it in memory of the call's own. -/
import Derived.Test.YtdkbhoichmcodaaRelC
import Derived.Test.YtdkbhoichmcodaaToB
import Derived.Handy
namespace Go.Proofs.Ytdkbhoichmcodaa
open Go.RowKit Go.Deep
set_option linter.unusedVariables false
theorem Try.infoRel : (Try.prog.info? 87).map (fun i => (i.zero, i.size, i.bytes)) = some (some (.agg #[.string ⟨#[]⟩, .int .i64 0, .slice none 0 0]), 3, 48) := by kernel_rfl
/-- relations of the call's own: block B0 has them, the first k are laid; each bag lies above it. -/
def HalfR (w : World) (B0 : Nat) (rs : List R3) (k : Nat) : Prop :=
  ∃ f, w.rowIs B0 87 (rs.length * 3) f ∧ ∀ i x, i < k → rs[i]? = some x → f (i * 3) = .string x.s ∧ f (i * 3 + 1) = .int .i64 x.W ∧ ∃ B g, B0 < B ∧ f (i * 3 + 2) = .slice (some ⟨B, 0, none⟩) x.cs.length x.cs.length ∧ HalfB w B x.cs g x.cs.length
theorem HalfR.cells {w : World} {B : Nat} {rs : List R3} {k : Nat} (h : HalfR w B rs k) (hk : k < rs.length) :
    (∃ u, w.cell? ⟨B, k * 3, none⟩ = some u) ∧ (∃ u, w.cell? ⟨B, k * 3 + 1, none⟩ = some u) ∧ (∃ u, w.cell? ⟨B, k * 3 + 2, none⟩ = some u) ∧ (∀ i, w.frozen? ⟨B, i, none⟩ = false) ∧ B < w.heap.size := by
  obtain ⟨f, h, _⟩ := h
  exact ⟨⟨_, h.cell (by omega)⟩, ⟨_, h.cell (by omega)⟩, ⟨_, h.cell (by omega)⟩, fun i => h.frozen i, h.lt⟩
theorem HalfR.below {w w' : World} {B : Nat} {rs : List R3} {k : Nat} (h : HalfR w B rs k) (hb : Below w.heap.size w w') : HalfR w' B rs k := by
  obtain ⟨f, hf, he⟩ := h
  refine ⟨f, hf.of_block (hb.block _ hf.lt), fun i x hi hx => ?_⟩
  obtain ⟨h0, h1, B, g, hB, h2, hH⟩ := he i x hi hx
  exact ⟨h0, h1, B, g, hB, h2, hH.below (Nat.le_refl _) hb⟩
theorem HalfR.step {w : World} {B D : Nat} {rs : List R3} {g : Nat → Nat} {k : Nat} {x : R3} (h : HalfR w B rs k) (hx : rs[k]? = some x) (hD : HalfB w D x.cs g x.cs.length) (hB : B < D) :
    HalfR (((w.setCell ⟨B, k * 3, none⟩ (.string x.s)).setCell ⟨B, k * 3 + 1, none⟩ (.int .i64 x.W)).setCell ⟨B, k * 3 + 2, none⟩ (.slice (some ⟨D, 0, none⟩) x.cs.length x.cs.length)) B rs (k + 1) := by
  obtain ⟨f, hf, he⟩ := h
  have hblk : ∀ b, B < b → (((w.setCell ⟨B, k * 3, none⟩ (.string x.s)).setCell ⟨B, k * 3 + 1, none⟩ (.int .i64 x.W)).setCell ⟨B, k * 3 + 2, none⟩ (.slice (some ⟨D, 0, none⟩) x.cs.length x.cs.length)).heap[b]? = w.heap[b]? := by
    intro b hb
    repeat rw [Below.heap_setCell _ _ _ _ (by show b ≠ B; omega)]
  refine ⟨_, ((hf.set _ _).set _ _).set _ _, fun i y hi hy => ?_⟩
  by_cases e : i = k
  · subst e
    obtain rfl : y = x := by rw [hx] at hy; exact (Option.some.inj hy).symm
    refine ⟨by simp, by simp, D, g, hB, by simp, hD.keep (Nat.le_refl _) fun b hb => hblk b (by omega)⟩
  · have n : ∀ p q : Nat, p < 3 → q < 3 → i * 3 + p ≠ k * 3 + q := by intro p q hp hq; omega
    have n0 : ∀ q : Nat, q < 3 → i * 3 ≠ k * 3 + q := by intro q hq; omega
    have n1 : ∀ p : Nat, p < 3 → i * 3 + p ≠ k * 3 := by intro q hq; omega
    have n2 : i * 3 ≠ k * 3 := by omega
    obtain ⟨h0, h1, D', g', hB', h2, hH⟩ := he i y (by omega) hy
    refine ⟨?_, ?_, D', g', hB', ?_, hH.keep (Nat.le_refl _) fun b hb => hblk b (by omega)⟩
    · simp only [if_neg n2, if_neg (n0 1 (by omega)), if_neg (n0 2 (by omega))]; exact h0
    · simp only [if_neg (n1 1 (by omega)), if_neg (n 1 1 (by omega) (by omega)), if_neg (n 1 2 (by omega) (by omega))]; exact h1
    · simp only [if_neg (n1 2 (by omega)), if_neg (n 2 1 (by omega) (by omega)), if_neg (n 2 2 (by omega) (by omega))]; exact h2
theorem wtb_rows {cs : List C2} (h : wtb cs ≤ 1048576) : (∀ x ∈ cs, x.r.length ≤ maxLen) ∧ cs.length ≤ maxLen :=
  ⟨fun x hx => by have := wt_mem hx; unfold wt at this; unfold wtb at h; unfold maxLen; omega, by unfold wtb at h; unfold maxLen; omega⟩
theorem HalfR.rels {w : World} {B : Nat} {rs : List R3} (h : HalfR w B rs rs.length) (hn : wtR rs ≤ 1048576) : RelsIs w (.slice (some ⟨B, 0, none⟩) rs.length rs.length) rs := by
  obtain ⟨f, hf, he⟩ := h
  refine ⟨_, _, rfl, Nat.le_refl _, by unfold wtR at hn; unfold maxLen; omega, fun _ => ⟨B, 0, rfl, hf.lt, fun i x hx => ?_⟩⟩
  have hi : i < rs.length := (List.getElem?_eq_some_iff.1 hx).1
  obtain ⟨e0, e1, D, g, hB, e2, hH⟩ := he i x hi hx
  have hx1 : wtb x.cs ≤ 1048576 := by have := wtr_mem (List.mem_of_getElem? hx); unfold wtr at this; unfold wtR at hn; omega
  exact ⟨_, by rw [Nat.zero_add, hf.cell (by omega), e0], by rw [Nat.zero_add, hf.cell (by omega), e1], by rw [Nat.zero_add, hf.cell (by omega), e2], hH.rows (wtb_rows hx1).1 (wtb_rows hx1).2⟩
theorem halfR_made (w : World) (z : Array Value) (rs : List R3) : HalfR (w.alloc (.cells (madeCells z (rs.length * 3)) 87)) w.heap.size rs 0 :=
  ⟨fun i => (madeCells z (rs.length * 3))[i]?.getD undef, ⟨_, blk_alloc_new _ _, size_madeCells _ _, fun i hi => by
    have : i < (madeCells z (rs.length * 3)).size := by rw [size_madeCells]; exact hi
    simp [this]⟩, fun i x hi => by omega⟩
set_option maxHeartbeats 1000000 in
theorem toRel_any (s : ByteArray) (W : Int) (v : Value) (cs : List C2) (w : World) (hr : RowsIs w v cs) (hn : wtb cs ≤ 1048576) :
    Calls Try.prog 58 #[.agg #[.string s, .int .i64 W, v]] w fun e w' => (∃ B g, w.heap.size ≤ B ∧ e = .returned (.agg #[.string s, .int .i64 W, .slice (some ⟨B, 0, none⟩) cs.length cs.length]) ∧ HalfB w' B cs g cs.length) ∧ Below w.heap.size w w' := by
  obtain ⟨a, l, c, rfl⟩ := hr.shape
  go_enter Try.func58, Try.ntmps58
  go_wp2_with fail
  refine Calls.mono (toBag_any W (.slice a l c) cs _ (hr.below ?hb) hn) ?_
  case hb => repeat (first | exact Below.refl _ _ | refine Below.drew ?_ | refine Below.alloc ?_ (by first | (simp; done) | (simp; omega) | omega) _ | refine Below.setCell ?_ (by first | (simp; done) | (simp; omega) | omega) _ | refine bstep (by assumption) (by first | (simp; done) | (simp; omega) | omega) ?_)
  rintro e w1 ⟨⟨B, g, hB, rfl, hH1⟩, hb1⟩
  have hz1 := hb1.size
  simp only [World.size_alloc] at hz1 hB
  have hf1 := (bcell hb1).2
  have hy : w.heap.size + 1 + 1 < w1.heap.size := by omega
  have hy1 : w.heap.size + 1 < w1.heap.size := by omega
  have hy0 : w.heap.size < w1.heap.size := by omega
  have p0 : w1.cell? ⟨w.heap.size + 1, 0, none⟩ = some (.string ⟨#[]⟩) := cell_later hb1 (by go_simp)
  have p1 : w1.cell? ⟨w.heap.size + 1, 1, none⟩ = some (.int .i64 0) := cell_later hb1 (by go_simp)
  have p2 : w1.cell? ⟨w.heap.size + 1, 2, none⟩ = some (.slice none 0 0) := cell_later hb1 (by go_simp)
  have t0 : w1.cell? ⟨w.heap.size + 1 + 1, 0, none⟩ = some (.string s) := cell_later hb1 (by go_simp)
  have t1 : w1.cell? ⟨w.heap.size + 1 + 1, 1, none⟩ = some (.int .i64 0) := cell_later hb1 (by go_simp)
  have t2 : w1.cell? ⟨w.heap.size + 1 + 1, 2, none⟩ = some (.slice none 0 0) := cell_later hb1 (by go_simp)
  go_wp2
  refine bodyPost_ret (v := .agg #[.string s, .int .i64 W, .slice (some ⟨B, 0, none⟩) cs.length cs.length]) (by simp [results, Try.results58, go_sem, *]) rfl ⟨⟨B, g, by omega, by simp, ?_⟩, ?_⟩
  · refine hH1.keep (Nat.le_refl _) fun b hb => ?_
    repeat rw [Below.heap_setCell _ _ _ _ (by simp; try omega)]
  · repeat (first | exact Below.refl _ _ | refine Below.drew ?_ | refine Below.alloc ?_ (by first | (simp; done) | (simp; omega) | omega) _ | refine Below.setCell ?_ (by first | (simp; done) | (simp; omega) | omega) _ | refine bstep (by assumption) (by first | (simp; done) | (simp; omega) | omega) ?_)
set_option maxHeartbeats 2000000 in
set_option maxRecDepth 100000 in
theorem toRelS_rels (v : Value) (rs : List R3) (w : World) (hr : RelsIs w v rs) (hn : wtR rs ≤ 1048576) :
    Calls Try.prog 21 #[v] w fun e w' => (∃ u, e = .returned u ∧ RelsIs w' u rs) ∧ Below w.heap.size w w' := by
  obtain ⟨a, c, b, o, rfl, hl, hc, ha⟩ := hr.pick
  unfold maxLen at hc
  clear hr
  have hn1 : rs.length ≤ 1048576 := by unfold wtR at hn; omega
  have hmk := run_make_wide (P := Try.prog) 38 87 _ 3 48 Try.underlying38 Try.infoRel rs.length (by omega) (by omega)
  go_enter Try.func21, Try.ntmps21
  go_wp2
  go_loopw [4] (fun i wr => ∃ (k : Nat), k ≤ rs.length ∧ i = .int .i64 k ∧ Below w.heap.size w wr ∧ HalfR wr w.heap.size rs k) (fun i _ => rs.length - (intOf i).toNat)
  case atStart => exact ⟨0, Nat.zero_le _, rfl, by go_grown, halfR_made _ _ _⟩
  case round =>
    obtain ⟨k, hk, rfl, hb, hH⟩ := hrel
    clear hmk
    by_cases hlt : k < rs.length
    · have hzb := hb.size
      obtain ⟨rfl, hblt, hL⟩ := ha k hlt
      obtain ⟨x, u, hx, c0, c1, c2, hR, hbr⟩ := hL.at hblt hb hlt
      have HX : Hid (rs[k]? = some x) := hx
      have hxn : wtb x.cs ≤ 1048576 := by have := wtr_mem (List.mem_of_getElem? hx); unfold wtr at this; unfold wtR at hn; omega
      have hBr := (hH.cells hlt).2.2.2.2
      clear ha hL hx
      go_wp2_with (go_at_call 58; refine (toRel_any _ _ _ _ _ hR hxn).mono ?_; rintro e w1 ⟨⟨D, g, hD, rfl, hRD⟩, hb1⟩; have hz1 := hb1.size; have hH1 := hH.below hb1; obtain ⟨⟨y0, g0⟩, ⟨y1, g1⟩, ⟨y2, g2⟩, gf, gs⟩ := hH1.cells hlt)
      refine ⟨⟨k + 1, hlt, by simp, by repeat (first | exact Below.refl _ _ | refine Below.drew ?_ | refine Below.alloc ?_ (by first | (simp; done) | (simp; omega) | omega) _ | refine Below.setCell ?_ (by first | (simp; done) | (simp; omega) | omega) _ | refine bstep (by assumption) (by first | (simp; done) | (simp; omega) | omega) ?_), hH1.step HX.out hRD (by omega)⟩, by simp [intOf]; omega⟩
    · go_wp2
      go_returns
      obtain rfl : k = rs.length := by omega
      exact ⟨⟨_, rfl, hH.rels hn⟩, hb⟩
end Go.Proofs.Ytdkbhoichmcodaa
