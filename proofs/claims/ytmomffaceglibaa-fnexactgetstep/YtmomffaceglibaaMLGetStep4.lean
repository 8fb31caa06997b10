/- Own texts, joined: contracts that the law's proof goes by. -/
import Derived.Test.YtmomffaceglibaaMLGetStep3
import Derived.Test.YtmomffaceglibaaMLGetStep1
import Derived.Handy
import Derived.Deep.RegionHeld3
import Derived.Deep.OwnRows
import Derived.Test.YtmomffaceglibaaStpK
import Derived.Test.YtmomffaceglibaaMLGetStep2
import Derived.WalkKit
import Derived.WalkSpells
import Derived.WalkLawsBesides
import Derived.Below
import Derived.Deep.DeepCutAuto
/- Own text. The contract of toRelS: new relations with the same names and bags, all of it in memory of the call's own. -/
namespace Go.Proofs.Ytmomffaceglibaa
open Go.RowKit Go.Deep
set_option linter.unusedVariables false
theorem Try.infoRel : (Try.prog.info? 73).map (fun i => (i.zero, i.size, i.bytes)) = some (some (.agg #[.string ⟨#[]⟩, .int .i64 0, .slice none 0 0]), 3, 48) := by kernel_rfl
/-- relations of the call's own: block B0 has them, the first k are laid; each bag lies above it. -/
def HalfR (w : World) (B0 : Nat) (rs : List R3) (k : Nat) : Prop :=
  ∃ f, w.rowIs B0 73 (rs.length * 3) f ∧ ∀ i x, i < k → rs[i]? = some x → f (i * 3) = .string x.s ∧ f (i * 3 + 1) = .int .i64 x.W ∧ ∃ B g, B0 < B ∧ f (i * 3 + 2) = .slice (some ⟨B, 0, none⟩) x.cs.length x.cs.length ∧ HalfB w B x.cs g x.cs.length
theorem HalfR.cells {w : World} {B : Nat} {rs : List R3} {k : Nat} (h : HalfR w B rs k) (hk : k < rs.length) :
    (∃ u, w.cell? ⟨B, k * 3, none⟩ = some u) ∧ (∃ u, w.cell? ⟨B, k * 3 + 1, none⟩ = some u) ∧ (∃ u, w.cell? ⟨B, k * 3 + 2, none⟩ = some u) ∧ (∀ i, w.frozen? ⟨B, i, none⟩ = false) ∧ B < w.heap.size := by
  obtain ⟨f, h, _⟩ := h
  exact ⟨⟨_, h.cell (by omega)⟩, ⟨_, h.cell (by omega)⟩, ⟨_, h.cell (by omega)⟩, fun i => h.frozen i, h.lt⟩
theorem HalfR.below {w w' : World} {B : Nat} {rs : List R3} {k : Nat} (h : HalfR w B rs k) (hb : Below w.heap.size w w') : HalfR w' B rs k := by
  obtain ⟨f, hf, he⟩ := h
  refine ⟨f, hf.of_block (hb.block _ hf.lt), fun i x hi hx => ?_⟩
  obtain ⟨h0, h1, B, g, hB, h2, hH⟩ := he i x hi hx
  exact ⟨h0, h1, B, g, hB, h2, hH.below (Nat.le_refl _) hb⟩
theorem HalfR.step {w : World} {B D : Nat} {rs : List R3} {g : Nat → Nat} {k : Nat} {x : R3} (h : HalfR w B rs k) (hx : rs[k]? = some x) (hD : HalfB w D x.cs g x.cs.length) (hB : B < D) :
    HalfR (((w.setCell ⟨B, k * 3, none⟩ (.string x.s)).setCell ⟨B, k * 3 + 1, none⟩ (.int .i64 x.W)).setCell ⟨B, k * 3 + 2, none⟩ (.slice (some ⟨D, 0, none⟩) x.cs.length x.cs.length)) B rs (k + 1) := by
  obtain ⟨f, hf, he⟩ := h
  have hblk : ∀ b, B < b → (((w.setCell ⟨B, k * 3, none⟩ (.string x.s)).setCell ⟨B, k * 3 + 1, none⟩ (.int .i64 x.W)).setCell ⟨B, k * 3 + 2, none⟩ (.slice (some ⟨D, 0, none⟩) x.cs.length x.cs.length)).heap[b]? = w.heap[b]? := by
    intro b hb
    repeat rw [Below.heap_setCell _ _ _ _ (by show b ≠ B; omega)]
  refine ⟨_, ((hf.set _ _).set _ _).set _ _, fun i y hi hy => ?_⟩
  by_cases e : i = k
  · subst e
    obtain rfl : y = x := by rw [hx] at hy; exact (Option.some.inj hy).symm
    refine ⟨by simp, by simp, D, g, hB, by simp, hD.keep (Nat.le_refl _) fun b hb => hblk b (by omega)⟩
  · have n : ∀ p q : Nat, p < 3 → q < 3 → i * 3 + p ≠ k * 3 + q := by intro p q hp hq; omega
    have n0 : ∀ q : Nat, q < 3 → i * 3 ≠ k * 3 + q := by intro q hq; omega
    have n1 : ∀ p : Nat, p < 3 → i * 3 + p ≠ k * 3 := by intro q hq; omega
    have n2 : i * 3 ≠ k * 3 := by omega
    obtain ⟨h0, h1, D', g', hB', h2, hH⟩ := he i y (by omega) hy
    refine ⟨?_, ?_, D', g', hB', ?_, hH.keep (Nat.le_refl _) fun b hb => hblk b (by omega)⟩
    · simp only [if_neg n2, if_neg (n0 1 (by omega)), if_neg (n0 2 (by omega))]; exact h0
    · simp only [if_neg (n1 1 (by omega)), if_neg (n 1 1 (by omega) (by omega)), if_neg (n 1 2 (by omega) (by omega))]; exact h1
    · simp only [if_neg (n1 2 (by omega)), if_neg (n 2 1 (by omega) (by omega)), if_neg (n 2 2 (by omega) (by omega))]; exact h2
theorem wtb_rows {cs : List C2} (h : wtb cs ≤ 1048576) : (∀ x ∈ cs, x.r.length ≤ maxLen) ∧ cs.length ≤ maxLen :=
  ⟨fun x hx => by have := wt_mem hx; unfold wt at this; unfold wtb at h; unfold maxLen; omega, by unfold wtb at h; unfold maxLen; omega⟩
theorem HalfR.rels {w : World} {B : Nat} {rs : List R3} (h : HalfR w B rs rs.length) (hn : wtR rs ≤ 1048576) : RelsIs w (.slice (some ⟨B, 0, none⟩) rs.length rs.length) rs := by
  obtain ⟨f, hf, he⟩ := h
  refine ⟨_, _, rfl, Nat.le_refl _, by unfold wtR at hn; unfold maxLen; omega, fun _ => ⟨B, 0, rfl, hf.lt, fun i x hx => ?_⟩⟩
  have hi : i < rs.length := (List.getElem?_eq_some_iff.1 hx).1
  obtain ⟨e0, e1, D, g, hB, e2, hH⟩ := he i x hi hx
  have hx1 : wtb x.cs ≤ 1048576 := by have := wtr_mem (List.mem_of_getElem? hx); unfold wtr at this; unfold wtR at hn; omega
  exact ⟨_, by rw [Nat.zero_add, hf.cell (by omega), e0], by rw [Nat.zero_add, hf.cell (by omega), e1], by rw [Nat.zero_add, hf.cell (by omega), e2], hH.rows (wtb_rows hx1).1 (wtb_rows hx1).2⟩
theorem halfR_made (w : World) (z : Array Value) (rs : List R3) : HalfR (w.alloc (.cells (madeCells z (rs.length * 3)) 73)) w.heap.size rs 0 :=
  ⟨fun i => (madeCells z (rs.length * 3))[i]?.getD undef, ⟨_, blk_alloc_new _ _, size_madeCells _ _, fun i hi => by
    have : i < (madeCells z (rs.length * 3)).size := by rw [size_madeCells]; exact hi
    simp [this]⟩, fun i x hi => by omega⟩
set_option maxHeartbeats 1000000 in
theorem toRel_any (s : ByteArray) (W : Int) (v : Value) (cs : List C2) (w : World) (hr : RowsIs w v cs) (hn : wtb cs ≤ 1048576) :
    Calls Try.prog 82 #[.agg #[.string s, .int .i64 W, v]] w fun e w' => (∃ B g, w.heap.size ≤ B ∧ e = .returned (.agg #[.string s, .int .i64 W, .slice (some ⟨B, 0, none⟩) cs.length cs.length]) ∧ HalfB w' B cs g cs.length) ∧ Below w.heap.size w w' := by
  obtain ⟨a, l, c, rfl⟩ := hr.shape
  go_enter Try.func82, Try.ntmps82
  go_wp2_with fail
  refine Calls.mono (toBag_any W (.slice a l c) cs _ (hr.below ?hb) hn) ?_
  case hb => repeat (first | exact Below.refl _ _ | refine Below.drew ?_ | refine Below.alloc ?_ (by first | (simp; done) | (simp; omega) | omega) _ | refine Below.setCell ?_ (by first | (simp; done) | (simp; omega) | omega) _ | refine bstep (by assumption) (by first | (simp; done) | (simp; omega) | omega) ?_)
  rintro e w1 ⟨⟨B, g, hB, rfl, hH1⟩, hb1⟩
  have hz1 := hb1.size
  simp only [World.size_alloc] at hz1 hB
  have hf1 := (bcell hb1).2
  have hy : w.heap.size + 1 + 1 < w1.heap.size := by omega
  have hy1 : w.heap.size + 1 < w1.heap.size := by omega
  have hy0 : w.heap.size < w1.heap.size := by omega
  have p0 : w1.cell? ⟨w.heap.size + 1, 0, none⟩ = some (.string ⟨#[]⟩) := cell_later hb1 (by go_simp)
  have p1 : w1.cell? ⟨w.heap.size + 1, 1, none⟩ = some (.int .i64 0) := cell_later hb1 (by go_simp)
  have p2 : w1.cell? ⟨w.heap.size + 1, 2, none⟩ = some (.slice none 0 0) := cell_later hb1 (by go_simp)
  have t0 : w1.cell? ⟨w.heap.size + 1 + 1, 0, none⟩ = some (.string s) := cell_later hb1 (by go_simp)
  have t1 : w1.cell? ⟨w.heap.size + 1 + 1, 1, none⟩ = some (.int .i64 0) := cell_later hb1 (by go_simp)
  have t2 : w1.cell? ⟨w.heap.size + 1 + 1, 2, none⟩ = some (.slice none 0 0) := cell_later hb1 (by go_simp)
  go_wp2
  refine bodyPost_ret (v := .agg #[.string s, .int .i64 W, .slice (some ⟨B, 0, none⟩) cs.length cs.length]) (by simp [results, Try.results82, go_sem, *]) rfl ⟨⟨B, g, by omega, by simp, ?_⟩, ?_⟩
  · refine hH1.keep (Nat.le_refl _) fun b hb => ?_
    repeat rw [Below.heap_setCell _ _ _ _ (by simp; try omega)]
  · repeat (first | exact Below.refl _ _ | refine Below.drew ?_ | refine Below.alloc ?_ (by first | (simp; done) | (simp; omega) | omega) _ | refine Below.setCell ?_ (by first | (simp; done) | (simp; omega) | omega) _ | refine bstep (by assumption) (by first | (simp; done) | (simp; omega) | omega) ?_)
set_option maxHeartbeats 2000000 in
set_option maxRecDepth 100000 in
theorem toRelS_rels (v : Value) (rs : List R3) (w : World) (hr : RelsIs w v rs) (hn : wtR rs ≤ 1048576) :
    Calls Try.prog 44 #[v] w fun e w' => (∃ u, e = .returned u ∧ RelsIs w' u rs) ∧ Below w.heap.size w w' := by
  obtain ⟨a, c, b, o, rfl, hl, hc, ha⟩ := hr.pick
  unfold maxLen at hc
  clear hr
  have hn1 : rs.length ≤ 1048576 := by unfold wtR at hn; omega
  have hmk := run_make_wide (P := Try.prog) 41 73 _ 3 48 Try.underlying41 Try.infoRel rs.length (by omega) (by omega)
  go_enter Try.func44, Try.ntmps44
  go_wp2
  go_loopw [4] (fun i wr => ∃ (k : Nat), k ≤ rs.length ∧ i = .int .i64 k ∧ Below w.heap.size w wr ∧ HalfR wr w.heap.size rs k) (fun i _ => rs.length - (intOf i).toNat)
  case atStart => exact ⟨0, Nat.zero_le _, rfl, by go_grown, halfR_made _ _ _⟩
  case round =>
    obtain ⟨k, hk, rfl, hb, hH⟩ := hrel
    clear hmk
    by_cases hlt : k < rs.length
    · have hzb := hb.size
      obtain ⟨rfl, hblt, hL⟩ := ha k hlt
      obtain ⟨x, u, hx, c0, c1, c2, hR, hbr⟩ := hL.at hblt hb hlt
      have HX : Hid (rs[k]? = some x) := hx
      have hxn : wtb x.cs ≤ 1048576 := by have := wtr_mem (List.mem_of_getElem? hx); unfold wtr at this; unfold wtR at hn; omega
      have hBr := (hH.cells hlt).2.2.2.2
      clear ha hL hx
      go_wp2_with (go_at_call 82; refine (toRel_any _ _ _ _ _ hR hxn).mono ?_; rintro e w1 ⟨⟨D, g, hD, rfl, hRD⟩, hb1⟩; have hz1 := hb1.size; have hH1 := hH.below hb1; obtain ⟨⟨y0, g0⟩, ⟨y1, g1⟩, ⟨y2, g2⟩, gf, gs⟩ := hH1.cells hlt)
      refine ⟨⟨k + 1, hlt, by simp, by repeat (first | exact Below.refl _ _ | refine Below.drew ?_ | refine Below.alloc ?_ (by first | (simp; done) | (simp; omega) | omega) _ | refine Below.setCell ?_ (by first | (simp; done) | (simp; omega) | omega) _ | refine bstep (by assumption) (by first | (simp; done) | (simp; omega) | omega) ?_), hH1.step HX.out hRD (by omega)⟩, by simp [intOf]; omega⟩
    · go_wp2
      go_returns
      obtain rfl : k = rs.length := by omega
      exact ⟨⟨_, rfl, hH.rels hn⟩, hb⟩
end Go.Proofs.Ytmomffaceglibaa
/- Own text. toBag, with the blocks of what it makes. -/
namespace Go.Proofs.Ytmomffaceglibaa
open Go.RowKit Go.Deep
set_option linter.unusedVariables false
theorem HalfB.rowsF {w : World} {B : Nat} {cs : List C2} {g : Nat → Nat} (h : HalfB w B cs g cs.length) (hl : ∀ x ∈ cs, x.r.length ≤ maxLen) (hm : cs.length ≤ maxLen) : ∃ F, RowsF w (.slice (some ⟨B, 0, none⟩) cs.length cs.length) cs F ∧ Own w B F := by
  obtain ⟨f, hf, he⟩ := h.own
  by_cases hne : cs = []
  · exact ⟨[], ⟨_, _, [], rfl, Nat.le_refl _, hm, (fun x => by cases x), by rw [hne]; rfl, fun _ => rfl, fun x => absurd hne x⟩, by simp [Own, Free]⟩
  let G : List (List Nat) := (List.range cs.length).map fun i => if (cs.getD i ⟨[], 0⟩).r = [] then [] else [g i]
  have hGl : G.length = cs.length := by simp [G]
  have hGi : ∀ i q, G[i]? = some q → i < cs.length ∧ q = if (cs.getD i ⟨[], 0⟩).r = [] then [] else [g i] := by
    intro i q hq
    have hi : i < cs.length := by have := (List.getElem?_eq_some_iff.1 hq).1; omega
    refine ⟨hi, ?_⟩
    simp [G, hi] at hq
    rw [← hq]
    simp [hi]
  have hmem : ∀ b ∈ G.flatten, ∃ i, i < cs.length ∧ b = g i := by
    intro b hb
    obtain ⟨q, hq, hbq⟩ := List.mem_flatten.1 hb
    obtain ⟨i, hi, rfl⟩ := List.mem_iff_getElem.1 hq
    obtain ⟨hi', e⟩ := hGi i G[i] (by simp)
    rw [e] at hbq
    split at hbq
    · cases hbq
    · exact ⟨i, hi', List.mem_singleton.1 hbq⟩
  refine ⟨B :: G.flatten, ⟨_, _, G, rfl, Nat.le_refl _, hm, (fun x => by cases x), hGl, fun x => absurd x hne, fun _ => ⟨B, 0, rfl, hf.lt, rfl, fun i x q hx hq => ?_⟩⟩, ?_, fun b hb => ?_, fun b hb o => ?_⟩
  · obtain ⟨hi, eq⟩ := hGi i q hq
    obtain ⟨e0, e1⟩ := he i x hi hx
    have ex : cs.getD i ⟨[], 0⟩ = x := by simp [List.getD, hx]
    rw [ex] at eq
    have hrow := h.row i x hi hx
    refine ⟨.slice (some ⟨g i, 0, none⟩) x.r.length x.r.length, by rw [Nat.zero_add, hf.cell (by omega), e0], ⟨_, _, rfl, Nat.le_refl _, hl x (List.mem_of_getElem? hx), (fun x => by cases x), fun e => by rw [eq, if_pos e], fun hn => ⟨g i, 0, rfl, hrow.lt, by rw [eq, if_neg hn], ?_⟩⟩, by rw [Nat.zero_add, hf.cell (by omega), e1]⟩
    refine lies_cells.2 fun j hj => ?_
    rw [Nat.zero_add]
    exact hrow.cell hj
  · refine List.nodup_cons.2 ⟨fun hb => ?_, ?_⟩
    · obtain ⟨i, hi, e⟩ := hmem B hb
      have := h.above i hi
      omega
    · rw [List.Nodup, List.pairwise_flatten]
      constructor
      · intro q hq
        obtain ⟨i, hi, rfl⟩ := List.mem_iff_getElem.1 hq
        obtain ⟨hi', e⟩ := hGi i G[i] (by simp)
        rw [e]
        split <;> simp
      · rw [List.pairwise_iff_getElem]
        intro i j hi hj hij x hx y hy
        obtain ⟨hi', ei⟩ := hGi i G[i] (by simp)
        obtain ⟨hj', ej⟩ := hGi j G[j] (by simp)
        rw [ei] at hx
        rw [ej] at hy
        split at hx
        · cases hx
        · split at hy
          · cases hy
          · have := h.up i j hij hj'
            have e1 := List.mem_singleton.1 hx
            have e2 := List.mem_singleton.1 hy
            omega
  · rcases List.mem_cons.1 hb with rfl | hb
    · exact Nat.le_refl _
    · obtain ⟨i, hi, rfl⟩ := hmem b hb
      exact Nat.le_of_lt (h.above i hi)
  · rcases List.mem_cons.1 hb with rfl | hb
    · exact hf.frozen o
    · obtain ⟨i, hi, rfl⟩ := hmem b hb
      exact (h.row i cs[i] hi (by simp)).frozen o
/-- toBag, with the blocks of what it makes. -/
theorem toBag_F (W : Int) (v : Value) (cs : List C2) (w : World) (hr : RowsIs w v cs) (hn : wtb cs ≤ 1048576) :
    Calls Try.prog 112 #[.agg #[.int .i64 W, v]] w fun e w' => (∃ u F, e = .returned (.agg #[.int .i64 W, u]) ∧ RowsF w' u cs F ∧ Own w' w.heap.size F) ∧ Below w.heap.size w w' :=
  (toBag_any W v cs w hr hn).mono fun e w' ⟨⟨B, g, hB, he, h⟩, hb⟩ => by
    obtain ⟨F, h1, h2⟩ := h.rowsF (fun x hx => by have := wt_mem hx; unfold wt at this; unfold wtb at hn; unfold maxLen; omega) (by unfold wtb at hn; unfold maxLen; omega)
    exact ⟨⟨_, F, he, h1, h2.1, fun b hb => Nat.le_trans hB (h2.2.1 b hb), h2.2.2⟩, hb⟩
end Go.Proofs.Ytmomffaceglibaa
/- Own text. toRelS, with the blocks of what it makes. -/
namespace Go.Proofs.Ytmomffaceglibaa
open Go.RowKit Go.Deep
set_option linter.unusedVariables false
/-- relations of the call's own: block B0 has them, the first k are laid, their rows in the blocks G. -/
structure HalfRF (w : World) (B0 : Nat) (rs : List R3) (k : Nat) (G : List (List Nat)) : Prop where
  row : ∃ f, w.rowIs B0 73 (rs.length * 3) f ∧ ∀ i x g, i < k → rs[i]? = some x → G[i]? = some g → f (i * 3) = .string x.s ∧ f (i * 3 + 1) = .int .i64 x.W ∧ RowsF w (f (i * 3 + 2)) x.cs g
  gl : G.length = k
  kl : k ≤ rs.length
  own : Own w (B0 + 1) G.flatten
theorem HalfRF.cells {w : World} {B : Nat} {rs : List R3} {k : Nat} {G : List (List Nat)} (h : HalfRF w B rs k G) (hk : k < rs.length) :
    (∃ u, w.cell? ⟨B, k * 3, none⟩ = some u) ∧ (∃ u, w.cell? ⟨B, k * 3 + 1, none⟩ = some u) ∧ (∃ u, w.cell? ⟨B, k * 3 + 2, none⟩ = some u) ∧ (∀ i, w.frozen? ⟨B, i, none⟩ = false) ∧ B < w.heap.size := by
  obtain ⟨f, h, _⟩ := h.row
  exact ⟨⟨_, h.cell (by omega)⟩, ⟨_, h.cell (by omega)⟩, ⟨_, h.cell (by omega)⟩, fun i => h.frozen i, h.lt⟩
theorem HalfRF.lt {w : World} {B : Nat} {rs : List R3} {k : Nat} {G : List (List Nat)} (h : HalfRF w B rs k G) : ∀ b ∈ G.flatten, b < w.heap.size := by
  intro b hb
  obtain ⟨g, hg, hbg⟩ := List.mem_flatten.1 hb
  obtain ⟨i, hi, rfl⟩ := List.mem_iff_getElem.1 hg
  have h1 := h.gl
  have h2 := h.kl
  obtain ⟨f, _, he⟩ := h.row
  have hi' : i < rs.length := by omega
  exact (he i rs[i] G[i] (by omega) (by simp) (by simp)).2.2.lt b hbg
theorem HalfRF.below {w w' : World} {B : Nat} {rs : List R3} {k : Nat} {G : List (List Nat)} (h : HalfRF w B rs k G) (hb : Below w.heap.size w w') : HalfRF w' B rs k G := by
  have hlt := h.lt
  obtain ⟨⟨f, hf, he⟩, gl, kl, own⟩ := h
  refine ⟨⟨f, hf.of_block (hb.block _ hf.lt), fun i x g hi hx hg => ?_⟩, gl, kl, own.below hlt hb⟩
  obtain ⟨h0, h1, h2⟩ := he i x g hi hx hg
  exact ⟨h0, h1, h2.below hb⟩
theorem HalfRF.step {w : World} {B : Nat} {rs : List R3} {k : Nat} {G : List (List Nat)} {x : R3} {u : Value} {g : List Nat} {M : Nat} (h : HalfRF w B rs k G) (hx : rs[k]? = some x) (hR : RowsF w u x.cs g) (hO : Own w M g) (hM : B < M) (hd : ∀ b ∈ G.flatten, b < M) :
    HalfRF (((w.setCell ⟨B, k * 3, none⟩ (.string x.s)).setCell ⟨B, k * 3 + 1, none⟩ (.int .i64 x.W)).setCell ⟨B, k * 3 + 2, none⟩ u) B rs (k + 1) (G ++ [g]) := by
  obtain ⟨⟨f, hf, he⟩, gl, kl, own⟩ := h
  have hblk : ∀ b, B < b → (((w.setCell ⟨B, k * 3, none⟩ (.string x.s)).setCell ⟨B, k * 3 + 1, none⟩ (.int .i64 x.W)).setCell ⟨B, k * 3 + 2, none⟩ u).heap[b]? = w.heap[b]? := by
    intro b hb
    repeat rw [Below.heap_setCell _ _ _ _ (by show b ≠ B; omega)]
  refine ⟨⟨_, ((hf.set _ _).set _ _).set _ _, fun i y g' hi hy hg' => ?_⟩, by simp [gl], (List.getElem?_eq_some_iff.1 hx).1, ?_⟩
  · by_cases e : i = k
    · subst e
      obtain rfl : y = x := by rw [hx] at hy; exact (Option.some.inj hy).symm
      obtain rfl : g' = g := by rw [List.getElem?_append_right (by omega), gl] at hg'; simp at hg'; exact hg'.symm
      refine ⟨by simp, by simp, ?_⟩
      simp only [if_true]
      exact hR.keep (by simp) fun b hb => hblk b (by have := hO.2.1 b hb; omega)
    · have n : ∀ p q : Nat, p < 3 → q < 3 → i * 3 + p ≠ k * 3 + q := by intro p q hp hq; omega
      have n0 : ∀ q : Nat, q < 3 → i * 3 ≠ k * 3 + q := by intro q hq; omega
      have n1 : ∀ p : Nat, p < 3 → i * 3 + p ≠ k * 3 := by intro q hq; omega
      have n2 : i * 3 ≠ k * 3 := by omega
      rw [List.getElem?_append_left (by omega)] at hg'
      obtain ⟨h0, h1, h2⟩ := he i y g' (by omega) hy hg'
      refine ⟨?_, ?_, ?_⟩
      · simp only [if_neg n2, if_neg (n0 1 (by omega)), if_neg (n0 2 (by omega))]; exact h0
      · simp only [if_neg (n1 1 (by omega)), if_neg (n 1 1 (by omega) (by omega)), if_neg (n 1 2 (by omega) (by omega))]; exact h1
      · simp only [if_neg (n1 2 (by omega)), if_neg (n 2 1 (by omega) (by omega)), if_neg (n 2 2 (by omega) (by omega))]
        exact h2.keep (by simp) fun b hb => hblk b (by have := own.2.1 b (List.mem_flatten.2 ⟨g', List.mem_of_getElem? hg', hb⟩); omega)
  · have hm : ∀ b ∈ (G ++ [g]).flatten, b ∈ G.flatten ∨ b ∈ g := by intro b hb; simpa using hb
    have hgt : ∀ b ∈ (G ++ [g]).flatten, B + 1 ≤ b := fun b hb => (hm b hb).elim (own.2.1 b) (fun h => by have := hO.2.1 b h; omega)
    refine Own.keep (w := w) ⟨?_, hgt, fun b hb => (hm b hb).elim (own.2.2 b) (hO.2.2 b)⟩ fun b hb => hblk b (hgt b hb)
    rw [List.flatten_append, List.nodup_append]
    refine ⟨own.1, by simpa using hO.1, fun a ha b hb => ?_⟩
    rintro rfl
    have h1 := hd a ha
    have h2 := hO.2.1 a (by simpa using hb)
    omega
theorem HalfRF.relsF {w : World} {B : Nat} {rs : List R3} {G : List (List Nat)} (h : HalfRF w B rs rs.length G) (hn : wtR rs ≤ 1048576) : ∃ F, RelsF w (.slice (some ⟨B, 0, none⟩) rs.length rs.length) rs F ∧ Own w B F := by
  obtain ⟨⟨f, hf, he⟩, gl, kl, own⟩ := h
  have hm : rs.length ≤ maxLen := by unfold wtR at hn; unfold maxLen; omega
  by_cases hne : rs = []
  · exact ⟨[], ⟨_, _, G, rfl, Nat.le_refl _, hm, (fun x => by cases x), gl, fun _ => rfl, fun x => absurd hne x⟩, by simp [Own, Free]⟩
  refine ⟨B :: G.flatten, ⟨_, _, G, rfl, Nat.le_refl _, hm, (fun x => by cases x), gl, fun x => absurd x hne, fun _ => ⟨B, 0, rfl, hf.lt, rfl, fun i x g hx hg => ?_⟩⟩, List.nodup_cons.2 ⟨fun hb => by have := own.2.1 B hb; omega, own.1⟩, fun b hb => ?_, fun b hb o => ?_⟩
  · have hi : i < rs.length := (List.getElem?_eq_some_iff.1 hx).1
    obtain ⟨e0, e1, e2⟩ := he i x g hi hx hg
    exact ⟨_, by rw [Nat.zero_add, hf.cell (by omega), e0], by rw [Nat.zero_add, hf.cell (by omega), e1], by rw [Nat.zero_add, hf.cell (by omega)], e2⟩
  · rcases List.mem_cons.1 hb with rfl | hb
    · exact Nat.le_refl _
    · have := own.2.1 b hb; omega
  · rcases List.mem_cons.1 hb with rfl | hb
    · exact hf.frozen o
    · exact own.2.2 b hb o
theorem halfRF_made (w : World) (z : Array Value) (rs : List R3) : HalfRF (w.alloc (.cells (madeCells z (rs.length * 3)) 73)) w.heap.size rs 0 [] :=
  ⟨⟨fun i => (madeCells z (rs.length * 3))[i]?.getD undef, ⟨_, blk_alloc_new _ _, size_madeCells _ _, fun i hi => by
    have : i < (madeCells z (rs.length * 3)).size := by rw [size_madeCells]; exact hi
    simp [this]⟩, fun i x g hi => by omega⟩, rfl, Nat.zero_le _, by simp [Own, Free]⟩
theorem toRel_F (s : ByteArray) (W : Int) (v : Value) (cs : List C2) (w : World) (hr : RowsIs w v cs) (hn : wtb cs ≤ 1048576) :
    Calls Try.prog 82 #[.agg #[.string s, .int .i64 W, v]] w fun e w' => (∃ a l c F, e = .returned (.agg #[.string s, .int .i64 W, .slice a l c]) ∧ RowsF w' (.slice a l c) cs F ∧ Own w' w.heap.size F) ∧ Below w.heap.size w w' :=
  (toRel_any s W v cs w hr hn).mono fun e w' ⟨⟨B, g, hB, he, h⟩, hb⟩ => by
    obtain ⟨F, h1, h2⟩ := h.rowsF (wtb_rows hn).1 (wtb_rows hn).2
    exact ⟨⟨_, _, _, F, he, h1, h2.1, fun b hb => Nat.le_trans hB (h2.2.1 b hb), h2.2.2⟩, hb⟩
set_option maxHeartbeats 2000000 in
set_option maxRecDepth 100000 in
theorem toRelS_F (v : Value) (rs : List R3) (w : World) (hr : RelsIs w v rs) (hn : wtR rs ≤ 1048576) :
    Calls Try.prog 44 #[v] w fun e w' => (∃ u F, e = .returned u ∧ RelsF w' u rs F ∧ Own w' w.heap.size F) ∧ Below w.heap.size w w' := by
  obtain ⟨a, c, b, o, rfl, hl, hc, ha⟩ := hr.pick
  unfold maxLen at hc
  clear hr
  have hn1 : rs.length ≤ 1048576 := by unfold wtR at hn; omega
  have hmk := run_make_wide (P := Try.prog) 41 73 _ 3 48 Try.underlying41 Try.infoRel rs.length (by omega) (by omega)
  go_enter Try.func44, Try.ntmps44
  go_wp2
  go_loopw [4] (fun i wr => ∃ (k : Nat) (G : List (List Nat)), k ≤ rs.length ∧ i = .int .i64 k ∧ Below w.heap.size w wr ∧ HalfRF wr w.heap.size rs k G) (fun i _ => rs.length - (intOf i).toNat)
  case atStart => exact ⟨0, [], Nat.zero_le _, rfl, by go_grown, halfRF_made _ _ _⟩
  case round =>
    obtain ⟨k, G, hk, rfl, hb, hH⟩ := hrel
    clear hmk
    by_cases hlt : k < rs.length
    · have hzb := hb.size
      obtain ⟨rfl, hblt, hL⟩ := ha k hlt
      obtain ⟨x, u, hx, c0, c1, c2, hR, hbr⟩ := hL.at hblt hb hlt
      have HX : Hid (rs[k]? = some x) := hx
      have hxn : wtb x.cs ≤ 1048576 := by have := wtr_mem (List.mem_of_getElem? hx); unfold wtr at this; unfold wtR at hn; omega
      have hBr := (hH.cells hlt).2.2.2.2
      have hGl := hH.lt
      clear ha hL hx
      go_wp2_with (go_at_call 82; refine (toRel_F _ _ _ _ _ hR hxn).mono ?_; rintro e w1 ⟨⟨a1, l1, d1, g, rfl, hRD, hOD⟩, hb1⟩; have hz1 := hb1.size; have hH1 := hH.below hb1; obtain ⟨⟨y0, g0⟩, ⟨y1, g1⟩, ⟨y2, g2⟩, gf, gs⟩ := hH1.cells hlt)
      refine ⟨⟨k + 1, _, hlt, by simp, by repeat (first | exact Below.refl _ _ | refine Below.drew ?_ | refine Below.alloc ?_ (by first | (simp; done) | (simp; omega) | omega) _ | refine Below.setCell ?_ (by first | (simp; done) | (simp; omega) | omega) _ | refine bstep (by assumption) (by first | (simp; done) | (simp; omega) | omega) ?_), hH1.step HX.out hRD hOD (by omega) hGl⟩, by simp [intOf]; omega⟩
    · go_wp2
      go_returns
      obtain rfl : k = rs.length := by omega
      obtain ⟨F, h1, h2⟩ := hH.relsF hn
      exact ⟨⟨_, F, rfl, h1, h2⟩, hb⟩
end Go.Proofs.Ytmomffaceglibaa
/- Own text. Lists of texts: how much one weighs (szStringS), a new one with the same texts (toStringS). -/
namespace Go.Proofs.Ytmomffaceglibaa
open Go.RowKit Go.Deep
set_option linter.unusedVariables false
set_option maxHeartbeats 2000000 in
set_option maxRecDepth 100000 in
theorem szStringS_any (v : Value) (ns : List ByteArray) (g : List Nat) (left : Int) (w : World) (hr : StrsF w v ns g) (hw : SsWf ns) (h0 : 0 ≤ left) (h1 : left ≤ 1048576) :
    Calls Try.prog 37 #[v, .int .i64 left] w fun e w' => (∃ z : Int, e = .returned (.int .i64 z) ∧ -1 ≤ z ∧ z ≤ left ∧ (0 ≤ z → z + (ns.length + wtSs ns) = left)) ∧ Below w.heap.size w w' := by
  obtain ⟨a, c, b, o, rfl, hl, hc, _, ha⟩ := hr.pick
  unfold maxLen at hc
  clear hr
  by_cases hbig : left - ns.length < 0
  · go_enter Try.func37, Try.ntmps37
    go_wp2
    go_returns
    exact ⟨⟨-1, rfl, by omega, by omega, by omega⟩, by go_grown⟩
  go_enter Try.func37, Try.ntmps37
  go_wp2
  go_loopw [1, 5] (fun l i wr => ∃ k : Nat, k ≤ ns.length ∧ i = .int .i64 k ∧ l = .int .i64 (left - ns.length - wtSs (ns.take k)) ∧ 0 ≤ left - ns.length - wtSs (ns.take k) ∧ Below w.heap.size w wr) (fun _ i _ => ns.length - (intOf i).toNat)
  case atStart => exact ⟨0, Nat.zero_le _, rfl, by simp [wtSs], by simp [wtSs]; omega, by go_grown⟩
  case round =>
    obtain ⟨k, hk, rfl, rfl, hp, hb⟩ := hrel
    by_cases hlt : k < ns.length
    · have hzb := hb.size
      obtain ⟨rfl, hblt, _, hC⟩ := ha k hlt
      have hx : ns[k]? = some ns[k] := by simp
      have c0 := (hb.cell (p := ⟨b, _, none⟩) hblt).trans (hC k ns[k] hx)
      have hxs : ns[k].size ≤ maxLen := hw ns[k] (List.getElem_mem hlt)
      have hT : Hid (wtSs (ns.take (k + 1)) = wtSs (ns.take k) + ns[k].size) := wtSs_take hx
      unfold maxLen at hxs
      generalize ns[k] = z at c0 hxs hT
      clear ha hC hx
      have hbr : b < wr.heap.size := by omega
      have hp1 : left - ns.length - wtSs (ns.take k) ≤ 1048576 := by omega
      obtain ⟨W, HW⟩ : ∃ W : Int, Hid (left - ns.length - wtSs (ns.take k) = W) := ⟨_, rfl⟩
      rw [HW.out] at hp hp1 ⊢
      by_cases hn : W - z.size < 0
      · go_wp2_with fail
        go_returns
        exact ⟨⟨-1, rfl, by omega, by omega, by omega⟩, hb⟩
      · go_wp2_with fail
        have hT := hT.out
        have hW := HW.out
        exact ⟨⟨k + 1, hlt, by simp, by congr 1; omega, by omega, hb⟩, by simp [intOf]; omega⟩
    · go_wp2
      go_returns
      have hkk : k = ns.length := by omega
      subst hkk
      refine ⟨⟨_, rfl, by omega, by omega, fun _ => ?_⟩, hb⟩
      rw [List.take_length]; omega
theorem Try.infoStr : (Try.prog.info? 9).map (fun i => (i.zero, i.size, i.bytes)) = some (some (.string ⟨#[]⟩), 1, 16) := by kernel_rfl
/-- texts of the call's own: block B has them, the first k are laid. -/
def HalfS (w : World) (B : Nat) (ns : List ByteArray) (k : Nat) : Prop := ∃ f, w.rowIs B 9 ns.length f ∧ ∀ i n, i < k → ns[i]? = some n → f i = .string n
theorem HalfS.cells {w : World} {B : Nat} {ns : List ByteArray} {k : Nat} (h : HalfS w B ns k) (hk : k < ns.length) : (∃ u, w.cell? ⟨B, k, none⟩ = some u) ∧ (∀ i, w.frozen? ⟨B, i, none⟩ = false) ∧ B < w.heap.size := by
  obtain ⟨f, h, _⟩ := h
  exact ⟨⟨_, h.cell (by omega)⟩, fun i => h.frozen i, h.lt⟩
theorem HalfS.step {w : World} {B : Nat} {ns : List ByteArray} {k : Nat} {x : ByteArray} (h : HalfS w B ns k) (hx : ns[k]? = some x) : HalfS (w.setCell ⟨B, k, none⟩ (.string x)) B ns (k + 1) := by
  obtain ⟨f, h, e⟩ := h
  refine ⟨_, h.set _ _, fun i y hi hy => ?_⟩
  by_cases ek : i = k
  · subst ek
    rw [hx] at hy
    simp [Option.some.inj hy]
  · simp only [if_neg ek]
    exact e i y (by omega) hy
theorem halfS_made (w : World) (z : Array Value) (ns : List ByteArray) : HalfS (w.alloc (.cells (madeCells z ns.length) 9)) w.heap.size ns 0 :=
  ⟨fun i => (madeCells z ns.length)[i]?.getD undef, ⟨_, blk_alloc_new _ _, size_madeCells _ _, fun i hi => by
    have : i < (madeCells z ns.length).size := by rw [size_madeCells]; exact hi
    simp [this]⟩, fun i x hi => by omega⟩
theorem HalfS.done {w : World} {B : Nat} {ns : List ByteArray} (h : HalfS w B ns ns.length) (hm : ns.length ≤ maxLen) (hne : ns ≠ []) : StrsF w (.slice (some ⟨B, 0, none⟩) ns.length ns.length) ns [B] ∧ OwnN w B [B] := by
  obtain ⟨f, hf, he⟩ := h
  refine ⟨⟨_, _, rfl, Nat.le_refl _, hm, fun h => absurd h hne, fun _ => ⟨B, 0, rfl, hf.lt, rfl, fun i n hn => ?_⟩⟩, by simp, fun b hb => ?_⟩
  · have hi : i < ns.length := (List.getElem?_eq_some_iff.1 hn).1
    rw [Nat.zero_add, hf.cell (by omega), he i n hi hn]
  · rcases List.mem_singleton.1 hb with rfl
    exact ⟨Nat.le_refl _, fun o => hf.frozen o⟩
set_option maxHeartbeats 2000000 in
set_option maxRecDepth 100000 in
theorem toStringS_any (v : Value) (ns : List ByteArray) (g : List Nat) (w : World) (hr : StrsF w v ns g) (hn : ns.length ≤ 1048576) :
    Calls Try.prog 43 #[v] w fun e w' => (∃ u g', e = .returned u ∧ StrsF w' u ns g' ∧ OwnN w' w.heap.size g') ∧ Below w.heap.size w w' := by
  obtain ⟨a, c, b, o, rfl, hl, hc, _, ha⟩ := hr.pick
  unfold maxLen at hc
  clear hr
  have hmk := run_make_wide (P := Try.prog) 35 9 _ 1 16 Try.underlying35 Try.infoStr ns.length (by omega) (by omega)
  go_enter Try.func43, Try.ntmps43
  go_wp2
  go_loopw [4] (fun i wr => ∃ k : Nat, k ≤ ns.length ∧ i = .int .i64 k ∧ Below w.heap.size w wr ∧ HalfS wr w.heap.size ns k) (fun i _ => ns.length - (intOf i).toNat)
  case atStart => exact ⟨0, Nat.zero_le _, rfl, by go_grown, halfS_made _ _ _⟩
  case round =>
    obtain ⟨k, hk, rfl, hb, hH⟩ := hrel
    clear hmk
    by_cases hlt : k < ns.length
    · have hzb := hb.size
      obtain ⟨rfl, hblt, _, hC⟩ := ha k hlt
      have hx : ns[k]? = some ns[k] := by simp
      have c0 := (hb.cell (p := ⟨b, _, none⟩) hblt).trans (hC k ns[k] hx)
      have HX : Hid (ns[k]? = some ns[k]) := hx
      generalize ns[k] = z at c0 HX
      obtain ⟨⟨y0, q0⟩, gf, gs⟩ := hH.cells hlt
      have hbr : b < wr.heap.size := by omega
      clear ha hC hx
      go_wp2
      exact ⟨⟨k + 1, hlt, by simp, by repeat (first | (with_reducible exact Below.refl _ _) | (with_reducible refine Below.drew ?_) | (with_reducible refine Below.alloc ?_ ?hh _; case hh => first | (simp; done) | (simp; omega) | omega) | (with_reducible refine Below.setCell ?_ ?hh _; case hh => first | (simp; done) | (simp; omega) | omega) | refine bstep (by assumption) (by first | (simp; done) | (simp; omega) | omega) ?_), hH.step HX.out⟩, by simp [intOf]; omega⟩
    · go_wp2
      go_returns
      obtain rfl : k = ns.length := by omega
      by_cases hne : ns = []
      · subst hne
        exact ⟨⟨_, [], rfl, ⟨_, _, rfl, Nat.le_refl _, by simp, fun _ => rfl, fun h => absurd rfl h⟩, by simp [OwnN]⟩, hb⟩
      · obtain ⟨h1, h2⟩ := hH.done (by unfold maxLen; omega) hne
        exact ⟨⟨_, _, rfl, h1, h2⟩, hb⟩
end Go.Proofs.Ytmomffaceglibaa
/- Own text. Steps: how much one weighs (szStep), a new one that is the same (toStep), eqStep at one step twice. -/
namespace Go.Proofs.Ytmomffaceglibaa
open Go.RowKit Go.Deep
set_option linter.unusedVariables false
set_option maxHeartbeats 2000000 in
set_option maxRecDepth 100000 in
theorem szStep_any (x : T5) (uc ur : Value) (left : Int) (w : World) (hr : StpIs w uc ur x) (hw : x.wf) (h0 : 0 ≤ left) (h1 : left ≤ 1048576) :
    Calls Try.prog 15 #[(.agg #[.int .i64 x.k, .string x.s, uc, .string x.q, ur]), .int .i64 left] w fun e w' => (∃ z : Int, e = .returned (.int .i64 z) ∧ -1 ≤ z ∧ z ≤ left ∧ (0 ≤ z → z + wtT x = left)) ∧ Below w.heap.size w w' := by
  obtain ⟨_, ws, wc, wq, wr⟩ := hw
  unfold maxLen at ws wq
  obtain ⟨⟨ac, cc, rfl, _, _⟩, ar, cr, rfl, _, _⟩ := hr.shape
  obtain ⟨⟨g, hS⟩, hR⟩ := hr
  unfold wtT
  by_cases hb1 : left - x.s.size < 0
  · go_enter Try.func15, Try.ntmps15
    go_wp2_with fail
    go_returns
    exact ⟨⟨-1, rfl, by omega, by omega, by omega⟩, by repeat (first | exact Below.refl _ _ | refine Below.drew ?_ | refine Below.alloc ?_ (by first | (simp; done) | (simp; omega) | omega) _ | refine Below.setCell ?_ (by first | (simp; done) | (simp; omega) | omega) _ | refine bstep (by assumption) (by first | (simp; done) | (simp; omega) | omega) ?_)⟩
  go_enter Try.func15, Try.ntmps15
  go_wp2_with fail
  refine Calls.mono (szStringS_any (.slice ac x.cs.length cc) x.cs g (left - x.s.size) _ (hS.below ?hb) wc (by omega) (by omega)) ?_
  case hb => repeat (first | exact Below.refl _ _ | refine Below.drew ?_ | refine Below.alloc ?_ (by first | (simp; done) | (simp; omega) | omega) _ | refine Below.setCell ?_ (by first | (simp; done) | (simp; omega) | omega) _ | refine bstep (by assumption) (by first | (simp; done) | (simp; omega) | omega) ?_)
  rintro e w1 ⟨⟨z1, rfl, l1, g1, s1⟩, hb1⟩
  have hz1 := hb1.size
  simp only [World.size_alloc] at hz1
  have qa : w1.cell? ⟨w.heap.size, 3, none⟩ = some (.string x.q) := cell_later hb1 (by go_simp)
  have qb : w1.cell? ⟨w.heap.size, 4, none⟩ = some (.slice ar x.rs.length cr) := cell_later hb1 (by go_simp)
  have bel1 : Below w.heap.size w w1 := by repeat (first | exact Below.refl _ _ | refine Below.drew ?_ | refine Below.alloc ?_ (by first | (simp; done) | (simp; omega) | omega) _ | refine Below.setCell ?_ (by first | (simp; done) | (simp; omega) | omega) _ | refine bstep (by assumption) (by first | (simp; done) | (simp; omega) | omega) ?_)
  clear hb1
  by_cases hn1 : z1 < 0
  · go_wp2_with fail
    go_returns
    exact ⟨⟨-1, rfl, by omega, by omega, by omega⟩, bel1⟩
  have hq1 := s1 (by omega)
  clear s1
  by_cases hb2 : z1 - x.q.size < 0
  · go_wp2_with fail
    go_returns
    exact ⟨⟨-1, rfl, by omega, by omega, by omega⟩, bel1⟩
  go_wp2_with fail
  refine Calls.mono (szRelS_any (.slice ar x.rs.length cr) x.rs (z1 - x.q.size) w1 (hR.below bel1) wr (by omega) (by omega)) ?_
  rintro e w2 ⟨⟨z2, rfl, l2, g2, s2⟩, hb2⟩
  have bel2 : Below w.heap.size w w2 := bel1.trans (hb2.mono bel1.size)
  by_cases hn2 : z2 < 0
  · go_wp2_with fail
    go_returns
    exact ⟨⟨-1, rfl, by omega, by omega, by omega⟩, bel2⟩
  · go_wp2_with fail
    go_returns
    exact ⟨⟨z2, rfl, by omega, by omega, fun h => by have := s2 h; omega⟩, bel2⟩
set_option maxHeartbeats 2000000 in
set_option maxRecDepth 100000 in
theorem eqStep_same (x : T5) (uc ur vc vr : Value) (w : World) (hr : StpIs w uc ur x) (hu : StpIs w vc vr x) :
    Calls Try.prog 19 #[(.agg #[.int .i64 x.k, .string x.s, uc, .string x.q, ur]), (.agg #[.int .i64 x.k, .string x.s, vc, .string x.q, vr])] w fun e w' => e = .returned (.bool true) ∧ Below w.heap.size w w' := by
  obtain ⟨⟨ac, cc, rfl, _, _⟩, ar, cr, rfl, _, _⟩ := hr.shape
  obtain ⟨⟨ac', cc', rfl, _, _⟩, ar', cr', rfl, _, _⟩ := hu.shape
  obtain ⟨⟨g, hS⟩, hR⟩ := hr
  obtain ⟨⟨g', hS'⟩, hR'⟩ := hu
  go_enter Try.func19, Try.ntmps19
  go_wp2_with fail
  refine Calls.mono (eqStringS_same (.slice ac x.cs.length cc) (.slice ac' x.cs.length cc') x.cs g g' _ (hS.below ?hb) (hS'.below ?hc)) ?_
  case hb => repeat (first | exact Below.refl _ _ | refine Below.drew ?_ | refine Below.alloc ?_ (by first | (simp; done) | (simp; omega) | omega) _ | refine Below.setCell ?_ (by first | (simp; done) | (simp; omega) | omega) _ | refine bstep (by assumption) (by first | (simp; done) | (simp; omega) | omega) ?_)
  case hc => repeat (first | exact Below.refl _ _ | refine Below.drew ?_ | refine Below.alloc ?_ (by first | (simp; done) | (simp; omega) | omega) _ | refine Below.setCell ?_ (by first | (simp; done) | (simp; omega) | omega) _ | refine bstep (by assumption) (by first | (simp; done) | (simp; omega) | omega) ?_)
  rintro e w1 ⟨rfl, hb1⟩
  have hz1 := hb1.size
  simp only [World.size_alloc] at hz1
  have qa : w1.cell? ⟨w.heap.size, 3, none⟩ = some (.string x.q) := cell_later hb1 (by go_simp)
  have qb : w1.cell? ⟨w.heap.size, 4, none⟩ = some (.slice ar x.rs.length cr) := cell_later hb1 (by go_simp)
  have qc : w1.cell? ⟨w.heap.size + 1, 3, none⟩ = some (.string x.q) := cell_later hb1 (by go_simp)
  have qd : w1.cell? ⟨w.heap.size + 1, 4, none⟩ = some (.slice ar' x.rs.length cr') := cell_later hb1 (by go_simp)
  have bel1 : Below w.heap.size w w1 := by repeat (first | exact Below.refl _ _ | refine Below.drew ?_ | refine Below.alloc ?_ (by first | (simp; done) | (simp; omega) | omega) _ | refine Below.setCell ?_ (by first | (simp; done) | (simp; omega) | omega) _ | refine bstep (by assumption) (by first | (simp; done) | (simp; omega) | omega) ?_)
  clear hb1
  go_wp2_with fail
  refine Calls.mono (eqRelS_same (.slice ar x.rs.length cr) (.slice ar' x.rs.length cr') x.rs w1 (hR.below bel1) (hR'.below bel1)) ?_
  rintro e w2 ⟨rfl, hb2⟩
  have bel2 : Below w.heap.size w w2 := bel1.trans (hb2.mono bel1.size)
  go_wp2
  go_returns
  exact ⟨rfl, bel2⟩
set_option maxHeartbeats 2000000 in
set_option maxRecDepth 100000 in
theorem toStep_is (x : T5) (uc ur : Value) (w : World) (hr : StpIs w uc ur x) (hn : wtT x ≤ 1048576) :
    Calls Try.prog 17 #[(.agg #[.int .i64 x.k, .string x.s, uc, .string x.q, ur])] w fun e w' => (∃ vc vr, e = .returned (.agg #[.int .i64 x.k, .string x.s, vc, .string x.q, vr]) ∧ StpIs w' vc vr x) ∧ Below w.heap.size w w' := by
  unfold wtT at hn
  obtain ⟨⟨ac, cc, rfl, _, _⟩, ar, cr, rfl, _, _⟩ := hr.shape
  obtain ⟨⟨g, hS⟩, hR⟩ := hr
  go_enter Try.func17, Try.ntmps17
  go_wp2_with fail
  refine Calls.mono (toStringS_any (.slice ac x.cs.length cc) x.cs g _ (hS.below ?hb) (by omega)) ?_
  case hb => repeat (first | (with_reducible exact Below.refl _ _) | (with_reducible refine Below.drew ?_) | (with_reducible refine Below.alloc ?_ ?hh _; case hh => first | (simp; done) | (simp; omega) | omega) | (with_reducible refine Below.setCell ?_ ?hh _; case hh => first | (simp; done) | (simp; omega) | omega) | refine bstep (by assumption) (by first | (simp; done) | (simp; omega) | omega) ?_)
  rintro e w1 ⟨⟨u1, g1, rfl, hS1, hO1⟩, hb1⟩
  have hz1 := hb1.size
  try simp only [World.size_alloc] at hz1 hO1
  try simp only [World.size_setCell] at hz1 hO1
  have hf1 := (bcell hb1).2
  obtain ⟨a1, c1, rfl, _, _⟩ := hS1.shape
  have hy0_1 : w.heap.size < w1.heap.size := by omega
  have hy1_1 : w.heap.size + 1 < w1.heap.size := by omega
  have hy2_1 : w.heap.size + 1 + 1 < w1.heap.size := by omega
  have c3_1 : w1.cell? ⟨w.heap.size, 3, none⟩ = some (.string x.q) := cell_later hb1 (by go_simp)
  have c4_1 : w1.cell? ⟨w.heap.size, 4, none⟩ = some (.slice ar x.rs.length cr) := cell_later hb1 (by go_simp)
  have r0_1 : w1.cell? ⟨w.heap.size + 1, 0, none⟩ = some (.int .i64 0) := cell_later hb1 (by go_simp)
  have r1_1 : w1.cell? ⟨w.heap.size + 1, 1, none⟩ = some (.string ⟨#[]⟩) := cell_later hb1 (by go_simp)
  have r2_1 : w1.cell? ⟨w.heap.size + 1, 2, none⟩ = some (.slice none 0 0) := cell_later hb1 (by go_simp)
  have r3_1 : w1.cell? ⟨w.heap.size + 1, 3, none⟩ = some (.string ⟨#[]⟩) := cell_later hb1 (by go_simp)
  have r4_1 : w1.cell? ⟨w.heap.size + 1, 4, none⟩ = some (.slice none 0 0) := cell_later hb1 (by go_simp)
  have t0_1 : w1.cell? ⟨w.heap.size + 1 + 1, 0, none⟩ = some (.int .i64 x.k) := cell_later hb1 (by go_simp)
  have t1_1 : w1.cell? ⟨w.heap.size + 1 + 1, 1, none⟩ = some (.string x.s) := cell_later hb1 (by go_simp)
  have t2_1 : w1.cell? ⟨w.heap.size + 1 + 1, 2, none⟩ = some (.slice none 0 0) := cell_later hb1 (by go_simp)
  have t3_1 : w1.cell? ⟨w.heap.size + 1 + 1, 3, none⟩ = some (.string ⟨#[]⟩) := cell_later hb1 (by go_simp)
  have t4_1 : w1.cell? ⟨w.heap.size + 1 + 1, 4, none⟩ = some (.slice none 0 0) := cell_later hb1 (by go_simp)
  have bel1 : Below w.heap.size w w1 := by repeat (first | (with_reducible exact Below.refl _ _) | (with_reducible refine Below.drew ?_) | (with_reducible refine Below.alloc ?_ ?hh _; case hh => first | (simp; done) | (simp; omega) | omega) | (with_reducible refine Below.setCell ?_ ?hh _; case hh => first | (simp; done) | (simp; omega) | omega) | refine bstep (by assumption) (by first | (simp; done) | (simp; omega) | omega) ?_)
  clear hb1
  go_wp2_with fail
  refine Calls.mono (toRelS_F (.slice ar x.rs.length cr) x.rs _ (hR.below ?hb) (by omega)) ?_
  case hb => repeat (first | (with_reducible exact bel1) | (with_reducible refine Below.setCell ?_ ?hh _; case hh => (simp; try omega)))
  rintro e w2 ⟨⟨u2, F2, rfl, hR2, hO2⟩, hb2⟩
  have hS2 := StrsF.below (StrsF.keep (w' := ((w1.setCell ⟨w.heap.size + 1 + 1, 2, none⟩ (.slice a1 x.cs.length c1)).setCell ⟨w.heap.size + 1 + 1, 3, none⟩ (.string x.q))) hS1 (by simp) (fun b hb => by have := (hO1.2 b hb).1; repeat rw [Below.heap_setCell _ _ _ _ (by simp; try omega)])) hb2
  have hg1 : ∀ b ∈ g1, b < w1.heap.size := hS1.lt
  have hz2 := hb2.size
  try simp only [World.size_alloc] at hz2 hO2
  try simp only [World.size_setCell] at hz2 hO2
  have hf2 := (bcell hb2).2
  obtain ⟨a2, l2, c2, rfl⟩ := hR2.is.shape
  have hy0_2 : w.heap.size < w2.heap.size := by omega
  have hy1_2 : w.heap.size + 1 < w2.heap.size := by omega
  have hy2_2 : w.heap.size + 1 + 1 < w2.heap.size := by omega
  have r0_2 : w2.cell? ⟨w.heap.size + 1, 0, none⟩ = some (.int .i64 0) := cell_later hb2 (by go_simp)
  have r1_2 : w2.cell? ⟨w.heap.size + 1, 1, none⟩ = some (.string ⟨#[]⟩) := cell_later hb2 (by go_simp)
  have r2_2 : w2.cell? ⟨w.heap.size + 1, 2, none⟩ = some (.slice none 0 0) := cell_later hb2 (by go_simp)
  have r3_2 : w2.cell? ⟨w.heap.size + 1, 3, none⟩ = some (.string ⟨#[]⟩) := cell_later hb2 (by go_simp)
  have r4_2 : w2.cell? ⟨w.heap.size + 1, 4, none⟩ = some (.slice none 0 0) := cell_later hb2 (by go_simp)
  have t0_2 : w2.cell? ⟨w.heap.size + 1 + 1, 0, none⟩ = some (.int .i64 x.k) := cell_later hb2 (by go_simp)
  have t1_2 : w2.cell? ⟨w.heap.size + 1 + 1, 1, none⟩ = some (.string x.s) := cell_later hb2 (by go_simp)
  have t2_2 : w2.cell? ⟨w.heap.size + 1 + 1, 2, none⟩ = some (.slice a1 x.cs.length c1) := cell_later hb2 (by go_simp)
  have t3_2 : w2.cell? ⟨w.heap.size + 1 + 1, 3, none⟩ = some (.string x.q) := cell_later hb2 (by go_simp)
  have t4_2 : w2.cell? ⟨w.heap.size + 1 + 1, 4, none⟩ = some (.slice none 0 0) := cell_later hb2 (by go_simp)
  have bel2 : Below w.heap.size w w2 := by
    refine Below.trans ?_ (hb2.mono ?_)
    · repeat (first | (with_reducible exact bel1) | (with_reducible refine Below.setCell ?_ ?hh _; case hh => (simp; try omega)))
    · simp; omega
  clear hb2
  go_wp2
  refine bodyPost_ret (v := .agg #[.int .i64 x.k, .string x.s, .slice a1 x.cs.length c1, .string x.q, .slice a2 l2 c2]) (by simp [results, Try.results17, go_sem, *]) rfl ⟨⟨_, _, rfl, ⟨g1, ?_⟩, ?_⟩, ?_⟩
  · refine hS2.keep (by simp) fun b hb => ?_
    have := (hO1.2 b hb).1
    iterate 6 rw [Below.heap_setCell _ _ _ _ (by simp; try omega)]
  · refine (hR2.keep (by simp) fun b hb => ?_).is
    have := hO2.2.1 b hb
    iterate 6 rw [Below.heap_setCell _ _ _ _ (by simp; try omega)]
  · repeat (first | (with_reducible exact bel2) | (with_reducible refine Below.setCell ?_ ?hh _; case hh => (simp; try omega)))
end Go.Proofs.Ytmomffaceglibaa
/- Own text. What the statement on GetBag holds together: the boxes of the two answers and their rows; and how it stays so behind calls and marks. -/
namespace Go.Proofs.Ytmomffaceglibaa
open Go.RowKit Go.Deep
set_option linter.unusedVariables false
structure GS (w wi : World) (A B : Nat) (W : Int) (s g : Value) (R Y : List C2) (F3 F5 : List Nat) : Prop where
  bel : Below w.heap.size w wi
  a0 : wi.cell? ⟨A, 0, none⟩ = some (.int .i64 W)
  a1 : wi.cell? ⟨A, 1, none⟩ = some s
  g0 : wi.cell? ⟨B, 0, none⟩ = some (.int .i64 W)
  g1 : wi.cell? ⟨B, 1, none⟩ = some g
  sp : RowsF wi s R F3
  gg : RowsF wi g Y F5
  o5 : Own wi w.heap.size F5
  lA : w.heap.size ≤ A
  lB : A < B
  lZ : B < wi.heap.size
  d5 : A ∉ F5 ∧ B ∉ F5
  d35 : ∀ b ∈ F3, b ∉ F5
section
variable {w wi wj : World} {A B : Nat} {W : Int} {s g : Value} {R Y : List C2} {F3 F5 : List Nat}
theorem GS.below (h : GS w wi A B W s g R Y F3 F5) (hb : Below wi.heap.size wi wj) : GS w wj A B W s g R Y F3 F5 := by
  have lA := h.lA
  have lB := h.lB
  have lZ := h.lZ
  have c : ∀ b o, b < wi.heap.size → wj.cell? ⟨b, o, none⟩ = wi.cell? ⟨b, o, none⟩ := (bcell hb).1
  exact ⟨h.bel.trans (hb.mono (by omega)), (c _ _ (by omega)).trans h.a0, (c _ _ (by omega)).trans h.a1, (c _ _ (by omega)).trans h.g0, (c _ _ (by omega)).trans h.g1, h.sp.below hb, h.gg.below hb, h.o5.below h.gg.lt hb, lA, lB, Nat.lt_of_lt_of_le lZ hb.size, h.d5, h.d35⟩
theorem GS.markG (h : GS w wi A B W s g R Y F3 F5) {Y' : List C2} (hc : Chg F5 wi wj) (hy : RowsF wj g Y' F5) : GS w wj A B W s g R Y' F3 F5 := by
  have lA := h.lA
  have lB := h.lB
  have lZ := h.lZ
  have c : ∀ b o, b < wi.heap.size → b ∉ F5 → wj.cell? ⟨b, o, none⟩ = wi.cell? ⟨b, o, none⟩ := fun b o hb hF => cell_blk (hc.block b hb hF)
  exact ⟨h.bel.trans (hc.below h.o5.2.1 (by omega)), (c _ _ (by omega) h.d5.1).trans h.a0, (c _ _ (by omega) h.d5.1).trans h.a1, (c _ _ (by omega) h.d5.2).trans h.g0, (c _ _ (by omega) h.d5.2).trans h.g1, h.sp.chg hc h.d35, hy, ⟨h.o5.1, h.o5.2.1, hc.free h.o5.2.2⟩, lA, lB, Nat.lt_of_lt_of_le lZ hc.size, h.d5, h.d35⟩
end
theorem okW_size {x : V3} (h : okW x = true) : x.s.size ≤ 100 := by
  have nil0 : x.s.toList = [] → x.s.size ≤ 100 := by
    intro e
    rw [ByteArray.toList_eq] at e
    have : x.s.data.toList.length = 0 := by rw [e]; rfl
    have : x.s.size = 0 := by simpa using this
    omega
  unfold okW okB at h
  split at h
  · simp at h; exact nil0 h.2
  split at h
  · simp at h; exact nil0 h
  split at h
  · simp at h; exact nil0 h.2
  split at h
  · simp at h; exact h.2
  · cases h
theorem wts_ok : ∀ {vs : List V3}, (∀ x ∈ vs, okW x = true) → wts vs ≤ 100 * vs.length
  | [], _ => Nat.le_refl _
  | x :: vs, h => by
    have h1 := okW_size (h x (by simp))
    have h2 := wts_ok (vs := vs) fun y hy => h y (by simp [hy])
    unfold wts at h2 ⊢
    simp only [List.map_cons, List.sum_cons, List.length_cons]
    omega
theorem wtcs_ok : ∀ {cs : List C2}, (∀ x ∈ cs, wt x.r ≤ 1212) → wtcs cs ≤ 1212 * cs.length
  | [], _ => Nat.le_refl _
  | x :: cs, h => by
    have h1 := h x (by simp)
    have h2 := wtcs_ok (cs := cs) fun y hy => h y (by simp [hy])
    unfold wtcs at h2 ⊢
    simp only [List.map_cons, List.sum_cons, List.length_cons]
    omega
theorem wtb_ok {W : Int} {cs : List C2} (h : okBag W cs = true) : wtb cs ≤ 1048576 := by
  obtain ⟨_, _, hl, hr⟩ := okBag_facts h
  have h3 : okCs W none cs = true := by simp only [okBag, Bool.and_eq_true] at h; exact h.2
  have : wtcs cs ≤ 1212 * cs.length := wtcs_ok fun x hx => by
    have ho := okCs_mem h3 x hx
    simp only [okRow, Bool.and_eq_true] at ho
    have h4 := wts_ok (vs := x.r) (List.all_eq_true.1 ho.2)
    have h5 := hr x hx
    unfold wt
    omega
  unfold wtb
  omega
theorem aC_small (s : ByteArray) : wtb (aC s) ≤ 1048576 := by
  unfold aC ansB
  split
  · exact Nat.zero_le _
  · rename_i cs h
    split at h
    · cases h
    · unfold resI at h
      split at h
      · cases h
      · rename_i cs' _
        split at h
        · rename_i ok
          cases h
          exact wtb_ok ok
        · cases h
end Go.Proofs.Ytmomffaceglibaa
/- Own text. What the statement on GetStep holds together: the boxes of the two answers; a step that is answered is small. -/
namespace Go.Proofs.Ytmomffaceglibaa
open Go.RowKit Go.Deep
set_option linter.unusedVariables false
theorem okTs_mem : ∀ {rs : List R3} {p : Option R3}, okTs p rs = true → ∀ x ∈ rs, nameB x.s = true ∧ okBag x.W x.cs = true
  | [], _, _, x, hx => by cases hx
  | y :: ys, p, h, x, hx => by
    simp only [okTs, Bool.and_eq_true] at h
    rcases List.mem_cons.1 hx with rfl | hx
    · exact ⟨h.1.1.1, h.1.1.2⟩
    · exact okTs_mem h.2 x hx
theorem wtrs_ok : ∀ {rs : List R3}, (∀ x ∈ rs, wtr x ≤ 1048586) → wtrs rs ≤ 1048586 * rs.length
  | [], _ => Nat.le_refl _
  | x :: rs, h => by
    have h1 := h x (by simp)
    have h2 := wtrs_ok (rs := rs) fun y hy => h y (by simp [hy])
    unfold wtrs at h2 ⊢
    simp only [List.map_cons, List.sum_cons, List.length_cons]
    omega
theorem okRels_small {rs : List R3} (h : okRels rs = true) : wtR rs ≤ 20971740 := by
  unfold okRels at h
  rw [Bool.and_eq_true] at h
  have h1 : rs.length ≤ 20 := by have := h.1; unfold inB at this; simp at this; omega
  have h2 := wtrs_ok (rs := rs) fun x hx => by
    obtain ⟨h3, h4⟩ := okTs_mem h.2 x hx
    have := nameB_size h3
    have := wtb_ok h4
    unfold wtr; omega
  unfold wtR; omega
theorem okStep_small {x : T5} (h : okStep x = true) : wtR x.rs ≤ 20971740 := by
  have emp : x.rs.isEmpty = true → wtR x.rs ≤ 20971740 := fun e => by rw [List.isEmpty_iff.1 e]; simp [wtR, wtrs]
  unfold okStep at h
  split at h
  · simp only [Bool.and_eq_true] at h; exact emp h.2
  split at h
  · simp only [Bool.and_eq_true] at h; exact emp h.2
  split at h
  · simp only [Bool.and_eq_true] at h; exact emp h.2
  split at h
  · simp only [Bool.and_eq_true] at h; exact okRels_small h.2
  · cases h
theorem gT_small (s : ByteArray) : (gT s).cs.length + 6 * wtR (gT s).rs ≤ 130000000 := by
  unfold gT
  split
  · rename_i h
    unfold sO at h
    rw [Bool.and_eq_true] at h
    have h1 := okStep_small h.2
    have h2 : (sX s s.size (0, false)).cs.length ≤ 255 := by
      unfold sX sC'
      dsimp only
      rw [csn_len]
      have := (cut_bd s).1
      omega
    omega
  · simp [zT, wtR, wtrs]
def box (x : T5) (uc ur : Value) : Obj := .cells #[.int .i64 x.k, .string x.s, uc, .string x.q, ur] 43 (0, 0)
theorem box_cell {w : World} {b : Nat} {x : T5} {uc ur : Value} (h : w.heap[b]? = some (box x uc ur)) : w.cell? ⟨b, 0, none⟩ = some (.int .i64 x.k) ∧ w.cell? ⟨b, 1, none⟩ = some (.string x.s) ∧ w.cell? ⟨b, 2, none⟩ = some uc ∧ w.cell? ⟨b, 3, none⟩ = some (.string x.q) ∧ w.cell? ⟨b, 4, none⟩ = some ur := by
  unfold box at h
  refine ⟨?_, ?_, ?_, ?_, ?_⟩ <;> (rw [Lib.cell_of_heap h]; rfl)
structure GT (w1 wi : World) (B : Nat) (x : T5) (sc sr gc gr : Value) : Prop where
  bs : Below w1.heap.size w1 wi
  a : wi.heap[w1.heap.size]? = some (box x sc sr)
  b : wi.heap[B]? = some (box x gc gr)
  lB : w1.heap.size < B
  sp : StpIs w1 sc sr x
section
variable {w1 wi wj : World} {B : Nat} {x : T5} {sc sr gc gr : Value}
theorem GT.is (h : GT w1 wi B x sc sr gc gr) : StpIs wi sc sr x := h.sp.below h.bs
theorem GT.lt (h : GT w1 wi B x sc sr gc gr) : B < wi.heap.size := heap_lt h.b
theorem GT.below (h : GT w1 wi B x sc sr gc gr) (hb : Below wi.heap.size wi wj) : GT w1 wj B x sc sr gc gr :=
  ⟨h.bs.trans (hb.mono h.bs.size), (hb.block _ (heap_lt h.a)).trans h.a, (hb.block _ h.lt).trans h.b, h.lB, h.sp⟩
theorem GT.chg {F : List Nat} (h : GT w1 wi B x sc sr gc gr) (hc : Chg F wi wj) (hF : ∀ b ∈ F, w1.heap.size < b ∧ b ≠ B) : GT w1 wj B x sc sr gc gr :=
  ⟨h.bs.trans (hc.below (fun b hb => Nat.le_of_lt (hF b hb).1) h.bs.size), (hc.block _ (heap_lt h.a) (fun hb => absurd (hF _ hb).1 (Nat.lt_irrefl _))).trans h.a, (hc.block _ h.lt (fun hb => (hF _ hb).2 rfl)).trans h.b, h.lB, h.sp⟩
end
end Go.Proofs.Ytmomffaceglibaa
/- Own text. The walk of the statement on GetStep. -/
namespace Go.Proofs.Ytmomffaceglibaa.fnExactGetStep
open Go.RowKit
set_option linter.unusedVariables false
set_option maxHeartbeats 4000000 in
set_option maxRecDepth 100000 in
theorem walk (s : ByteArray) (hm : s.size ≤ maxLen) (w : World) :
    Calls Try.prog 5 #[.string s] w fun e w' => e = .returned (.bool true) ∧ Below w.heap.size w w' := by
  by_cases hbig : 1048576 < s.size
  · have hbI : (1048576 : Int) < s.size := by omega
    clear hbig
    go_enter Try.func5, Try.ntmps5
    go_wp2_with fail
    go_returns
    exact ⟨rfl, Below.refl _ _⟩
  have hs : s.size ≤ 1048576 := by omega
  have hsI : decide ((1048576 : Int) < s.size) = false := by simp; omega
  have hsp := specGetStep_any s w hs
  have him := fun w' => implGetStep_any s w' hs
  have hn := gT_small s
  generalize gT s = x at *
  generalize gO s = bb at *
  clear hbig hm
  go_enter Try.func5, Try.ntmps5
  go_wp2_with fail
  refine hsp.mono ?_
  rintro e w1 ⟨⟨uc1, ur1, rfl, hB1⟩, hb1⟩
  obtain ⟨⟨ac1, cc1, rfl, _, _⟩, ar1, cr1, rfl, _, _⟩ := hB1.shape
  have hz1 := hb1.size
  clear hsp
  go_wp2_with fail
  refine (him _).mono ?_
  rintro e w2 ⟨⟨uc2, ur2, g, F, rfl, hO⟩, hb2⟩
  obtain ⟨⟨ac2, cc2, rfl, _, _⟩, ar2, cr2, rfl, _, _⟩ := hO.is.shape
  have hz2 := hb2.size
  simp only [World.size_alloc] at hz2 hO
  have bel12 : Below w1.heap.size w1 w2 := by repeat (first | (with_reducible exact Below.refl _ _) | (with_reducible refine Below.drew ?_) | (with_reducible refine Below.alloc ?_ ?hh _; case hh => first | (simp; done) | (simp; omega) | omega) | (with_reducible refine Below.setCell ?_ ?hh _; case hh => first | (simp; done) | (simp; omega) | omega) | refine bstep (by assumption) (by first | (simp; done) | (simp; omega) | omega) ?_)
  have hA2 : w2.heap[w1.heap.size]? = some (box x (.slice ac1 x.cs.length cc1) (.slice ar1 x.rs.length cr1)) := (hb2.block _ (by simp)).trans (heap_alloc_new w1 _)
  have bal : Below w2.heap.size w2 (w2.alloc (box x (.slice ac2 x.cs.length cc2) (.slice ar2 x.rs.length cr2))) := (Below.refl _ _).alloc (Nat.le_refl _) _
  have st : GT w1 (w2.alloc (box x (.slice ac2 x.cs.length cc2) (.slice ar2 x.rs.length cr2))) w2.heap.size x (.slice ac1 x.cs.length cc1) (.slice ar1 x.rs.length cr1) (.slice ac2 x.cs.length cc2) (.slice ar2 x.rs.length cr2) := ⟨bel12.trans (bal.mono (by omega)), (heap_alloc_old w2 _ (by omega)).trans hA2, heap_alloc_new w2 _, by omega, hB1⟩
  have hgF : ∀ b ∈ g ++ F, w1.heap.size < b ∧ b ≠ w2.heap.size := by
    intro b hb
    rcases List.mem_append.1 hb with hb | hb
    · have h1 := hO.2.2.1.2.1 b hb
      have h2 := hO.1.lt b hb
      omega
    · have h1 := hO.2.2.2.1.2.1 b hb
      have h2 := hO.2.1.lt b hb
      omega
  have hO' := hO.below bal
  have hwB : Below w.heap.size w w1 := hb1
  have eqb : w2.alloc (box x (.slice ac2 x.cs.length cc2) (.slice ar2 x.rs.length cr2)) = w2.alloc (.cells #[.int .i64 x.k, .string x.s, .slice ac2 x.cs.length cc2, .string x.q, .slice ar2 x.rs.length cr2] 43) := rfl
  rw [eqb] at st hO'
  have hy2 : w1.heap.size < w2.heap.size := by omega
  clear hA2 hO hb2 bel12 hb1 bal eqb
  obtain ⟨a0, a1, a2, a3, a4⟩ := box_cell st.a
  obtain ⟨g0, g1, g2, g3, g4⟩ := box_cell st.b
  go_wp2_with fail
  refine Calls.mono (eqStep_same x (.slice ac2 x.cs.length cc2) (.slice ar2 x.rs.length cr2) (.slice ac1 x.cs.length cc1) (.slice ar1 x.rs.length cr1) _ hO'.is st.is) ?_
  rintro e w3 ⟨rfl, hb3⟩
  have hz3 := hb3.size
  simp only [World.size_alloc] at hz3
  have st3 := st.below hb3
  have hO3 := hO'.below hb3
  have hy3 : w2.heap.size < w3.heap.size := by omega
  have hy3' : w1.heap.size < w3.heap.size := by omega
  clear hb3 st hO'
  clear a0 a1 a2 a3 a4 g0 g1 g2 g3 g4
  obtain ⟨a03, a13, a23, a33, a43⟩ := box_cell st3.a
  obtain ⟨g03, g13, g23, g33, g43⟩ := box_cell st3.b
  go_wp2_with fail
  refine Calls.mono (markStep_any x (.slice ac2 x.cs.length cc2) (.slice ar2 x.rs.length cr2) _ 1 g F w3 hO3 (by decide) (by omega)) ?_
  rintro e w4 ⟨rfl, hM4, hc4⟩
  have hz4 := hc4.size
  have st4 := st3.chg hc4 hgF
  have hheld := fun w' (h : Mkd w' (.slice ac2 x.cs.length cc2) (.slice ar2 x.rs.length cr2) x 1 g F) => heldStep_any x (.slice ac2 x.cs.length cc2) (.slice ar2 x.rs.length cr2) 1 g F w' h (by decide) (by omega) 0 x.k x.s x.q
  have hkn : (0 : Int) ≤ (kT 1 x : Int) := Int.natCast_nonneg _
  generalize ((kT 1 x : Nat) : Int) = kg at *
  have hkn2 : ¬ (kg < 0) := by omega
  clear hc4 st3 hO3
  clear a03 a13 a23 a33 a43 g03 g13 g23 g33 g43
  obtain ⟨a04, a14, a24, a34, a44⟩ := box_cell st4.a
  obtain ⟨g04, g14, g24, g34, g44⟩ := box_cell st4.b
  have hy4 : w2.heap.size < w4.heap.size := by omega
  have hy4' : w1.heap.size < w4.heap.size := by omega
  go_wp2_with fail
  refine Calls.mono (hheld w4 hM4) ?_
  rintro e w5 ⟨rfl, hb5⟩
  have hz5 := hb5.size
  have st5 := st4.below hb5
  have hM5 := hM4.below hb5
  clear hb5 st4 hM4
  clear a04 a14 a24 a34 a44 g04 g14 g24 g34 g44
  obtain ⟨a05, a15, a25, a35, a45⟩ := box_cell st5.a
  obtain ⟨g05, g15, g25, g35, g45⟩ := box_cell st5.b
  have hy5 : w2.heap.size < w5.heap.size := by omega
  have hy5' : w1.heap.size < w5.heap.size := by omega
  go_wp2_with fail
  refine (him w5).mono ?_
  rintro e w6 ⟨⟨uc6, ur6, g6, F6, rfl, hO6⟩, hb6⟩
  obtain ⟨⟨ac6, cc6, rfl, _, _⟩, ar6, cr6, rfl, _, _⟩ := hO6.is.shape
  have hz6 := hb6.size
  have st6 := st5.below hb6
  have hM6 := hM5.below hb6
  have bal : Below w6.heap.size w6 (w6.alloc (.cells #[.int .i64 x.k, .string x.s, .slice ac6 x.cs.length cc6, .string x.q, .slice ar6 x.rs.length cr6] 43)) := (Below.refl _ _).alloc (Nat.le_refl _) _
  have st6' := st6.below bal
  have hG := hO6.is.below bal
  have hM6' := hM6.below bal
  clear hb6 st5 hM5 him hO6 hM6
  clear a05 a15 a25 a35 a45 g05 g15 g25 g35 g45
  obtain ⟨a06, a16, a26, a36, a46⟩ := box_cell st6.a
  obtain ⟨g06, g16, g26, g36, g46⟩ := box_cell st6.b
  have hy6 : w2.heap.size < w6.heap.size := by omega
  have hy6' : w1.heap.size < w6.heap.size := by omega
  go_wp2_with fail
  refine Calls.mono (eqStep_same x (.slice ac6 x.cs.length cc6) (.slice ar6 x.rs.length cr6) (.slice ac1 x.cs.length cc1) (.slice ar1 x.rs.length cr1) _ hG st6'.is) ?_
  rintro e w7 ⟨rfl, hb7⟩
  have hz7 := hb7.size
  simp only [World.size_alloc] at hz7
  have st7 := st6'.below hb7
  have hM7 := hM6'.below hb7
  clear hb7 st6 st6' hG bal hM6'
  clear a06 a16 a26 a36 a46 g06 g16 g26 g36 g46
  obtain ⟨a07, a17, a27, a37, a47⟩ := box_cell st7.a
  obtain ⟨g07, g17, g27, g37, g47⟩ := box_cell st7.b
  have hy7 : w2.heap.size < w7.heap.size := by omega
  have hy7' : w1.heap.size < w7.heap.size := by omega
  go_wp2_with fail
  refine Calls.mono (hheld w7 hM7) ?_
  rintro e w8 ⟨rfl, hb8⟩
  have hz8 := hb8.size
  have belE : Below w.heap.size w w8 := hwB.trans ((st7.bs.trans (hb8.mono (by omega))).mono hz1)
  clear hb8 st7 hheld hM7
  clear a07 a17 a27 a37 a47 g07 g17 g27 g37 g47
  go_wp2_with fail
  go_returns
  exact ⟨rfl, belE⟩
end Go.Proofs.Ytmomffaceglibaa.fnExactGetStep
