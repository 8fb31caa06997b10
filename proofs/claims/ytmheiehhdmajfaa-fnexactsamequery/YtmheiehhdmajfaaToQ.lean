/- Own text. The contract of toSelect: a new question with the same parts, all of it in memory of the call's own. -/
import Derived.Test.YtmheiehhdmajfaaSelC
import Derived.Test.YtmheiehhdmajfaaToA
import Derived.Handy
namespace Go.Proofs.Ytmheiehhdmajfaa
open Go.RowKit Go.Deep
set_option linter.unusedVariables false
theorem Try.infoSel : (Try.prog.info? 32).map (fun i => (i.zero, i.size, i.bytes)) = some (some (.agg #[.bool false, .bool false, .slice none 0 0, .slice none 0 0, .slice none 0 0, .slice none 0 0, .slice none 0 0, .slice none 0 0]), 8, 152) := by kernel_rfl
/-- eight cells are written. -/
theorem row_set8 {w : World} {B t n : Nat} {f : Nat → Value} (h : w.rowIs B t n f) (q : Nat) (v0 v1 v2 v3 v4 v5 v6 v7 : Value) :
    ∃ f', ((((((((w.setCell ⟨B, q, none⟩ (v0)).setCell ⟨B, q + 1, none⟩ (v1)).setCell ⟨B, q + 2, none⟩ (v2)).setCell ⟨B, q + 3, none⟩ (v3)).setCell ⟨B, q + 4, none⟩ (v4)).setCell ⟨B, q + 5, none⟩ (v5)).setCell ⟨B, q + 6, none⟩ (v6)).setCell ⟨B, q + 7, none⟩ (v7)).rowIs B t n f' ∧ (f' q = v0 ∧ f' (q + 1) = v1 ∧ f' (q + 2) = v2 ∧ f' (q + 3) = v3 ∧ f' (q + 4) = v4 ∧ f' (q + 5) = v5 ∧ f' (q + 6) = v6 ∧ f' (q + 7) = v7) ∧ ∀ x, x < q ∨ q + 8 ≤ x → f' x = f x := by
  refine ⟨_, (((((((h.set _ _).set _ _).set _ _).set _ _).set _ _).set _ _).set _ _).set _ _, ?_, fun x hx => ?_⟩
  · refine ⟨?_, ?_, ?_, ?_, ?_, ?_, ?_, ?_⟩ <;> simp
  · have e : ∀ j, j < 8 → x ≠ q + j := by intro j hj; omega
    have e0 : x ≠ q := by omega
    simp only [if_neg e0, if_neg (e 1 (by omega)), if_neg (e 2 (by omega)), if_neg (e 3 (by omega)), if_neg (e 4 (by omega)), if_neg (e 5 (by omega)), if_neg (e 6 (by omega)), if_neg (e 7 (by omega))]
theorem blk_set8 (w : World) (B q b : Nat) (v0 v1 v2 v3 v4 v5 v6 v7 : Value) (hb : b ≠ B) : ((((((((w.setCell ⟨B, q, none⟩ (v0)).setCell ⟨B, q + 1, none⟩ (v1)).setCell ⟨B, q + 2, none⟩ (v2)).setCell ⟨B, q + 3, none⟩ (v3)).setCell ⟨B, q + 4, none⟩ (v4)).setCell ⟨B, q + 5, none⟩ (v5)).setCell ⟨B, q + 6, none⟩ (v6)).setCell ⟨B, q + 7, none⟩ (v7)).heap[b]? = w.heap[b]? := by
  repeat rw [Below.heap_setCell _ _ _ _ hb]
/-- the cells of a plan in a row of the call's own. -/
def rowQ (f : Nat → Value) (q : Nat) (p : S8) (ui uf uw ug um u : Value) : Prop := f (q) = .bool p.d ∧ f (q + 1) = .bool p.s ∧ f (q + 2) = ui ∧ f (q + 3) = uf ∧ f (q + 4) = uw ∧ f (q + 5) = ug ∧ f (q + 6) = um ∧ f (q + 7) = u
/-- plans of the call's own: block B has them, the first k are laid; G: the blocks of their lists. -/
structure HalfQ (w : World) (D d B : Nat) (ps : List S8) (G : List (List Nat)) (k : Nat) : Prop where
  row : ∃ f, w.rowIs B 32 (ps.length * 8) f ∧ ∀ i p, i < k → ps[i]? = some p → p.wf ∧ ∃ ui uf uw ug um u g, rowQ f (i * 8) p ui uf uw ug um u ∧ G[i]? = some g ∧ ListsQ w D (SelsIs w D d) p ui uf uw ug um u g
  len : G.length = k
  own : Own w (B + 1) G.flatten
theorem HalfQ.lt {w : World} {D d B : Nat} {ps : List S8} {G : List (List Nat)} {k : Nat} (h : HalfQ w D d B ps G k) (hk : k ≤ ps.length) : ∀ b ∈ G.flatten, b < w.heap.size := by
  obtain ⟨⟨f, hf, he⟩, hl, _⟩ := h
  intro b hb
  obtain ⟨g, hg, hbg⟩ := List.mem_flatten.1 hb
  obtain ⟨i, hi, rfl⟩ := List.mem_iff_getElem.1 hg
  have hi' : i < ps.length := by omega
  obtain ⟨_, ui, uf, uw, ug, um, u, g, _, hg, hK⟩ := he i ps[i] (by omega) (by simp)
  have : G[i] = g := by simpa [hi] using hg
  exact hK.lt b (this ▸ hbg)
theorem HalfQ.cells {w : World} {D d B : Nat} {ps : List S8} {G : List (List Nat)} {k : Nat} (h : HalfQ w D d B ps G k) (hk : k < ps.length) :
    (∃ u, w.cell? ⟨B, k * 8, none⟩ = some u) ∧ (∃ u, w.cell? ⟨B, k * 8 + 1, none⟩ = some u) ∧ (∃ u, w.cell? ⟨B, k * 8 + 2, none⟩ = some u) ∧ (∃ u, w.cell? ⟨B, k * 8 + 3, none⟩ = some u) ∧ (∃ u, w.cell? ⟨B, k * 8 + 4, none⟩ = some u) ∧ (∃ u, w.cell? ⟨B, k * 8 + 5, none⟩ = some u) ∧ (∃ u, w.cell? ⟨B, k * 8 + 6, none⟩ = some u) ∧ (∃ u, w.cell? ⟨B, k * 8 + 7, none⟩ = some u) ∧ (∀ i, w.frozen? ⟨B, i, none⟩ = false) ∧ B < w.heap.size := by
  obtain ⟨f, h, _⟩ := h.row
  exact ⟨⟨_, h.cell (by omega)⟩, ⟨_, h.cell (by omega)⟩, ⟨_, h.cell (by omega)⟩, ⟨_, h.cell (by omega)⟩, ⟨_, h.cell (by omega)⟩, ⟨_, h.cell (by omega)⟩, ⟨_, h.cell (by omega)⟩, ⟨_, h.cell (by omega)⟩, fun i => h.frozen i, h.lt⟩
theorem HalfQ.keep {w w' : World} {D d B : Nat} {ps : List S8} {G : List (List Nat)} {k : Nat} (h : HalfQ w D d B ps G k) (hs : w.heap.size ≤ w'.heap.size) (hB : w'.heap[B]? = w.heap[B]?) (hF : ∀ b ∈ G.flatten, w'.heap[b]? = w.heap[b]?) : HalfQ w' D d B ps G k := by
  obtain ⟨⟨f, hf, he⟩, hl, ho⟩ := h
  refine ⟨⟨f, hf.of_block hB, fun i p hi hx => ?_⟩, hl, ho.keep hF⟩
  obtain ⟨h0, ui, uf, uw, ug, um, u, g, hr, hg, hK⟩ := he i p hi hx
  exact ⟨h0, ui, uf, uw, ug, um, u, g, hr, hg, hK.keep hs fun b hb => hF b (List.mem_flatten.2 ⟨g, List.mem_of_getElem? hg, hb⟩)⟩
theorem HalfQ.below {w w' : World} {D d B : Nat} {ps : List S8} {G : List (List Nat)} {k : Nat} (h : HalfQ w D d B ps G k) (hk : k ≤ ps.length) (hb : Below w.heap.size w w') : HalfQ w' D d B ps G k := by
  have hB : B < w.heap.size := by obtain ⟨f, hf, _⟩ := h.row; exact hf.lt
  exact h.keep hb.size (hb.block B hB) fun b hF => hb.block b (h.lt hk b hF)
theorem HalfQ.step {w : World} {D d B : Nat} {ps : List S8} {G : List (List Nat)} {k : Nat} {p : S8} {ui uf uw ug um u : Value} {g : List Nat} (h : HalfQ w D d B ps G k) (hk : k ≤ ps.length) (hx : ps[k]? = some p) (hw : p.wf) (hK : ListsQ w D (SelsIs w D d) p ui uf uw ug um u g) (hB : Own w (B + 1) g) (hd : ∀ b ∈ G.flatten, b ∉ g) :
    HalfQ ((((((((w.setCell ⟨B, k * 8, none⟩ (.bool p.d)).setCell ⟨B, k * 8 + 1, none⟩ (.bool p.s)).setCell ⟨B, k * 8 + 2, none⟩ (ui)).setCell ⟨B, k * 8 + 3, none⟩ (uf)).setCell ⟨B, k * 8 + 4, none⟩ (uw)).setCell ⟨B, k * 8 + 5, none⟩ (ug)).setCell ⟨B, k * 8 + 6, none⟩ (um)).setCell ⟨B, k * 8 + 7, none⟩ (u)) D d B ps (G ++ [g]) (k + 1) := by
  have hlt := h.lt hk
  obtain ⟨⟨f, hf, he⟩, hl, ho⟩ := h
  obtain ⟨f', hf', hnew, hold⟩ := row_set8 hf (k * 8) (.bool p.d) (.bool p.s) (ui) (uf) (uw) (ug) (um) (u)
  have hblk : ∀ b, B + 1 ≤ b → ((((((((w.setCell ⟨B, k * 8, none⟩ (.bool p.d)).setCell ⟨B, k * 8 + 1, none⟩ (.bool p.s)).setCell ⟨B, k * 8 + 2, none⟩ (ui)).setCell ⟨B, k * 8 + 3, none⟩ (uf)).setCell ⟨B, k * 8 + 4, none⟩ (uw)).setCell ⟨B, k * 8 + 5, none⟩ (ug)).setCell ⟨B, k * 8 + 6, none⟩ (um)).setCell ⟨B, k * 8 + 7, none⟩ (u)).heap[b]? = w.heap[b]? := fun b hb => blk_set8 w B (k * 8) b _ _ _ _ _ _ _ _ (by omega)
  have hsz : w.heap.size ≤ ((((((((w.setCell ⟨B, k * 8, none⟩ (.bool p.d)).setCell ⟨B, k * 8 + 1, none⟩ (.bool p.s)).setCell ⟨B, k * 8 + 2, none⟩ (ui)).setCell ⟨B, k * 8 + 3, none⟩ (uf)).setCell ⟨B, k * 8 + 4, none⟩ (uw)).setCell ⟨B, k * 8 + 5, none⟩ (ug)).setCell ⟨B, k * 8 + 6, none⟩ (um)).setCell ⟨B, k * 8 + 7, none⟩ (u)).heap.size := by simp
  refine ⟨⟨f', hf', fun i y hi hy => ?_⟩, by simp [hl], ?_⟩
  · by_cases ei : i = k
    · subst ei
      obtain rfl : y = p := by rw [hx] at hy; exact (Option.some.inj hy).symm
      refine ⟨hw, ui, uf, uw, ug, um, u, g, hnew, ?_, hK.keep hsz fun b hb => hblk b (hB.2 b hb).1⟩
      rw [List.getElem?_append_right (by omega)]; simp [hl]
    · obtain ⟨a0, ui', uf', uw', ug', um', u', g', hr, hg', hK'⟩ := he i y (by omega) hy
      refine ⟨a0, ui', uf', uw', ug', um', u', g', ?_, ?_, hK'.keep hsz fun b hb => hblk b (ho.2 b (List.mem_flatten.2 ⟨g', List.mem_of_getElem? hg', hb⟩)).1⟩
      · unfold rowQ at hr ⊢
        rw [hold _ (by omega), hold _ (by omega), hold _ (by omega), hold _ (by omega), hold _ (by omega), hold _ (by omega), hold _ (by omega), hold _ (by omega)]
        exact hr
      · rw [List.getElem?_append_left (by omega)]; exact hg'
  · have hm : ∀ b ∈ (G ++ [g]).flatten, b ∈ G.flatten ∨ b ∈ g := by intro b hb; simpa using hb
    refine Own.keep (w := w) ⟨?_, fun b hb => (hm b hb).elim (ho.2 b) (hB.2 b)⟩ fun b hb => hblk b ((hm b hb).elim (fun h => (ho.2 b h).1) (fun h => (hB.2 b h).1))
    rw [List.flatten_append, List.nodup_append]
    refine ⟨ho.1, by simpa using hB.1, fun a ha b hb => ?_⟩
    rintro rfl
    exact hd a ha (by simpa using hb)
theorem HalfQ.sels {w : World} {D d B : Nat} {ps : List S8} {G : List (List Nat)} (h : HalfQ w D d B ps G ps.length) (hm : ps.length ≤ maxLen) (hne : ps ≠ []) :
    SelsIs w D (d + 1) (.slice (some ⟨B, 0, none⟩) ps.length ps.length) ps (B :: G.flatten) ∧ Own w B (B :: G.flatten) := by
  obtain ⟨⟨f, hf, he⟩, hl, ho⟩ := h
  refine ⟨⟨_, _, G, rfl, Nat.le_refl _, hm, hl, fun h => absurd h hne, fun _ => ⟨B, 0, rfl, hf.lt, rfl, fun i e g hx hg => ?_⟩⟩, ?_, fun b hb => ?_⟩
  · have hi : i < ps.length := (List.getElem?_eq_some_iff.1 hx).1
    obtain ⟨a0, ui, uf, uw, ug, um, u, g', ⟨r0, r1, r2, r3, r4, r5, r6, r7⟩, hg', hK⟩ := he i e hi hx
    obtain rfl : g = g' := by rw [hg] at hg'; exact Option.some.inj hg'
    rw [Nat.zero_add]
    exact ⟨a0, ui, uf, uw, ug, um, u, ⟨by rw [hf.cell (by omega), r0], by rw [hf.cell (by omega), r1], by rw [hf.cell (by omega), r2], by rw [hf.cell (by omega), r3], by rw [hf.cell (by omega), r4], by rw [hf.cell (by omega), r5], by rw [hf.cell (by omega), r6], by rw [hf.cell (by omega), r7]⟩, hK⟩
  · refine List.nodup_cons.2 ⟨fun h => ?_, ho.1⟩
    have := (ho.2 B h).1
    omega
  · rcases List.mem_cons.1 hb with rfl | hb
    · exact ⟨Nat.le_refl _, fun o => hf.frozen o⟩
    · exact ⟨Nat.le_of_succ_le (ho.2 b hb).1, (ho.2 b hb).2⟩
theorem halfQ_made (w : World) (z : Array Value) (D d : Nat) (ps : List S8) : HalfQ (w.alloc (.cells (madeCells z (ps.length * 8)) 32)) D d w.heap.size ps [] 0 :=
  ⟨⟨fun i => (madeCells z (ps.length * 8))[i]?.getD undef, ⟨_, blk_alloc_new _ _, size_madeCells _ _, fun i hi => by
    have : i < (madeCells z (ps.length * 8)).size := by rw [size_madeCells]; exact hi
    simp [this]⟩, fun i x hi => by omega⟩, rfl, by simp [Own]⟩
/-- toSelectS at kids that are at most d deep. -/
def ToQS (D d : Nat) : Prop := ∀ (v : Value) (ps : List S8) (F : List Nat) (w : World), SelsIs w D d v ps F → ps.length + wtQs ps ≤ 1048576 →
    Calls Try.prog 15 #[v] w fun e w' => (∃ u F', e = .returned u ∧ SelsIs w' D d u ps F' ∧ Own w' w.heap.size F') ∧ Below w.heap.size w w'
set_option maxHeartbeats 8000000 in
set_option maxRecDepth 100000 in
theorem toSelect_of {D d : Nat} (hS : ToQS D d) (p : S8) (ui uf uw ug um u : Value) (g : List Nat) (w : World) (hL : ListsQ w D (SelsIs w D d) p ui uf uw ug um u g) (hn : wtQ p ≤ 1048576) :
    Calls Try.prog 6 #[(.agg #[.bool p.d, .bool p.s, ui, uf, uw, ug, um, u])] w fun x w' => (∃ ui' uf' uw' ug' um' u' g', x = .returned (.agg #[.bool p.d, .bool p.s, ui', uf', uw', ug', um', u']) ∧ ListsQ w' D (SelsIs w' D d) p ui' uf' uw' ug' um' u' g' ∧ Own w' w.heap.size g') ∧ Below w.heap.size w w' := by
  obtain ⟨a0, c0, a1, c1, a2, c2, a3, c3, a4, c4, a5, c5, rfl, rfl, rfl, rfl, rfl, rfl, _, _, _, _, _, _, _, _, _, _, _, _⟩ := hL.shape
  obtain ⟨Fi, Ff, Fw, Fg, Fm, h, rfl, ki, kf, kw, kg, km, kn⟩ := hL
  rw [wtQ_eq] at hn
  go_enter Try.func6, Try.ntmps6
  go_wp2_with fail
  refine Calls.mono (toAstS_any D (.slice a0 p.it.length c0) p.it Fi _ (ki.below ?hb) (by omega)) ?_
  case hb => repeat (first | (with_reducible exact Below.refl _ _) | (with_reducible refine Below.drew ?_) | (with_reducible refine Below.alloc ?_ ?hh _; case hh => first | (simp; done) | (simp; omega) | omega) | (with_reducible refine Below.setCell ?_ ?hh _; case hh => first | (simp; done) | (simp; omega) | omega) | refine bstep (by assumption) (by first | (simp; done) | (simp; omega) | omega) ?_)
  rintro x w1 ⟨⟨u1, F1, rfl, hK1, hO1⟩, hb1⟩
  have hz1 := hb1.size
  try simp only [World.size_alloc] at hz1 hO1
  try simp only [World.size_setCell] at hz1 hO1
  have hf1 := (bcell hb1).2
  obtain ⟨b1, e1, rfl, _⟩ := hK1.shape
  have hy0_1 : w.heap.size < w1.heap.size := by omega
  have hy1_1 : w.heap.size + 1 < w1.heap.size := by omega
  have hy2_1 : w.heap.size + 1 + 1 < w1.heap.size := by omega
  have c3_1 : w1.cell? ⟨w.heap.size, 3, none⟩ = some (.slice a1 p.fr.length c1) := cell_later hb1 (by go_simp)
  have c4_1 : w1.cell? ⟨w.heap.size, 4, none⟩ = some (.slice a2 p.wh.length c2) := cell_later hb1 (by go_simp)
  have c5_1 : w1.cell? ⟨w.heap.size, 5, none⟩ = some (.slice a3 p.gr.length c3) := cell_later hb1 (by go_simp)
  have c6_1 : w1.cell? ⟨w.heap.size, 6, none⟩ = some (.slice a4 p.su.length c4) := cell_later hb1 (by go_simp)
  have c7_1 : w1.cell? ⟨w.heap.size, 7, none⟩ = some (.slice a5 p.ks.length c5) := cell_later hb1 (by go_simp)
  have r0_1 : w1.cell? ⟨w.heap.size + 1, 0, none⟩ = some (.bool false) := cell_later hb1 (by go_simp)
  have r1_1 : w1.cell? ⟨w.heap.size + 1, 1, none⟩ = some (.bool false) := cell_later hb1 (by go_simp)
  have r2_1 : w1.cell? ⟨w.heap.size + 1, 2, none⟩ = some (.slice none 0 0) := cell_later hb1 (by go_simp)
  have r3_1 : w1.cell? ⟨w.heap.size + 1, 3, none⟩ = some (.slice none 0 0) := cell_later hb1 (by go_simp)
  have r4_1 : w1.cell? ⟨w.heap.size + 1, 4, none⟩ = some (.slice none 0 0) := cell_later hb1 (by go_simp)
  have r5_1 : w1.cell? ⟨w.heap.size + 1, 5, none⟩ = some (.slice none 0 0) := cell_later hb1 (by go_simp)
  have r6_1 : w1.cell? ⟨w.heap.size + 1, 6, none⟩ = some (.slice none 0 0) := cell_later hb1 (by go_simp)
  have r7_1 : w1.cell? ⟨w.heap.size + 1, 7, none⟩ = some (.slice none 0 0) := cell_later hb1 (by go_simp)
  have t0_1 : w1.cell? ⟨w.heap.size + 1 + 1, 0, none⟩ = some (.bool p.d) := cell_later hb1 (by go_simp)
  have t1_1 : w1.cell? ⟨w.heap.size + 1 + 1, 1, none⟩ = some (.bool p.s) := cell_later hb1 (by go_simp)
  have t2_1 : w1.cell? ⟨w.heap.size + 1 + 1, 2, none⟩ = some (.slice none 0 0) := cell_later hb1 (by go_simp)
  have t3_1 : w1.cell? ⟨w.heap.size + 1 + 1, 3, none⟩ = some (.slice none 0 0) := cell_later hb1 (by go_simp)
  have t4_1 : w1.cell? ⟨w.heap.size + 1 + 1, 4, none⟩ = some (.slice none 0 0) := cell_later hb1 (by go_simp)
  have t5_1 : w1.cell? ⟨w.heap.size + 1 + 1, 5, none⟩ = some (.slice none 0 0) := cell_later hb1 (by go_simp)
  have t6_1 : w1.cell? ⟨w.heap.size + 1 + 1, 6, none⟩ = some (.slice none 0 0) := cell_later hb1 (by go_simp)
  have t7_1 : w1.cell? ⟨w.heap.size + 1 + 1, 7, none⟩ = some (.slice none 0 0) := cell_later hb1 (by go_simp)
  have bel1 : Below w.heap.size w w1 := by repeat (first | (with_reducible exact Below.refl _ _) | (with_reducible refine Below.drew ?_) | (with_reducible refine Below.alloc ?_ ?hh _; case hh => first | (simp; done) | (simp; omega) | omega) | (with_reducible refine Below.setCell ?_ ?hh _; case hh => first | (simp; done) | (simp; omega) | omega) | refine bstep (by assumption) (by first | (simp; done) | (simp; omega) | omega) ?_)
  clear hb1
  go_wp2_with fail
  refine Calls.mono (toStringS_any (.slice a1 p.fr.length c1) p.fr Ff _ (kf.below ?hb) (by omega)) ?_
  case hb => repeat (first | (with_reducible exact bel1) | (with_reducible refine Below.setCell ?_ ?hh _; case hh => (simp; try omega)))
  rintro x w2 ⟨⟨u2, F2, rfl, hK2, hO2⟩, hb2⟩
  have hK1_2 := AstsIs.below (AstsIs.keep (w' := (w1.setCell ⟨w.heap.size + 1 + 1, 2, none⟩ (.slice b1 p.it.length e1))) (by simp) hK1 (fun b hb => by have := (hO1.2 b hb).1; repeat rw [Below.heap_setCell _ _ _ _ (by simp; try omega)])) hb2
  have hO1_2 := Own.below (Own.keep (w' := (w1.setCell ⟨w.heap.size + 1 + 1, 2, none⟩ (.slice b1 p.it.length e1))) hO1 (fun b hb => by have := (hO1.2 b hb).1; repeat rw [Below.heap_setCell _ _ _ _ (by simp; try omega)])) (fun b hb => by have := hK1.lt b hb; simpa using this) hb2
  have hF1 : ∀ b ∈ F1, b < w1.heap.size := hK1.lt
  have hz2 := hb2.size
  try simp only [World.size_alloc] at hz2 hO2
  try simp only [World.size_setCell] at hz2 hO2
  have hf2 := (bcell hb2).2
  obtain ⟨b2, e2, rfl, _⟩ := hK2.shape
  have hy0_2 : w.heap.size < w2.heap.size := by omega
  have hy1_2 : w.heap.size + 1 < w2.heap.size := by omega
  have hy2_2 : w.heap.size + 1 + 1 < w2.heap.size := by omega
  have c4_2 : w2.cell? ⟨w.heap.size, 4, none⟩ = some (.slice a2 p.wh.length c2) := cell_later hb2 (by go_simp)
  have c5_2 : w2.cell? ⟨w.heap.size, 5, none⟩ = some (.slice a3 p.gr.length c3) := cell_later hb2 (by go_simp)
  have c6_2 : w2.cell? ⟨w.heap.size, 6, none⟩ = some (.slice a4 p.su.length c4) := cell_later hb2 (by go_simp)
  have c7_2 : w2.cell? ⟨w.heap.size, 7, none⟩ = some (.slice a5 p.ks.length c5) := cell_later hb2 (by go_simp)
  have r0_2 : w2.cell? ⟨w.heap.size + 1, 0, none⟩ = some (.bool false) := cell_later hb2 (by go_simp)
  have r1_2 : w2.cell? ⟨w.heap.size + 1, 1, none⟩ = some (.bool false) := cell_later hb2 (by go_simp)
  have r2_2 : w2.cell? ⟨w.heap.size + 1, 2, none⟩ = some (.slice none 0 0) := cell_later hb2 (by go_simp)
  have r3_2 : w2.cell? ⟨w.heap.size + 1, 3, none⟩ = some (.slice none 0 0) := cell_later hb2 (by go_simp)
  have r4_2 : w2.cell? ⟨w.heap.size + 1, 4, none⟩ = some (.slice none 0 0) := cell_later hb2 (by go_simp)
  have r5_2 : w2.cell? ⟨w.heap.size + 1, 5, none⟩ = some (.slice none 0 0) := cell_later hb2 (by go_simp)
  have r6_2 : w2.cell? ⟨w.heap.size + 1, 6, none⟩ = some (.slice none 0 0) := cell_later hb2 (by go_simp)
  have r7_2 : w2.cell? ⟨w.heap.size + 1, 7, none⟩ = some (.slice none 0 0) := cell_later hb2 (by go_simp)
  have t0_2 : w2.cell? ⟨w.heap.size + 1 + 1, 0, none⟩ = some (.bool p.d) := cell_later hb2 (by go_simp)
  have t1_2 : w2.cell? ⟨w.heap.size + 1 + 1, 1, none⟩ = some (.bool p.s) := cell_later hb2 (by go_simp)
  have t2_2 : w2.cell? ⟨w.heap.size + 1 + 1, 2, none⟩ = some (.slice b1 p.it.length e1) := cell_later hb2 (by go_simp)
  have t3_2 : w2.cell? ⟨w.heap.size + 1 + 1, 3, none⟩ = some (.slice none 0 0) := cell_later hb2 (by go_simp)
  have t4_2 : w2.cell? ⟨w.heap.size + 1 + 1, 4, none⟩ = some (.slice none 0 0) := cell_later hb2 (by go_simp)
  have t5_2 : w2.cell? ⟨w.heap.size + 1 + 1, 5, none⟩ = some (.slice none 0 0) := cell_later hb2 (by go_simp)
  have t6_2 : w2.cell? ⟨w.heap.size + 1 + 1, 6, none⟩ = some (.slice none 0 0) := cell_later hb2 (by go_simp)
  have t7_2 : w2.cell? ⟨w.heap.size + 1 + 1, 7, none⟩ = some (.slice none 0 0) := cell_later hb2 (by go_simp)
  have bel2 : Below w.heap.size w w2 := (by repeat (first | (with_reducible exact bel1) | (with_reducible refine Below.setCell ?_ ?hh _; case hh => (simp; try omega))) : Below w.heap.size w (w1.setCell ⟨w.heap.size + 1 + 1, 2, none⟩ (.slice b1 p.it.length e1))).trans (hb2.mono (by simp; omega))
  clear hb2 c3_1 c4_1 c5_1 c6_1 c7_1 r0_1 r1_1 r2_1 r3_1 r4_1 r5_1 r6_1 r7_1 t0_1 t1_1 t2_1 t3_1 t4_1 t5_1 t6_1 t7_1 hK1 hO1
  go_wp2_with fail
  refine Calls.mono (toAstS_any D (.slice a2 p.wh.length c2) p.wh Fw _ (kw.below ?hb) (by omega)) ?_
  case hb => repeat (first | (with_reducible exact bel2) | (with_reducible refine Below.setCell ?_ ?hh _; case hh => (simp; try omega)))
  rintro x w3 ⟨⟨u3, F3, rfl, hK3, hO3⟩, hb3⟩
  have hK1_3 := AstsIs.below (AstsIs.keep (w' := (w2.setCell ⟨w.heap.size + 1 + 1, 3, none⟩ (.slice b2 p.fr.length e2))) (by simp) hK1_2 (fun b hb => by have := (hO1_2.2 b hb).1; repeat rw [Below.heap_setCell _ _ _ _ (by simp; try omega)])) hb3
  have hO1_3 := Own.below (Own.keep (w' := (w2.setCell ⟨w.heap.size + 1 + 1, 3, none⟩ (.slice b2 p.fr.length e2))) hO1_2 (fun b hb => by have := (hO1_2.2 b hb).1; repeat rw [Below.heap_setCell _ _ _ _ (by simp; try omega)])) (fun b hb => by have := hK1_2.lt b hb; simpa using this) hb3
  have hK2_3 := StrsF.below (StrsF.keep hK2 (w' := (w2.setCell ⟨w.heap.size + 1 + 1, 3, none⟩ (.slice b2 p.fr.length e2))) (by simp) (fun b hb => by have := (hO2.2 b hb).1; repeat rw [Below.heap_setCell _ _ _ _ (by simp; try omega)])) hb3
  have hO2_3 := Own.below (Own.keep (w' := (w2.setCell ⟨w.heap.size + 1 + 1, 3, none⟩ (.slice b2 p.fr.length e2))) hO2 (fun b hb => by have := (hO2.2 b hb).1; repeat rw [Below.heap_setCell _ _ _ _ (by simp; try omega)])) (fun b hb => by have := hK2.lt b hb; simpa using this) hb3
  have hF2 : ∀ b ∈ F2, b < w2.heap.size := hK2.lt
  have hz3 := hb3.size
  try simp only [World.size_alloc] at hz3 hO3
  try simp only [World.size_setCell] at hz3 hO3
  have hf3 := (bcell hb3).2
  obtain ⟨b3, e3, rfl, _⟩ := hK3.shape
  have hy0_3 : w.heap.size < w3.heap.size := by omega
  have hy1_3 : w.heap.size + 1 < w3.heap.size := by omega
  have hy2_3 : w.heap.size + 1 + 1 < w3.heap.size := by omega
  have c5_3 : w3.cell? ⟨w.heap.size, 5, none⟩ = some (.slice a3 p.gr.length c3) := cell_later hb3 (by go_simp)
  have c6_3 : w3.cell? ⟨w.heap.size, 6, none⟩ = some (.slice a4 p.su.length c4) := cell_later hb3 (by go_simp)
  have c7_3 : w3.cell? ⟨w.heap.size, 7, none⟩ = some (.slice a5 p.ks.length c5) := cell_later hb3 (by go_simp)
  have r0_3 : w3.cell? ⟨w.heap.size + 1, 0, none⟩ = some (.bool false) := cell_later hb3 (by go_simp)
  have r1_3 : w3.cell? ⟨w.heap.size + 1, 1, none⟩ = some (.bool false) := cell_later hb3 (by go_simp)
  have r2_3 : w3.cell? ⟨w.heap.size + 1, 2, none⟩ = some (.slice none 0 0) := cell_later hb3 (by go_simp)
  have r3_3 : w3.cell? ⟨w.heap.size + 1, 3, none⟩ = some (.slice none 0 0) := cell_later hb3 (by go_simp)
  have r4_3 : w3.cell? ⟨w.heap.size + 1, 4, none⟩ = some (.slice none 0 0) := cell_later hb3 (by go_simp)
  have r5_3 : w3.cell? ⟨w.heap.size + 1, 5, none⟩ = some (.slice none 0 0) := cell_later hb3 (by go_simp)
  have r6_3 : w3.cell? ⟨w.heap.size + 1, 6, none⟩ = some (.slice none 0 0) := cell_later hb3 (by go_simp)
  have r7_3 : w3.cell? ⟨w.heap.size + 1, 7, none⟩ = some (.slice none 0 0) := cell_later hb3 (by go_simp)
  have t0_3 : w3.cell? ⟨w.heap.size + 1 + 1, 0, none⟩ = some (.bool p.d) := cell_later hb3 (by go_simp)
  have t1_3 : w3.cell? ⟨w.heap.size + 1 + 1, 1, none⟩ = some (.bool p.s) := cell_later hb3 (by go_simp)
  have t2_3 : w3.cell? ⟨w.heap.size + 1 + 1, 2, none⟩ = some (.slice b1 p.it.length e1) := cell_later hb3 (by go_simp)
  have t3_3 : w3.cell? ⟨w.heap.size + 1 + 1, 3, none⟩ = some (.slice b2 p.fr.length e2) := cell_later hb3 (by go_simp)
  have t4_3 : w3.cell? ⟨w.heap.size + 1 + 1, 4, none⟩ = some (.slice none 0 0) := cell_later hb3 (by go_simp)
  have t5_3 : w3.cell? ⟨w.heap.size + 1 + 1, 5, none⟩ = some (.slice none 0 0) := cell_later hb3 (by go_simp)
  have t6_3 : w3.cell? ⟨w.heap.size + 1 + 1, 6, none⟩ = some (.slice none 0 0) := cell_later hb3 (by go_simp)
  have t7_3 : w3.cell? ⟨w.heap.size + 1 + 1, 7, none⟩ = some (.slice none 0 0) := cell_later hb3 (by go_simp)
  have bel3 : Below w.heap.size w w3 := (by repeat (first | (with_reducible exact bel2) | (with_reducible refine Below.setCell ?_ ?hh _; case hh => (simp; try omega))) : Below w.heap.size w (w2.setCell ⟨w.heap.size + 1 + 1, 3, none⟩ (.slice b2 p.fr.length e2))).trans (hb3.mono (by simp; omega))
  clear hb3 c4_2 c5_2 c6_2 c7_2 r0_2 r1_2 r2_2 r3_2 r4_2 r5_2 r6_2 r7_2 t0_2 t1_2 t2_2 t3_2 t4_2 t5_2 t6_2 t7_2 hK1_2 hO1_2 hK2 hO2
  go_wp2_with fail
  refine Calls.mono (toAstS_any D (.slice a3 p.gr.length c3) p.gr Fg _ (kg.below ?hb) (by omega)) ?_
  case hb => repeat (first | (with_reducible exact bel3) | (with_reducible refine Below.setCell ?_ ?hh _; case hh => (simp; try omega)))
  rintro x w4 ⟨⟨u4, F4, rfl, hK4, hO4⟩, hb4⟩
  have hK1_4 := AstsIs.below (AstsIs.keep (w' := (w3.setCell ⟨w.heap.size + 1 + 1, 4, none⟩ (.slice b3 p.wh.length e3))) (by simp) hK1_3 (fun b hb => by have := (hO1_3.2 b hb).1; repeat rw [Below.heap_setCell _ _ _ _ (by simp; try omega)])) hb4
  have hO1_4 := Own.below (Own.keep (w' := (w3.setCell ⟨w.heap.size + 1 + 1, 4, none⟩ (.slice b3 p.wh.length e3))) hO1_3 (fun b hb => by have := (hO1_3.2 b hb).1; repeat rw [Below.heap_setCell _ _ _ _ (by simp; try omega)])) (fun b hb => by have := hK1_3.lt b hb; simpa using this) hb4
  have hK2_4 := StrsF.below (StrsF.keep hK2_3 (w' := (w3.setCell ⟨w.heap.size + 1 + 1, 4, none⟩ (.slice b3 p.wh.length e3))) (by simp) (fun b hb => by have := (hO2_3.2 b hb).1; repeat rw [Below.heap_setCell _ _ _ _ (by simp; try omega)])) hb4
  have hO2_4 := Own.below (Own.keep (w' := (w3.setCell ⟨w.heap.size + 1 + 1, 4, none⟩ (.slice b3 p.wh.length e3))) hO2_3 (fun b hb => by have := (hO2_3.2 b hb).1; repeat rw [Below.heap_setCell _ _ _ _ (by simp; try omega)])) (fun b hb => by have := hK2_3.lt b hb; simpa using this) hb4
  have hK3_4 := AstsIs.below (AstsIs.keep (w' := (w3.setCell ⟨w.heap.size + 1 + 1, 4, none⟩ (.slice b3 p.wh.length e3))) (by simp) hK3 (fun b hb => by have := (hO3.2 b hb).1; repeat rw [Below.heap_setCell _ _ _ _ (by simp; try omega)])) hb4
  have hO3_4 := Own.below (Own.keep (w' := (w3.setCell ⟨w.heap.size + 1 + 1, 4, none⟩ (.slice b3 p.wh.length e3))) hO3 (fun b hb => by have := (hO3.2 b hb).1; repeat rw [Below.heap_setCell _ _ _ _ (by simp; try omega)])) (fun b hb => by have := hK3.lt b hb; simpa using this) hb4
  have hF3 : ∀ b ∈ F3, b < w3.heap.size := hK3.lt
  have hz4 := hb4.size
  try simp only [World.size_alloc] at hz4 hO4
  try simp only [World.size_setCell] at hz4 hO4
  have hf4 := (bcell hb4).2
  obtain ⟨b4, e4, rfl, _⟩ := hK4.shape
  have hy0_4 : w.heap.size < w4.heap.size := by omega
  have hy1_4 : w.heap.size + 1 < w4.heap.size := by omega
  have hy2_4 : w.heap.size + 1 + 1 < w4.heap.size := by omega
  have c6_4 : w4.cell? ⟨w.heap.size, 6, none⟩ = some (.slice a4 p.su.length c4) := cell_later hb4 (by go_simp)
  have c7_4 : w4.cell? ⟨w.heap.size, 7, none⟩ = some (.slice a5 p.ks.length c5) := cell_later hb4 (by go_simp)
  have r0_4 : w4.cell? ⟨w.heap.size + 1, 0, none⟩ = some (.bool false) := cell_later hb4 (by go_simp)
  have r1_4 : w4.cell? ⟨w.heap.size + 1, 1, none⟩ = some (.bool false) := cell_later hb4 (by go_simp)
  have r2_4 : w4.cell? ⟨w.heap.size + 1, 2, none⟩ = some (.slice none 0 0) := cell_later hb4 (by go_simp)
  have r3_4 : w4.cell? ⟨w.heap.size + 1, 3, none⟩ = some (.slice none 0 0) := cell_later hb4 (by go_simp)
  have r4_4 : w4.cell? ⟨w.heap.size + 1, 4, none⟩ = some (.slice none 0 0) := cell_later hb4 (by go_simp)
  have r5_4 : w4.cell? ⟨w.heap.size + 1, 5, none⟩ = some (.slice none 0 0) := cell_later hb4 (by go_simp)
  have r6_4 : w4.cell? ⟨w.heap.size + 1, 6, none⟩ = some (.slice none 0 0) := cell_later hb4 (by go_simp)
  have r7_4 : w4.cell? ⟨w.heap.size + 1, 7, none⟩ = some (.slice none 0 0) := cell_later hb4 (by go_simp)
  have t0_4 : w4.cell? ⟨w.heap.size + 1 + 1, 0, none⟩ = some (.bool p.d) := cell_later hb4 (by go_simp)
  have t1_4 : w4.cell? ⟨w.heap.size + 1 + 1, 1, none⟩ = some (.bool p.s) := cell_later hb4 (by go_simp)
  have t2_4 : w4.cell? ⟨w.heap.size + 1 + 1, 2, none⟩ = some (.slice b1 p.it.length e1) := cell_later hb4 (by go_simp)
  have t3_4 : w4.cell? ⟨w.heap.size + 1 + 1, 3, none⟩ = some (.slice b2 p.fr.length e2) := cell_later hb4 (by go_simp)
  have t4_4 : w4.cell? ⟨w.heap.size + 1 + 1, 4, none⟩ = some (.slice b3 p.wh.length e3) := cell_later hb4 (by go_simp)
  have t5_4 : w4.cell? ⟨w.heap.size + 1 + 1, 5, none⟩ = some (.slice none 0 0) := cell_later hb4 (by go_simp)
  have t6_4 : w4.cell? ⟨w.heap.size + 1 + 1, 6, none⟩ = some (.slice none 0 0) := cell_later hb4 (by go_simp)
  have t7_4 : w4.cell? ⟨w.heap.size + 1 + 1, 7, none⟩ = some (.slice none 0 0) := cell_later hb4 (by go_simp)
  have bel4 : Below w.heap.size w w4 := (by repeat (first | (with_reducible exact bel3) | (with_reducible refine Below.setCell ?_ ?hh _; case hh => (simp; try omega))) : Below w.heap.size w (w3.setCell ⟨w.heap.size + 1 + 1, 4, none⟩ (.slice b3 p.wh.length e3))).trans (hb4.mono (by simp; omega))
  clear hb4 c5_3 c6_3 c7_3 r0_3 r1_3 r2_3 r3_3 r4_3 r5_3 r6_3 r7_3 t0_3 t1_3 t2_3 t3_3 t4_3 t5_3 t6_3 t7_3 hK1_3 hO1_3 hK2_3 hO2_3 hK3 hO3
  go_wp2_with fail
  refine Calls.mono (toAstS_any D (.slice a4 p.su.length c4) p.su Fm _ (km.below ?hb) (by omega)) ?_
  case hb => repeat (first | (with_reducible exact bel4) | (with_reducible refine Below.setCell ?_ ?hh _; case hh => (simp; try omega)))
  rintro x w5 ⟨⟨u5, F5, rfl, hK5, hO5⟩, hb5⟩
  have hK1_5 := AstsIs.below (AstsIs.keep (w' := (w4.setCell ⟨w.heap.size + 1 + 1, 5, none⟩ (.slice b4 p.gr.length e4))) (by simp) hK1_4 (fun b hb => by have := (hO1_4.2 b hb).1; repeat rw [Below.heap_setCell _ _ _ _ (by simp; try omega)])) hb5
  have hO1_5 := Own.below (Own.keep (w' := (w4.setCell ⟨w.heap.size + 1 + 1, 5, none⟩ (.slice b4 p.gr.length e4))) hO1_4 (fun b hb => by have := (hO1_4.2 b hb).1; repeat rw [Below.heap_setCell _ _ _ _ (by simp; try omega)])) (fun b hb => by have := hK1_4.lt b hb; simpa using this) hb5
  have hK2_5 := StrsF.below (StrsF.keep hK2_4 (w' := (w4.setCell ⟨w.heap.size + 1 + 1, 5, none⟩ (.slice b4 p.gr.length e4))) (by simp) (fun b hb => by have := (hO2_4.2 b hb).1; repeat rw [Below.heap_setCell _ _ _ _ (by simp; try omega)])) hb5
  have hO2_5 := Own.below (Own.keep (w' := (w4.setCell ⟨w.heap.size + 1 + 1, 5, none⟩ (.slice b4 p.gr.length e4))) hO2_4 (fun b hb => by have := (hO2_4.2 b hb).1; repeat rw [Below.heap_setCell _ _ _ _ (by simp; try omega)])) (fun b hb => by have := hK2_4.lt b hb; simpa using this) hb5
  have hK3_5 := AstsIs.below (AstsIs.keep (w' := (w4.setCell ⟨w.heap.size + 1 + 1, 5, none⟩ (.slice b4 p.gr.length e4))) (by simp) hK3_4 (fun b hb => by have := (hO3_4.2 b hb).1; repeat rw [Below.heap_setCell _ _ _ _ (by simp; try omega)])) hb5
  have hO3_5 := Own.below (Own.keep (w' := (w4.setCell ⟨w.heap.size + 1 + 1, 5, none⟩ (.slice b4 p.gr.length e4))) hO3_4 (fun b hb => by have := (hO3_4.2 b hb).1; repeat rw [Below.heap_setCell _ _ _ _ (by simp; try omega)])) (fun b hb => by have := hK3_4.lt b hb; simpa using this) hb5
  have hK4_5 := AstsIs.below (AstsIs.keep (w' := (w4.setCell ⟨w.heap.size + 1 + 1, 5, none⟩ (.slice b4 p.gr.length e4))) (by simp) hK4 (fun b hb => by have := (hO4.2 b hb).1; repeat rw [Below.heap_setCell _ _ _ _ (by simp; try omega)])) hb5
  have hO4_5 := Own.below (Own.keep (w' := (w4.setCell ⟨w.heap.size + 1 + 1, 5, none⟩ (.slice b4 p.gr.length e4))) hO4 (fun b hb => by have := (hO4.2 b hb).1; repeat rw [Below.heap_setCell _ _ _ _ (by simp; try omega)])) (fun b hb => by have := hK4.lt b hb; simpa using this) hb5
  have hF4 : ∀ b ∈ F4, b < w4.heap.size := hK4.lt
  have hz5 := hb5.size
  try simp only [World.size_alloc] at hz5 hO5
  try simp only [World.size_setCell] at hz5 hO5
  have hf5 := (bcell hb5).2
  obtain ⟨b5, e5, rfl, _⟩ := hK5.shape
  have hy0_5 : w.heap.size < w5.heap.size := by omega
  have hy1_5 : w.heap.size + 1 < w5.heap.size := by omega
  have hy2_5 : w.heap.size + 1 + 1 < w5.heap.size := by omega
  have c7_5 : w5.cell? ⟨w.heap.size, 7, none⟩ = some (.slice a5 p.ks.length c5) := cell_later hb5 (by go_simp)
  have r0_5 : w5.cell? ⟨w.heap.size + 1, 0, none⟩ = some (.bool false) := cell_later hb5 (by go_simp)
  have r1_5 : w5.cell? ⟨w.heap.size + 1, 1, none⟩ = some (.bool false) := cell_later hb5 (by go_simp)
  have r2_5 : w5.cell? ⟨w.heap.size + 1, 2, none⟩ = some (.slice none 0 0) := cell_later hb5 (by go_simp)
  have r3_5 : w5.cell? ⟨w.heap.size + 1, 3, none⟩ = some (.slice none 0 0) := cell_later hb5 (by go_simp)
  have r4_5 : w5.cell? ⟨w.heap.size + 1, 4, none⟩ = some (.slice none 0 0) := cell_later hb5 (by go_simp)
  have r5_5 : w5.cell? ⟨w.heap.size + 1, 5, none⟩ = some (.slice none 0 0) := cell_later hb5 (by go_simp)
  have r6_5 : w5.cell? ⟨w.heap.size + 1, 6, none⟩ = some (.slice none 0 0) := cell_later hb5 (by go_simp)
  have r7_5 : w5.cell? ⟨w.heap.size + 1, 7, none⟩ = some (.slice none 0 0) := cell_later hb5 (by go_simp)
  have t0_5 : w5.cell? ⟨w.heap.size + 1 + 1, 0, none⟩ = some (.bool p.d) := cell_later hb5 (by go_simp)
  have t1_5 : w5.cell? ⟨w.heap.size + 1 + 1, 1, none⟩ = some (.bool p.s) := cell_later hb5 (by go_simp)
  have t2_5 : w5.cell? ⟨w.heap.size + 1 + 1, 2, none⟩ = some (.slice b1 p.it.length e1) := cell_later hb5 (by go_simp)
  have t3_5 : w5.cell? ⟨w.heap.size + 1 + 1, 3, none⟩ = some (.slice b2 p.fr.length e2) := cell_later hb5 (by go_simp)
  have t4_5 : w5.cell? ⟨w.heap.size + 1 + 1, 4, none⟩ = some (.slice b3 p.wh.length e3) := cell_later hb5 (by go_simp)
  have t5_5 : w5.cell? ⟨w.heap.size + 1 + 1, 5, none⟩ = some (.slice b4 p.gr.length e4) := cell_later hb5 (by go_simp)
  have t6_5 : w5.cell? ⟨w.heap.size + 1 + 1, 6, none⟩ = some (.slice none 0 0) := cell_later hb5 (by go_simp)
  have t7_5 : w5.cell? ⟨w.heap.size + 1 + 1, 7, none⟩ = some (.slice none 0 0) := cell_later hb5 (by go_simp)
  have bel5 : Below w.heap.size w w5 := (by repeat (first | (with_reducible exact bel4) | (with_reducible refine Below.setCell ?_ ?hh _; case hh => (simp; try omega))) : Below w.heap.size w (w4.setCell ⟨w.heap.size + 1 + 1, 5, none⟩ (.slice b4 p.gr.length e4))).trans (hb5.mono (by simp; omega))
  clear hb5 c6_4 c7_4 r0_4 r1_4 r2_4 r3_4 r4_4 r5_4 r6_4 r7_4 t0_4 t1_4 t2_4 t3_4 t4_4 t5_4 t6_4 t7_4 hK1_4 hO1_4 hK2_4 hO2_4 hK3_4 hO3_4 hK4 hO4
  go_wp2_with fail
  refine Calls.mono (hS (.slice a5 p.ks.length c5) p.ks h _ (kn.below ?hb) (by omega)) ?_
  case hb => repeat (first | (with_reducible exact bel5) | (with_reducible refine Below.setCell ?_ ?hh _; case hh => (simp; try omega)))
  rintro x w6 ⟨⟨u6, F6, rfl, hK6, hO6⟩, hb6⟩
  have hK1_6 := AstsIs.below (AstsIs.keep (w' := (w5.setCell ⟨w.heap.size + 1 + 1, 6, none⟩ (.slice b5 p.su.length e5))) (by simp) hK1_5 (fun b hb => by have := (hO1_5.2 b hb).1; repeat rw [Below.heap_setCell _ _ _ _ (by simp; try omega)])) hb6
  have hO1_6 := Own.below (Own.keep (w' := (w5.setCell ⟨w.heap.size + 1 + 1, 6, none⟩ (.slice b5 p.su.length e5))) hO1_5 (fun b hb => by have := (hO1_5.2 b hb).1; repeat rw [Below.heap_setCell _ _ _ _ (by simp; try omega)])) (fun b hb => by have := hK1_5.lt b hb; simpa using this) hb6
  have hK2_6 := StrsF.below (StrsF.keep hK2_5 (w' := (w5.setCell ⟨w.heap.size + 1 + 1, 6, none⟩ (.slice b5 p.su.length e5))) (by simp) (fun b hb => by have := (hO2_5.2 b hb).1; repeat rw [Below.heap_setCell _ _ _ _ (by simp; try omega)])) hb6
  have hO2_6 := Own.below (Own.keep (w' := (w5.setCell ⟨w.heap.size + 1 + 1, 6, none⟩ (.slice b5 p.su.length e5))) hO2_5 (fun b hb => by have := (hO2_5.2 b hb).1; repeat rw [Below.heap_setCell _ _ _ _ (by simp; try omega)])) (fun b hb => by have := hK2_5.lt b hb; simpa using this) hb6
  have hK3_6 := AstsIs.below (AstsIs.keep (w' := (w5.setCell ⟨w.heap.size + 1 + 1, 6, none⟩ (.slice b5 p.su.length e5))) (by simp) hK3_5 (fun b hb => by have := (hO3_5.2 b hb).1; repeat rw [Below.heap_setCell _ _ _ _ (by simp; try omega)])) hb6
  have hO3_6 := Own.below (Own.keep (w' := (w5.setCell ⟨w.heap.size + 1 + 1, 6, none⟩ (.slice b5 p.su.length e5))) hO3_5 (fun b hb => by have := (hO3_5.2 b hb).1; repeat rw [Below.heap_setCell _ _ _ _ (by simp; try omega)])) (fun b hb => by have := hK3_5.lt b hb; simpa using this) hb6
  have hK4_6 := AstsIs.below (AstsIs.keep (w' := (w5.setCell ⟨w.heap.size + 1 + 1, 6, none⟩ (.slice b5 p.su.length e5))) (by simp) hK4_5 (fun b hb => by have := (hO4_5.2 b hb).1; repeat rw [Below.heap_setCell _ _ _ _ (by simp; try omega)])) hb6
  have hO4_6 := Own.below (Own.keep (w' := (w5.setCell ⟨w.heap.size + 1 + 1, 6, none⟩ (.slice b5 p.su.length e5))) hO4_5 (fun b hb => by have := (hO4_5.2 b hb).1; repeat rw [Below.heap_setCell _ _ _ _ (by simp; try omega)])) (fun b hb => by have := hK4_5.lt b hb; simpa using this) hb6
  have hK5_6 := AstsIs.below (AstsIs.keep (w' := (w5.setCell ⟨w.heap.size + 1 + 1, 6, none⟩ (.slice b5 p.su.length e5))) (by simp) hK5 (fun b hb => by have := (hO5.2 b hb).1; repeat rw [Below.heap_setCell _ _ _ _ (by simp; try omega)])) hb6
  have hO5_6 := Own.below (Own.keep (w' := (w5.setCell ⟨w.heap.size + 1 + 1, 6, none⟩ (.slice b5 p.su.length e5))) hO5 (fun b hb => by have := (hO5.2 b hb).1; repeat rw [Below.heap_setCell _ _ _ _ (by simp; try omega)])) (fun b hb => by have := hK5.lt b hb; simpa using this) hb6
  have hF5 : ∀ b ∈ F5, b < w5.heap.size := hK5.lt
  have hz6 := hb6.size
  try simp only [World.size_alloc] at hz6 hO6
  try simp only [World.size_setCell] at hz6 hO6
  have hf6 := (bcell hb6).2
  obtain ⟨b6, e6, rfl, _⟩ := hK6.shape
  have hy0_6 : w.heap.size < w6.heap.size := by omega
  have hy1_6 : w.heap.size + 1 < w6.heap.size := by omega
  have hy2_6 : w.heap.size + 1 + 1 < w6.heap.size := by omega
  have r0_6 : w6.cell? ⟨w.heap.size + 1, 0, none⟩ = some (.bool false) := cell_later hb6 (by go_simp)
  have r1_6 : w6.cell? ⟨w.heap.size + 1, 1, none⟩ = some (.bool false) := cell_later hb6 (by go_simp)
  have r2_6 : w6.cell? ⟨w.heap.size + 1, 2, none⟩ = some (.slice none 0 0) := cell_later hb6 (by go_simp)
  have r3_6 : w6.cell? ⟨w.heap.size + 1, 3, none⟩ = some (.slice none 0 0) := cell_later hb6 (by go_simp)
  have r4_6 : w6.cell? ⟨w.heap.size + 1, 4, none⟩ = some (.slice none 0 0) := cell_later hb6 (by go_simp)
  have r5_6 : w6.cell? ⟨w.heap.size + 1, 5, none⟩ = some (.slice none 0 0) := cell_later hb6 (by go_simp)
  have r6_6 : w6.cell? ⟨w.heap.size + 1, 6, none⟩ = some (.slice none 0 0) := cell_later hb6 (by go_simp)
  have r7_6 : w6.cell? ⟨w.heap.size + 1, 7, none⟩ = some (.slice none 0 0) := cell_later hb6 (by go_simp)
  have t0_6 : w6.cell? ⟨w.heap.size + 1 + 1, 0, none⟩ = some (.bool p.d) := cell_later hb6 (by go_simp)
  have t1_6 : w6.cell? ⟨w.heap.size + 1 + 1, 1, none⟩ = some (.bool p.s) := cell_later hb6 (by go_simp)
  have t2_6 : w6.cell? ⟨w.heap.size + 1 + 1, 2, none⟩ = some (.slice b1 p.it.length e1) := cell_later hb6 (by go_simp)
  have t3_6 : w6.cell? ⟨w.heap.size + 1 + 1, 3, none⟩ = some (.slice b2 p.fr.length e2) := cell_later hb6 (by go_simp)
  have t4_6 : w6.cell? ⟨w.heap.size + 1 + 1, 4, none⟩ = some (.slice b3 p.wh.length e3) := cell_later hb6 (by go_simp)
  have t5_6 : w6.cell? ⟨w.heap.size + 1 + 1, 5, none⟩ = some (.slice b4 p.gr.length e4) := cell_later hb6 (by go_simp)
  have t6_6 : w6.cell? ⟨w.heap.size + 1 + 1, 6, none⟩ = some (.slice b5 p.su.length e5) := cell_later hb6 (by go_simp)
  have t7_6 : w6.cell? ⟨w.heap.size + 1 + 1, 7, none⟩ = some (.slice none 0 0) := cell_later hb6 (by go_simp)
  have bel6 : Below w.heap.size w w6 := (by repeat (first | (with_reducible exact bel5) | (with_reducible refine Below.setCell ?_ ?hh _; case hh => (simp; try omega))) : Below w.heap.size w (w5.setCell ⟨w.heap.size + 1 + 1, 6, none⟩ (.slice b5 p.su.length e5))).trans (hb6.mono (by simp; omega))
  clear hb6 c7_5 r0_5 r1_5 r2_5 r3_5 r4_5 r5_5 r6_5 r7_5 t0_5 t1_5 t2_5 t3_5 t4_5 t5_5 t6_5 t7_5 hK1_5 hO1_5 hK2_5 hO2_5 hK3_5 hO3_5 hK4_5 hO4_5 hK5 hO5
  have hOw : Own w6 (w.heap.size + 1 + 1 + 1) (F1 ++ (F2 ++ (F3 ++ (F4 ++ (F5 ++ F6))))) := hO1_6.app (hO2_6.app (hO3_6.app (hO4_6.app (hO5_6.app (hO6) hF5 (by omega)) hF4 (by omega)) hF3 (by omega)) hF2 (by omega)) hF1 (by omega)
  have hLL : ListsQ w6 D (SelsIs w6 D d) p (.slice b1 p.it.length e1) (.slice b2 p.fr.length e2) (.slice b3 p.wh.length e3) (.slice b4 p.gr.length e4) (.slice b5 p.su.length e5) (.slice b6 p.ks.length e6) (F1 ++ (F2 ++ (F3 ++ (F4 ++ (F5 ++ F6))))) := ⟨F1, F2, F3, F4, F5, F6, rfl, hK1_6, hK2_6, hK3_6, hK4_6, hK5_6, hK6⟩
  clear hK1_6 hO1_6 hK2_6 hO2_6 hK3_6 hO3_6 hK4_6 hO4_6 hK5_6 hO5_6 hK6 hO6
  go_wp2
  refine bodyPost_ret (v := (.agg #[.bool p.d, .bool p.s, (.slice b1 p.it.length e1), (.slice b2 p.fr.length e2), (.slice b3 p.wh.length e3), (.slice b4 p.gr.length e4), (.slice b5 p.su.length e5), (.slice b6 p.ks.length e6)])) (by simp [results, Try.results6, go_sem, *]) rfl ⟨⟨(.slice b1 p.it.length e1), (.slice b2 p.fr.length e2), (.slice b3 p.wh.length e3), (.slice b4 p.gr.length e4), (.slice b5 p.su.length e5), (.slice b6 p.ks.length e6), F1 ++ (F2 ++ (F3 ++ (F4 ++ (F5 ++ F6)))), rfl, ?_, ?_⟩, ?_⟩
  · refine hLL.keep (by simp) fun b hb => ?_
    have := (hOw.2 b hb).1
    repeat rw [Below.heap_setCell _ _ _ _ (by simp; try omega)]
  · refine Own.keep (w := w6) (hOw.weak (by omega)) fun b hb => ?_
    have := (hOw.2 b hb).1
    repeat rw [Below.heap_setCell _ _ _ _ (by simp; try omega)]
  · repeat (first | (with_reducible exact bel6) | (with_reducible refine Below.setCell ?_ ?hh _; case hh => (simp; try omega)))
set_option maxHeartbeats 4000000 in
set_option maxRecDepth 100000 in
theorem toSelectS_step {D d : Nat} (hS : ToQS D d) : ToQS D (d + 1) := by
  intro v ps F w hr hn
  obtain ⟨a, c, b, o, G, rfl, hl, hc, hG, _, ha⟩ := hr.pick
  unfold maxLen at hc
  clear hr
  have hn1 : ps.length ≤ 1048576 := by omega
  have hmk := run_make_wide (P := Try.prog) 30 32 _ 8 152 Try.underlying30 Try.infoSel ps.length (by omega) (by omega)
  go_enter Try.func15, Try.ntmps15
  go_wp2
  go_loopw [4] (fun i wr => ∃ (k : Nat) (G' : List (List Nat)), k ≤ ps.length ∧ i = .int .i64 k ∧ Below w.heap.size w wr ∧ HalfQ wr D d w.heap.size ps G' k) (fun i _ => ps.length - (intOf i).toNat)
  case atStart => exact ⟨0, [], Nat.zero_le _, rfl, by go_grown, halfQ_made _ _ _ _ _⟩
  case round =>
    obtain ⟨k, G', hk, rfl, hb, hH⟩ := hrel
    clear hmk
    by_cases hlt : k < ps.length
    · have hzb := hb.size
      obtain ⟨rfl, hblt, _, hL⟩ := ha k hlt
      obtain ⟨x, g, ui, uf, uw, ug, um, u, hx, hg, hxw, ⟨c0, c1, c2, c3, c4, c5, c6, c7⟩, hK, hbr⟩ := hL.at hG hblt hb hlt
      have HX : Hid (ps[k]? = some x) := hx
      have hxn : wtQ x ≤ 1048576 := by have := wtQ_mem (List.mem_of_getElem? hx); omega
      have hBr := (hH.cells hlt).2.2.2.2.2.2.2.2.2
      have hHl := hH.lt hk
      clear ha hL hx
      go_wp2_with (go_at_call 6; refine (toSelect_of hS _ _ _ _ _ _ _ _ _ hK hxn).mono ?_; rintro e w1 ⟨⟨ui1, uf1, uw1, ug1, um1, u1, F1, rfl, hK1, hO1⟩, hb1⟩; obtain ⟨a01, n01, a11, n11, a21, n21, a31, n31, a41, n41, a51, n51, rfl, rfl, rfl, rfl, rfl, rfl, _⟩ := hK1.shape; have hz1 := hb1.size; have hH1 := hH.below hk hb1; obtain ⟨⟨y0, q0⟩, ⟨y1, q1⟩, ⟨y2, q2⟩, ⟨y3, q3⟩, ⟨y4, q4⟩, ⟨y5, q5⟩, ⟨y6, q6⟩, ⟨y7, q7⟩, gf, gs⟩ := hH1.cells hlt)
      refine ⟨⟨k + 1, _, hlt, by simp, ?_, hH1.step hk HX.out hxw hK1 ⟨hO1.1, fun b hb => ⟨by have := (hO1.2 b hb).1; omega, (hO1.2 b hb).2⟩⟩ (fun b hb hb' => by have := (hO1.2 b hb').1; have := hHl b hb; omega)⟩, by simp [intOf]; omega⟩
      repeat (first | (with_reducible exact Below.refl _ _) | (with_reducible refine Below.drew ?_) | (with_reducible refine Below.alloc ?_ ?hh _; case hh => first | (simp; done) | (simp; omega) | omega) | (with_reducible refine Below.setCell ?_ ?hh _; case hh => first | (simp; done) | (simp; omega) | omega) | refine bstep (by assumption) (by first | (simp; done) | (simp; omega) | omega) ?_)
    · go_wp2
      go_returns
      obtain rfl : k = ps.length := by omega
      by_cases hne : ps = []
      · subst hne
        exact ⟨⟨_, [], rfl, ⟨_, _, [], rfl, Nat.le_refl _, by simp, rfl, fun _ => rfl, fun h => absurd rfl h⟩, by simp [Own]⟩, hb⟩
      · obtain ⟨h1, h2⟩ := hH.sels (by unfold maxLen; omega) hne
        exact ⟨⟨_, _, rfl, h1, h2⟩, hb⟩
theorem toSelectS_any (D : Nat) : ∀ d, ToQS D d
  | 0 => fun _ _ _ _ h => h.elim
  | d + 1 => toSelectS_step (toSelectS_any D d)
end Go.Proofs.Ytmheiehhdmajfaa
