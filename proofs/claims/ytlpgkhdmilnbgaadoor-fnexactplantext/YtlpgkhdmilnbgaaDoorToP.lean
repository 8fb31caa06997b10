/- Own text. The contract of toPlan: a new plan with the same parts, all of it in memory of the call's own. -/
import Derived.Test.YtlpgkhdmilnbgaaDoorPlC
import Derived.Test.YtlpgkhdmilnbgaaDoorToE
import Derived.Handy
namespace Go.Proofs.YtlpgkhdmilnbgaaDoor
open Go.RowKit Go.Deep
set_option linter.unusedVariables false
theorem Tryd.infoPlan : (Tryd.prog.info? 38).map (fun i => (i.zero, i.size, i.bytes)) = some (some (.agg #[.int .i64 0, .string ⟨#[]⟩, .int .i64 0, .int .i64 0, .int .i64 0, .int .i64 0, .string ⟨#[]⟩, .string ⟨#[]⟩, .slice none 0 0, .slice none 0 0, .int .i64 0, .slice none 0 0]), 12, 168) := by kernel_rfl
/-- twelve cells are written. -/
theorem row_set12 {w : World} {B t n : Nat} {f : Nat → Value} (h : w.rowIs B t n f) (q : Nat) (v0 v1 v2 v3 v4 v5 v6 v7 v8 v9 v10 v11 : Value) :
    ∃ f', ((((((((((((w.setCell ⟨B, q, none⟩ (v0)).setCell ⟨B, q + 1, none⟩ (v1)).setCell ⟨B, q + 2, none⟩ (v2)).setCell ⟨B, q + 3, none⟩ (v3)).setCell ⟨B, q + 4, none⟩ (v4)).setCell ⟨B, q + 5, none⟩ (v5)).setCell ⟨B, q + 6, none⟩ (v6)).setCell ⟨B, q + 7, none⟩ (v7)).setCell ⟨B, q + 8, none⟩ (v8)).setCell ⟨B, q + 9, none⟩ (v9)).setCell ⟨B, q + 10, none⟩ (v10)).setCell ⟨B, q + 11, none⟩ (v11)).rowIs B t n f' ∧ (f' q = v0 ∧ f' (q + 1) = v1 ∧ f' (q + 2) = v2 ∧ f' (q + 3) = v3 ∧ f' (q + 4) = v4 ∧ f' (q + 5) = v5 ∧ f' (q + 6) = v6 ∧ f' (q + 7) = v7 ∧ f' (q + 8) = v8 ∧ f' (q + 9) = v9 ∧ f' (q + 10) = v10 ∧ f' (q + 11) = v11) ∧ ∀ x, x < q ∨ q + 12 ≤ x → f' x = f x := by
  refine ⟨_, (((((((((((h.set _ _).set _ _).set _ _).set _ _).set _ _).set _ _).set _ _).set _ _).set _ _).set _ _).set _ _).set _ _, ?_, fun x hx => ?_⟩
  · refine ⟨?_, ?_, ?_, ?_, ?_, ?_, ?_, ?_, ?_, ?_, ?_, ?_⟩ <;> simp
  · have e : ∀ j, j < 12 → x ≠ q + j := by intro j hj; omega
    have e0 : x ≠ q := by omega
    simp only [if_neg e0, if_neg (e 1 (by omega)), if_neg (e 2 (by omega)), if_neg (e 3 (by omega)), if_neg (e 4 (by omega)), if_neg (e 5 (by omega)), if_neg (e 6 (by omega)), if_neg (e 7 (by omega)), if_neg (e 8 (by omega)), if_neg (e 9 (by omega)), if_neg (e 10 (by omega)), if_neg (e 11 (by omega))]
theorem blk_set12 (w : World) (B q b : Nat) (v0 v1 v2 v3 v4 v5 v6 v7 v8 v9 v10 v11 : Value) (hb : b ≠ B) : ((((((((((((w.setCell ⟨B, q, none⟩ (v0)).setCell ⟨B, q + 1, none⟩ (v1)).setCell ⟨B, q + 2, none⟩ (v2)).setCell ⟨B, q + 3, none⟩ (v3)).setCell ⟨B, q + 4, none⟩ (v4)).setCell ⟨B, q + 5, none⟩ (v5)).setCell ⟨B, q + 6, none⟩ (v6)).setCell ⟨B, q + 7, none⟩ (v7)).setCell ⟨B, q + 8, none⟩ (v8)).setCell ⟨B, q + 9, none⟩ (v9)).setCell ⟨B, q + 10, none⟩ (v10)).setCell ⟨B, q + 11, none⟩ (v11)).heap[b]? = w.heap[b]? := by
  repeat rw [Below.heap_setCell _ _ _ _ hb]
/-- the cells of a plan in a row of the call's own. -/
def rowP (f : Nat → Value) (q : Nat) (p : P12) (ue us u : Value) : Prop := f (q) = .int .i64 p.k ∧ f (q + 1) = .string p.s ∧ f (q + 2) = .int .i64 p.e.k ∧ f (q + 3) = .int .i64 p.e.n ∧ f (q + 4) = .int .i64 p.e.v.k ∧ f (q + 5) = .int .i64 p.e.v.n ∧ f (q + 6) = .string p.e.v.s ∧ f (q + 7) = .string p.e.p ∧ f (q + 8) = ue ∧ f (q + 9) = us ∧ f (q + 10) = .int .i64 p.n ∧ f (q + 11) = u
/-- plans of the call's own: block B has them, the first k are laid; G: the blocks of their lists. -/
structure HalfP (w : World) (D d B : Nat) (ps : List P12) (G : List (List Nat)) (k : Nat) : Prop where
  row : ∃ f, w.rowIs B 38 (ps.length * 12) f ∧ ∀ i p, i < k → ps[i]? = some p → p.wf ∧ ∃ ue us u g, rowP f (i * 12) p ue us u ∧ G[i]? = some g ∧ ListsP w D (PlansIs w D d) p ue us u g
  len : G.length = k
  own : Own w (B + 1) G.flatten
theorem HalfP.lt {w : World} {D d B : Nat} {ps : List P12} {G : List (List Nat)} {k : Nat} (h : HalfP w D d B ps G k) (hk : k ≤ ps.length) : ∀ b ∈ G.flatten, b < w.heap.size := by
  obtain ⟨⟨f, hf, he⟩, hl, _⟩ := h
  intro b hb
  obtain ⟨g, hg, hbg⟩ := List.mem_flatten.1 hb
  obtain ⟨i, hi, rfl⟩ := List.mem_iff_getElem.1 hg
  have hi' : i < ps.length := by omega
  obtain ⟨_, ue, us, u, g, _, hg, hK⟩ := he i ps[i] (by omega) (by simp)
  have : G[i] = g := by simpa [hi] using hg
  exact hK.lt b (this ▸ hbg)
theorem HalfP.cells {w : World} {D d B : Nat} {ps : List P12} {G : List (List Nat)} {k : Nat} (h : HalfP w D d B ps G k) (hk : k < ps.length) :
    (∃ u, w.cell? ⟨B, k * 12, none⟩ = some u) ∧ (∃ u, w.cell? ⟨B, k * 12 + 1, none⟩ = some u) ∧ (∃ u, w.cell? ⟨B, k * 12 + 2, none⟩ = some u) ∧ (∃ u, w.cell? ⟨B, k * 12 + 3, none⟩ = some u) ∧ (∃ u, w.cell? ⟨B, k * 12 + 4, none⟩ = some u) ∧ (∃ u, w.cell? ⟨B, k * 12 + 5, none⟩ = some u) ∧ (∃ u, w.cell? ⟨B, k * 12 + 6, none⟩ = some u) ∧ (∃ u, w.cell? ⟨B, k * 12 + 7, none⟩ = some u) ∧ (∃ u, w.cell? ⟨B, k * 12 + 8, none⟩ = some u) ∧ (∃ u, w.cell? ⟨B, k * 12 + 9, none⟩ = some u) ∧ (∃ u, w.cell? ⟨B, k * 12 + 10, none⟩ = some u) ∧ (∃ u, w.cell? ⟨B, k * 12 + 11, none⟩ = some u) ∧ (∀ i, w.frozen? ⟨B, i, none⟩ = false) ∧ B < w.heap.size := by
  obtain ⟨f, h, _⟩ := h.row
  exact ⟨⟨_, h.cell (by omega)⟩, ⟨_, h.cell (by omega)⟩, ⟨_, h.cell (by omega)⟩, ⟨_, h.cell (by omega)⟩, ⟨_, h.cell (by omega)⟩, ⟨_, h.cell (by omega)⟩, ⟨_, h.cell (by omega)⟩, ⟨_, h.cell (by omega)⟩, ⟨_, h.cell (by omega)⟩, ⟨_, h.cell (by omega)⟩, ⟨_, h.cell (by omega)⟩, ⟨_, h.cell (by omega)⟩, fun i => h.frozen i, h.lt⟩
theorem HalfP.keep {w w' : World} {D d B : Nat} {ps : List P12} {G : List (List Nat)} {k : Nat} (h : HalfP w D d B ps G k) (hs : w.heap.size ≤ w'.heap.size) (hB : w'.heap[B]? = w.heap[B]?) (hF : ∀ b ∈ G.flatten, w'.heap[b]? = w.heap[b]?) : HalfP w' D d B ps G k := by
  obtain ⟨⟨f, hf, he⟩, hl, ho⟩ := h
  refine ⟨⟨f, hf.of_block hB, fun i p hi hx => ?_⟩, hl, ho.keep hF⟩
  obtain ⟨h0, ue, us, u, g, hr, hg, hK⟩ := he i p hi hx
  exact ⟨h0, ue, us, u, g, hr, hg, hK.keep hs fun b hb => hF b (List.mem_flatten.2 ⟨g, List.mem_of_getElem? hg, hb⟩)⟩
theorem HalfP.below {w w' : World} {D d B : Nat} {ps : List P12} {G : List (List Nat)} {k : Nat} (h : HalfP w D d B ps G k) (hk : k ≤ ps.length) (hb : Below w.heap.size w w') : HalfP w' D d B ps G k := by
  have hB : B < w.heap.size := by obtain ⟨f, hf, _⟩ := h.row; exact hf.lt
  exact h.keep hb.size (hb.block B hB) fun b hF => hb.block b (h.lt hk b hF)
theorem HalfP.step {w : World} {D d B : Nat} {ps : List P12} {G : List (List Nat)} {k : Nat} {p : P12} {ue us u : Value} {g : List Nat} (h : HalfP w D d B ps G k) (hk : k ≤ ps.length) (hx : ps[k]? = some p) (hw : p.wf) (hK : ListsP w D (PlansIs w D d) p ue us u g) (hB : Own w (B + 1) g) (hd : ∀ b ∈ G.flatten, b ∉ g) :
    HalfP ((((((((((((w.setCell ⟨B, k * 12, none⟩ (.int .i64 p.k)).setCell ⟨B, k * 12 + 1, none⟩ (.string p.s)).setCell ⟨B, k * 12 + 2, none⟩ (.int .i64 p.e.k)).setCell ⟨B, k * 12 + 3, none⟩ (.int .i64 p.e.n)).setCell ⟨B, k * 12 + 4, none⟩ (.int .i64 p.e.v.k)).setCell ⟨B, k * 12 + 5, none⟩ (.int .i64 p.e.v.n)).setCell ⟨B, k * 12 + 6, none⟩ (.string p.e.v.s)).setCell ⟨B, k * 12 + 7, none⟩ (.string p.e.p)).setCell ⟨B, k * 12 + 8, none⟩ (ue)).setCell ⟨B, k * 12 + 9, none⟩ (us)).setCell ⟨B, k * 12 + 10, none⟩ (.int .i64 p.n)).setCell ⟨B, k * 12 + 11, none⟩ (u)) D d B ps (G ++ [g]) (k + 1) := by
  have hlt := h.lt hk
  obtain ⟨⟨f, hf, he⟩, hl, ho⟩ := h
  obtain ⟨f', hf', hnew, hold⟩ := row_set12 hf (k * 12) (.int .i64 p.k) (.string p.s) (.int .i64 p.e.k) (.int .i64 p.e.n) (.int .i64 p.e.v.k) (.int .i64 p.e.v.n) (.string p.e.v.s) (.string p.e.p) (ue) (us) (.int .i64 p.n) (u)
  have hblk : ∀ b, B + 1 ≤ b → ((((((((((((w.setCell ⟨B, k * 12, none⟩ (.int .i64 p.k)).setCell ⟨B, k * 12 + 1, none⟩ (.string p.s)).setCell ⟨B, k * 12 + 2, none⟩ (.int .i64 p.e.k)).setCell ⟨B, k * 12 + 3, none⟩ (.int .i64 p.e.n)).setCell ⟨B, k * 12 + 4, none⟩ (.int .i64 p.e.v.k)).setCell ⟨B, k * 12 + 5, none⟩ (.int .i64 p.e.v.n)).setCell ⟨B, k * 12 + 6, none⟩ (.string p.e.v.s)).setCell ⟨B, k * 12 + 7, none⟩ (.string p.e.p)).setCell ⟨B, k * 12 + 8, none⟩ (ue)).setCell ⟨B, k * 12 + 9, none⟩ (us)).setCell ⟨B, k * 12 + 10, none⟩ (.int .i64 p.n)).setCell ⟨B, k * 12 + 11, none⟩ (u)).heap[b]? = w.heap[b]? := fun b hb => blk_set12 w B (k * 12) b _ _ _ _ _ _ _ _ _ _ _ _ (by omega)
  have hsz : w.heap.size ≤ ((((((((((((w.setCell ⟨B, k * 12, none⟩ (.int .i64 p.k)).setCell ⟨B, k * 12 + 1, none⟩ (.string p.s)).setCell ⟨B, k * 12 + 2, none⟩ (.int .i64 p.e.k)).setCell ⟨B, k * 12 + 3, none⟩ (.int .i64 p.e.n)).setCell ⟨B, k * 12 + 4, none⟩ (.int .i64 p.e.v.k)).setCell ⟨B, k * 12 + 5, none⟩ (.int .i64 p.e.v.n)).setCell ⟨B, k * 12 + 6, none⟩ (.string p.e.v.s)).setCell ⟨B, k * 12 + 7, none⟩ (.string p.e.p)).setCell ⟨B, k * 12 + 8, none⟩ (ue)).setCell ⟨B, k * 12 + 9, none⟩ (us)).setCell ⟨B, k * 12 + 10, none⟩ (.int .i64 p.n)).setCell ⟨B, k * 12 + 11, none⟩ (u)).heap.size := by simp
  refine ⟨⟨f', hf', fun i y hi hy => ?_⟩, by simp [hl], ?_⟩
  · by_cases ei : i = k
    · subst ei
      obtain rfl : y = p := by rw [hx] at hy; exact (Option.some.inj hy).symm
      refine ⟨hw, ue, us, u, g, hnew, ?_, hK.keep hsz fun b hb => hblk b (hB.2 b hb).1⟩
      rw [List.getElem?_append_right (by omega)]; simp [hl]
    · obtain ⟨a0, ue', us', u', g', hr, hg', hK'⟩ := he i y (by omega) hy
      refine ⟨a0, ue', us', u', g', ?_, ?_, hK'.keep hsz fun b hb => hblk b (ho.2 b (List.mem_flatten.2 ⟨g', List.mem_of_getElem? hg', hb⟩)).1⟩
      · unfold rowP at hr ⊢
        rw [hold _ (by omega), hold _ (by omega), hold _ (by omega), hold _ (by omega), hold _ (by omega), hold _ (by omega), hold _ (by omega), hold _ (by omega), hold _ (by omega), hold _ (by omega), hold _ (by omega), hold _ (by omega)]
        exact hr
      · rw [List.getElem?_append_left (by omega)]; exact hg'
  · have hm : ∀ b ∈ (G ++ [g]).flatten, b ∈ G.flatten ∨ b ∈ g := by intro b hb; simpa using hb
    refine Own.keep (w := w) ⟨?_, fun b hb => (hm b hb).elim (ho.2 b) (hB.2 b)⟩ fun b hb => hblk b ((hm b hb).elim (fun h => (ho.2 b h).1) (fun h => (hB.2 b h).1))
    rw [List.flatten_append, List.nodup_append]
    refine ⟨ho.1, by simpa using hB.1, fun a ha b hb => ?_⟩
    rintro rfl
    exact hd a ha (by simpa using hb)
theorem HalfP.plans {w : World} {D d B : Nat} {ps : List P12} {G : List (List Nat)} (h : HalfP w D d B ps G ps.length) (hm : ps.length ≤ maxLen) (hne : ps ≠ []) :
    PlansIs w D (d + 1) (.slice (some ⟨B, 0, none⟩) ps.length ps.length) ps (B :: G.flatten) ∧ Own w B (B :: G.flatten) := by
  obtain ⟨⟨f, hf, he⟩, hl, ho⟩ := h
  refine ⟨⟨_, _, G, rfl, Nat.le_refl _, hm, hl, fun h => absurd h hne, fun _ => ⟨B, 0, rfl, hf.lt, rfl, fun i e g hx hg => ?_⟩⟩, ?_, fun b hb => ?_⟩
  · have hi : i < ps.length := (List.getElem?_eq_some_iff.1 hx).1
    obtain ⟨a0, ue, us, u, g', ⟨r0, r1, r2, r3, r4, r5, r6, r7, r8, r9, r10, r11⟩, hg', hK⟩ := he i e hi hx
    obtain rfl : g = g' := by rw [hg] at hg'; exact Option.some.inj hg'
    rw [Nat.zero_add]
    exact ⟨a0, ue, us, u, ⟨by rw [hf.cell (by omega), r0], by rw [hf.cell (by omega), r1], by rw [hf.cell (by omega), r2], by rw [hf.cell (by omega), r3], by rw [hf.cell (by omega), r4], by rw [hf.cell (by omega), r5], by rw [hf.cell (by omega), r6], by rw [hf.cell (by omega), r7], by rw [hf.cell (by omega), r8], by rw [hf.cell (by omega), r9], by rw [hf.cell (by omega), r10], by rw [hf.cell (by omega), r11]⟩, hK⟩
  · refine List.nodup_cons.2 ⟨fun h => ?_, ho.1⟩
    have := (ho.2 B h).1
    omega
  · rcases List.mem_cons.1 hb with rfl | hb
    · exact ⟨Nat.le_refl _, fun o => hf.frozen o⟩
    · exact ⟨Nat.le_of_succ_le (ho.2 b hb).1, (ho.2 b hb).2⟩
theorem halfP_made (w : World) (z : Array Value) (D d : Nat) (ps : List P12) : HalfP (w.alloc (.cells (madeCells z (ps.length * 12)) 38)) D d w.heap.size ps [] 0 :=
  ⟨⟨fun i => (madeCells z (ps.length * 12))[i]?.getD undef, ⟨_, blk_alloc_new _ _, size_madeCells _ _, fun i hi => by
    have : i < (madeCells z (ps.length * 12)).size := by rw [size_madeCells]; exact hi
    simp [this]⟩, fun i x hi => by omega⟩, rfl, by simp [Own, OwnN]⟩
/-- toPlanS at kids that are at most d deep. -/
def ToPS (D d : Nat) : Prop := ∀ (v : Value) (ps : List P12) (F : List Nat) (w : World), PlansIs w D d v ps F → ps.length + wtPs ps ≤ 1048576 →
    Calls Tryd.prog 15 #[v] w fun e w' => (∃ u F', e = .returned u ∧ PlansIs w' D d u ps F' ∧ Own w' w.heap.size F') ∧ Below w.heap.size w w'
set_option maxHeartbeats 4000000 in
set_option maxRecDepth 100000 in
theorem toPlan_of {D d : Nat} (hS : ToPS D d) (p : P12) (ue us u : Value) (g : List Nat) (w : World) (hL : ListsP w D (PlansIs w D d) p ue us u g) (hn : wtP p ≤ 1048576) :
    Calls Tryd.prog 6 #[(.agg #[.int .i64 p.k, .string p.s, .int .i64 p.e.k, .int .i64 p.e.n, .int .i64 p.e.v.k, .int .i64 p.e.v.n, .string p.e.v.s, .string p.e.p, ue, us, .int .i64 p.n, u])] w fun x w' => (∃ ue' us' u' g', x = .returned (.agg #[.int .i64 p.k, .string p.s, .int .i64 p.e.k, .int .i64 p.e.n, .int .i64 p.e.v.k, .int .i64 p.e.v.n, .string p.e.v.s, .string p.e.p, ue', us', .int .i64 p.n, u']) ∧ ListsP w' D (PlansIs w' D d) p ue' us' u' g' ∧ Own w' w.heap.size g') ∧ Below w.heap.size w w' := by
  obtain ⟨ae, ce, ak, ck, a, c, rfl, rfl, rfl, _, _, _, _, _, _⟩ := hL.shape
  obtain ⟨Fe, Fs, h', rfl, ke, kes, kp⟩ := hL
  rw [wtP_eq] at hn
  go_enter Tryd.func6, Tryd.ntmps6
  go_wp2_with fail
  refine Calls.mono (toExp_any p.e (.slice ae p.e.ks.length ce) Fe _ (ke.below ?hb) (by omega)) ?_
  case hb => repeat (first | (with_reducible exact Below.refl _ _) | (with_reducible refine Below.drew ?_) | (with_reducible refine Below.alloc ?_ ?hh _; case hh => first | (simp; done) | (simp; omega) | omega) | (with_reducible refine Below.setCell ?_ ?hh _; case hh => first | (simp; done) | (simp; omega) | omega) | refine bstep (by assumption) (by first | (simp; done) | (simp; omega) | omega) ?_)
  rintro x w1 ⟨⟨u1, F1, rfl, hK1, hO1⟩, hb1⟩
  have hz1 := hb1.size
  simp only [World.size_alloc] at hz1 hO1
  try simp only [World.size_setCell] at hz1 hO1
  have hf1 := (bcell hb1).2
  obtain ⟨a1, c1, rfl, _⟩ := hK1.shape
  have hy2 : w.heap.size + 1 + 1 < w1.heap.size := by omega
  have hy1 : w.heap.size + 1 < w1.heap.size := by omega
  have hy0 : w.heap.size < w1.heap.size := by omega
  have c9_1 : w1.cell? ⟨w.heap.size, 9, none⟩ = some (.slice ak p.es.length ck) := cell_later hb1 (by go_simp)
  have c10_1 : w1.cell? ⟨w.heap.size, 10, none⟩ = some (.int .i64 p.n) := cell_later hb1 (by go_simp)
  have c11_1 : w1.cell? ⟨w.heap.size, 11, none⟩ = some (.slice a p.ks.length c) := cell_later hb1 (by go_simp)
  have r0_1 : w1.cell? ⟨w.heap.size + 1, 0, none⟩ = some (.int .i64 0) := cell_later hb1 (by go_simp)
  have r1_1 : w1.cell? ⟨w.heap.size + 1, 1, none⟩ = some (.string ⟨#[]⟩) := cell_later hb1 (by go_simp)
  have r2_1 : w1.cell? ⟨w.heap.size + 1, 2, none⟩ = some (.int .i64 0) := cell_later hb1 (by go_simp)
  have r3_1 : w1.cell? ⟨w.heap.size + 1, 3, none⟩ = some (.int .i64 0) := cell_later hb1 (by go_simp)
  have r4_1 : w1.cell? ⟨w.heap.size + 1, 4, none⟩ = some (.int .i64 0) := cell_later hb1 (by go_simp)
  have r5_1 : w1.cell? ⟨w.heap.size + 1, 5, none⟩ = some (.int .i64 0) := cell_later hb1 (by go_simp)
  have r6_1 : w1.cell? ⟨w.heap.size + 1, 6, none⟩ = some (.string ⟨#[]⟩) := cell_later hb1 (by go_simp)
  have r7_1 : w1.cell? ⟨w.heap.size + 1, 7, none⟩ = some (.string ⟨#[]⟩) := cell_later hb1 (by go_simp)
  have r8_1 : w1.cell? ⟨w.heap.size + 1, 8, none⟩ = some (.slice none 0 0) := cell_later hb1 (by go_simp)
  have r9_1 : w1.cell? ⟨w.heap.size + 1, 9, none⟩ = some (.slice none 0 0) := cell_later hb1 (by go_simp)
  have r10_1 : w1.cell? ⟨w.heap.size + 1, 10, none⟩ = some (.int .i64 0) := cell_later hb1 (by go_simp)
  have r11_1 : w1.cell? ⟨w.heap.size + 1, 11, none⟩ = some (.slice none 0 0) := cell_later hb1 (by go_simp)
  have t0_1 : w1.cell? ⟨w.heap.size + 1 + 1, 0, none⟩ = some (.int .i64 p.k) := cell_later hb1 (by go_simp)
  have t1_1 : w1.cell? ⟨w.heap.size + 1 + 1, 1, none⟩ = some (.string p.s) := cell_later hb1 (by go_simp)
  have t2_1 : w1.cell? ⟨w.heap.size + 1 + 1, 2, none⟩ = some (.int .i64 0) := cell_later hb1 (by go_simp)
  have t3_1 : w1.cell? ⟨w.heap.size + 1 + 1, 3, none⟩ = some (.int .i64 0) := cell_later hb1 (by go_simp)
  have t4_1 : w1.cell? ⟨w.heap.size + 1 + 1, 4, none⟩ = some (.int .i64 0) := cell_later hb1 (by go_simp)
  have t5_1 : w1.cell? ⟨w.heap.size + 1 + 1, 5, none⟩ = some (.int .i64 0) := cell_later hb1 (by go_simp)
  have t6_1 : w1.cell? ⟨w.heap.size + 1 + 1, 6, none⟩ = some (.string ⟨#[]⟩) := cell_later hb1 (by go_simp)
  have t7_1 : w1.cell? ⟨w.heap.size + 1 + 1, 7, none⟩ = some (.string ⟨#[]⟩) := cell_later hb1 (by go_simp)
  have t8_1 : w1.cell? ⟨w.heap.size + 1 + 1, 8, none⟩ = some (.slice none 0 0) := cell_later hb1 (by go_simp)
  have t9_1 : w1.cell? ⟨w.heap.size + 1 + 1, 9, none⟩ = some (.slice none 0 0) := cell_later hb1 (by go_simp)
  have t10_1 : w1.cell? ⟨w.heap.size + 1 + 1, 10, none⟩ = some (.int .i64 0) := cell_later hb1 (by go_simp)
  have t11_1 : w1.cell? ⟨w.heap.size + 1 + 1, 11, none⟩ = some (.slice none 0 0) := cell_later hb1 (by go_simp)
  have bel1 : Below w.heap.size w w1 := by repeat (first | (with_reducible exact Below.refl _ _) | (with_reducible refine Below.drew ?_) | (with_reducible refine Below.alloc ?_ ?hh _; case hh => first | (simp; done) | (simp; omega) | omega) | (with_reducible refine Below.setCell ?_ ?hh _; case hh => first | (simp; done) | (simp; omega) | omega) | refine bstep (by assumption) (by first | (simp; done) | (simp; omega) | omega) ?_)
  clear hb1
  go_wp2_with fail
  refine Calls.mono (toExpS_any D (.slice ak p.es.length ck) p.es Fs _ (kes.below ?hb) (by omega)) ?_
  case hb => repeat (first | (with_reducible exact bel1) | (with_reducible refine Below.setCell ?_ ?hh _; case hh => (simp; try omega)))
  rintro x w2 ⟨⟨u2, F2, rfl, hK2, hO2⟩, hb2⟩
  have hK12 := KidsIs.below (KidsIs.keep (w' := (((((((w1.setCell ⟨w.heap.size + 1 + 1, 2, none⟩ (.int .i64 p.e.k)).setCell ⟨w.heap.size + 1 + 1, 3, none⟩ (.int .i64 p.e.n)).setCell ⟨w.heap.size + 1 + 1, 4, none⟩ (.int .i64 p.e.v.k)).setCell ⟨w.heap.size + 1 + 1, 5, none⟩ (.int .i64 p.e.v.n)).setCell ⟨w.heap.size + 1 + 1, 6, none⟩ (.string p.e.v.s)).setCell ⟨w.heap.size + 1 + 1, 7, none⟩ (.string p.e.p)).setCell ⟨w.heap.size + 1 + 1, 8, none⟩ (.slice a1 p.e.ks.length c1))) (by simp) hK1 (fun b hb => by have := (hO1.2 b hb).1; repeat rw [Below.heap_setCell _ _ _ _ (by simp; try omega)])) hb2
  have hO12 := Own.below (Own.keep (w' := (((((((w1.setCell ⟨w.heap.size + 1 + 1, 2, none⟩ (.int .i64 p.e.k)).setCell ⟨w.heap.size + 1 + 1, 3, none⟩ (.int .i64 p.e.n)).setCell ⟨w.heap.size + 1 + 1, 4, none⟩ (.int .i64 p.e.v.k)).setCell ⟨w.heap.size + 1 + 1, 5, none⟩ (.int .i64 p.e.v.n)).setCell ⟨w.heap.size + 1 + 1, 6, none⟩ (.string p.e.v.s)).setCell ⟨w.heap.size + 1 + 1, 7, none⟩ (.string p.e.p)).setCell ⟨w.heap.size + 1 + 1, 8, none⟩ (.slice a1 p.e.ks.length c1))) hO1 (fun b hb => by have := (hO1.2 b hb).1; repeat rw [Below.heap_setCell _ _ _ _ (by simp; try omega)])) (fun b hb => by have := hK1.lt b hb; simpa using this) hb2
  have hF1 : ∀ b ∈ F1, b < w1.heap.size := hK1.lt
  have hz2 := hb2.size
  simp only [World.size_setCell] at hz2 hO2
  have hf2 := (bcell hb2).2
  obtain ⟨a2, c2, rfl, _⟩ := hK2.shape
  have hy5 : w.heap.size + 1 + 1 < w2.heap.size := by omega
  have hy4 : w.heap.size + 1 < w2.heap.size := by omega
  have hy3 : w.heap.size < w2.heap.size := by omega
  have c10_2 : w2.cell? ⟨w.heap.size, 10, none⟩ = some (.int .i64 p.n) := cell_later hb2 (by go_simp)
  have c11_2 : w2.cell? ⟨w.heap.size, 11, none⟩ = some (.slice a p.ks.length c) := cell_later hb2 (by go_simp)
  have r0_2 : w2.cell? ⟨w.heap.size + 1, 0, none⟩ = some (.int .i64 0) := cell_later hb2 (by go_simp)
  have r1_2 : w2.cell? ⟨w.heap.size + 1, 1, none⟩ = some (.string ⟨#[]⟩) := cell_later hb2 (by go_simp)
  have r2_2 : w2.cell? ⟨w.heap.size + 1, 2, none⟩ = some (.int .i64 0) := cell_later hb2 (by go_simp)
  have r3_2 : w2.cell? ⟨w.heap.size + 1, 3, none⟩ = some (.int .i64 0) := cell_later hb2 (by go_simp)
  have r4_2 : w2.cell? ⟨w.heap.size + 1, 4, none⟩ = some (.int .i64 0) := cell_later hb2 (by go_simp)
  have r5_2 : w2.cell? ⟨w.heap.size + 1, 5, none⟩ = some (.int .i64 0) := cell_later hb2 (by go_simp)
  have r6_2 : w2.cell? ⟨w.heap.size + 1, 6, none⟩ = some (.string ⟨#[]⟩) := cell_later hb2 (by go_simp)
  have r7_2 : w2.cell? ⟨w.heap.size + 1, 7, none⟩ = some (.string ⟨#[]⟩) := cell_later hb2 (by go_simp)
  have r8_2 : w2.cell? ⟨w.heap.size + 1, 8, none⟩ = some (.slice none 0 0) := cell_later hb2 (by go_simp)
  have r9_2 : w2.cell? ⟨w.heap.size + 1, 9, none⟩ = some (.slice none 0 0) := cell_later hb2 (by go_simp)
  have r10_2 : w2.cell? ⟨w.heap.size + 1, 10, none⟩ = some (.int .i64 0) := cell_later hb2 (by go_simp)
  have r11_2 : w2.cell? ⟨w.heap.size + 1, 11, none⟩ = some (.slice none 0 0) := cell_later hb2 (by go_simp)
  have t0_2 : w2.cell? ⟨w.heap.size + 1 + 1, 0, none⟩ = some (.int .i64 p.k) := cell_later hb2 (by go_simp)
  have t1_2 : w2.cell? ⟨w.heap.size + 1 + 1, 1, none⟩ = some (.string p.s) := cell_later hb2 (by go_simp)
  have t2_2 : w2.cell? ⟨w.heap.size + 1 + 1, 2, none⟩ = some (.int .i64 p.e.k) := cell_later hb2 (by go_simp)
  have t3_2 : w2.cell? ⟨w.heap.size + 1 + 1, 3, none⟩ = some (.int .i64 p.e.n) := cell_later hb2 (by go_simp)
  have t4_2 : w2.cell? ⟨w.heap.size + 1 + 1, 4, none⟩ = some (.int .i64 p.e.v.k) := cell_later hb2 (by go_simp)
  have t5_2 : w2.cell? ⟨w.heap.size + 1 + 1, 5, none⟩ = some (.int .i64 p.e.v.n) := cell_later hb2 (by go_simp)
  have t6_2 : w2.cell? ⟨w.heap.size + 1 + 1, 6, none⟩ = some (.string p.e.v.s) := cell_later hb2 (by go_simp)
  have t7_2 : w2.cell? ⟨w.heap.size + 1 + 1, 7, none⟩ = some (.string p.e.p) := cell_later hb2 (by go_simp)
  have t8_2 : w2.cell? ⟨w.heap.size + 1 + 1, 8, none⟩ = some (.slice a1 p.e.ks.length c1) := cell_later hb2 (by go_simp)
  have t9_2 : w2.cell? ⟨w.heap.size + 1 + 1, 9, none⟩ = some (.slice none 0 0) := cell_later hb2 (by go_simp)
  have t10_2 : w2.cell? ⟨w.heap.size + 1 + 1, 10, none⟩ = some (.int .i64 0) := cell_later hb2 (by go_simp)
  have t11_2 : w2.cell? ⟨w.heap.size + 1 + 1, 11, none⟩ = some (.slice none 0 0) := cell_later hb2 (by go_simp)
  have bel2 : Below w.heap.size w w2 := (by repeat (first | (with_reducible exact bel1) | (with_reducible refine Below.setCell ?_ ?hh _; case hh => (simp; try omega))) : Below w.heap.size w (((((((w1.setCell ⟨w.heap.size + 1 + 1, 2, none⟩ (.int .i64 p.e.k)).setCell ⟨w.heap.size + 1 + 1, 3, none⟩ (.int .i64 p.e.n)).setCell ⟨w.heap.size + 1 + 1, 4, none⟩ (.int .i64 p.e.v.k)).setCell ⟨w.heap.size + 1 + 1, 5, none⟩ (.int .i64 p.e.v.n)).setCell ⟨w.heap.size + 1 + 1, 6, none⟩ (.string p.e.v.s)).setCell ⟨w.heap.size + 1 + 1, 7, none⟩ (.string p.e.p)).setCell ⟨w.heap.size + 1 + 1, 8, none⟩ (.slice a1 p.e.ks.length c1))).trans (hb2.mono (by simp; omega))
  clear hb2 c9_1 c10_1 c11_1 r0_1 r1_1 r2_1 r3_1 r4_1 r5_1 r6_1 r7_1 r8_1 r9_1 r10_1 r11_1 t0_1 t1_1 t2_1 t3_1 t4_1 t5_1 t6_1 t7_1 t8_1 t9_1 t10_1 t11_1 hK1 hO1
  go_wp2_with fail
  refine Calls.mono (hS (.slice a p.ks.length c) p.ks h' _ (kp.below ?hb) (by omega)) ?_
  case hb => repeat (first | (with_reducible exact bel2) | (with_reducible refine Below.setCell ?_ ?hh _; case hh => (simp; try omega)))
  rintro x w3 ⟨⟨u3, F3, rfl, hK3, hO3⟩, hb3⟩
  have hK13 := KidsIs.below (KidsIs.keep (w' := ((w2.setCell ⟨w.heap.size + 1 + 1, 9, none⟩ (.slice a2 p.es.length c2)).setCell ⟨w.heap.size + 1 + 1, 10, none⟩ (.int .i64 p.n))) (by simp) hK12 (fun b hb => by have := (hO12.2 b hb).1; repeat rw [Below.heap_setCell _ _ _ _ (by simp; try omega)])) hb3
  have hO13 := Own.below (Own.keep (w' := ((w2.setCell ⟨w.heap.size + 1 + 1, 9, none⟩ (.slice a2 p.es.length c2)).setCell ⟨w.heap.size + 1 + 1, 10, none⟩ (.int .i64 p.n))) hO12 (fun b hb => by have := (hO12.2 b hb).1; repeat rw [Below.heap_setCell _ _ _ _ (by simp; try omega)])) (fun b hb => by have := hK12.lt b hb; simpa using this) hb3
  have hK23 := KidsIs.below (KidsIs.keep (w' := ((w2.setCell ⟨w.heap.size + 1 + 1, 9, none⟩ (.slice a2 p.es.length c2)).setCell ⟨w.heap.size + 1 + 1, 10, none⟩ (.int .i64 p.n))) (by simp) hK2 (fun b hb => by have := (hO2.2 b hb).1; repeat rw [Below.heap_setCell _ _ _ _ (by simp; try omega)])) hb3
  have hO23 := Own.below (Own.keep (w' := ((w2.setCell ⟨w.heap.size + 1 + 1, 9, none⟩ (.slice a2 p.es.length c2)).setCell ⟨w.heap.size + 1 + 1, 10, none⟩ (.int .i64 p.n))) hO2 (fun b hb => by have := (hO2.2 b hb).1; repeat rw [Below.heap_setCell _ _ _ _ (by simp; try omega)])) (fun b hb => by have := hK2.lt b hb; simpa using this) hb3
  have hF2 : ∀ b ∈ F2, b < w2.heap.size := hK2.lt
  have hz3 := hb3.size
  simp only [World.size_setCell] at hz3 hO3
  have hf3 := (bcell hb3).2
  obtain ⟨a3, c3, rfl, _⟩ := hK3.shape
  have hy8 : w.heap.size + 1 + 1 < w3.heap.size := by omega
  have hy7 : w.heap.size + 1 < w3.heap.size := by omega
  have r0_3 : w3.cell? ⟨w.heap.size + 1, 0, none⟩ = some (.int .i64 0) := cell_later hb3 (by go_simp)
  have r1_3 : w3.cell? ⟨w.heap.size + 1, 1, none⟩ = some (.string ⟨#[]⟩) := cell_later hb3 (by go_simp)
  have r2_3 : w3.cell? ⟨w.heap.size + 1, 2, none⟩ = some (.int .i64 0) := cell_later hb3 (by go_simp)
  have r3_3 : w3.cell? ⟨w.heap.size + 1, 3, none⟩ = some (.int .i64 0) := cell_later hb3 (by go_simp)
  have r4_3 : w3.cell? ⟨w.heap.size + 1, 4, none⟩ = some (.int .i64 0) := cell_later hb3 (by go_simp)
  have r5_3 : w3.cell? ⟨w.heap.size + 1, 5, none⟩ = some (.int .i64 0) := cell_later hb3 (by go_simp)
  have r6_3 : w3.cell? ⟨w.heap.size + 1, 6, none⟩ = some (.string ⟨#[]⟩) := cell_later hb3 (by go_simp)
  have r7_3 : w3.cell? ⟨w.heap.size + 1, 7, none⟩ = some (.string ⟨#[]⟩) := cell_later hb3 (by go_simp)
  have r8_3 : w3.cell? ⟨w.heap.size + 1, 8, none⟩ = some (.slice none 0 0) := cell_later hb3 (by go_simp)
  have r9_3 : w3.cell? ⟨w.heap.size + 1, 9, none⟩ = some (.slice none 0 0) := cell_later hb3 (by go_simp)
  have r10_3 : w3.cell? ⟨w.heap.size + 1, 10, none⟩ = some (.int .i64 0) := cell_later hb3 (by go_simp)
  have r11_3 : w3.cell? ⟨w.heap.size + 1, 11, none⟩ = some (.slice none 0 0) := cell_later hb3 (by go_simp)
  have t0_3 : w3.cell? ⟨w.heap.size + 1 + 1, 0, none⟩ = some (.int .i64 p.k) := cell_later hb3 (by go_simp)
  have t1_3 : w3.cell? ⟨w.heap.size + 1 + 1, 1, none⟩ = some (.string p.s) := cell_later hb3 (by go_simp)
  have t2_3 : w3.cell? ⟨w.heap.size + 1 + 1, 2, none⟩ = some (.int .i64 p.e.k) := cell_later hb3 (by go_simp)
  have t3_3 : w3.cell? ⟨w.heap.size + 1 + 1, 3, none⟩ = some (.int .i64 p.e.n) := cell_later hb3 (by go_simp)
  have t4_3 : w3.cell? ⟨w.heap.size + 1 + 1, 4, none⟩ = some (.int .i64 p.e.v.k) := cell_later hb3 (by go_simp)
  have t5_3 : w3.cell? ⟨w.heap.size + 1 + 1, 5, none⟩ = some (.int .i64 p.e.v.n) := cell_later hb3 (by go_simp)
  have t6_3 : w3.cell? ⟨w.heap.size + 1 + 1, 6, none⟩ = some (.string p.e.v.s) := cell_later hb3 (by go_simp)
  have t7_3 : w3.cell? ⟨w.heap.size + 1 + 1, 7, none⟩ = some (.string p.e.p) := cell_later hb3 (by go_simp)
  have t8_3 : w3.cell? ⟨w.heap.size + 1 + 1, 8, none⟩ = some (.slice a1 p.e.ks.length c1) := cell_later hb3 (by go_simp)
  have t9_3 : w3.cell? ⟨w.heap.size + 1 + 1, 9, none⟩ = some (.slice a2 p.es.length c2) := cell_later hb3 (by go_simp)
  have t10_3 : w3.cell? ⟨w.heap.size + 1 + 1, 10, none⟩ = some (.int .i64 p.n) := cell_later hb3 (by go_simp)
  have t11_3 : w3.cell? ⟨w.heap.size + 1 + 1, 11, none⟩ = some (.slice none 0 0) := cell_later hb3 (by go_simp)
  have bel3 : Below w.heap.size w w3 := (by repeat (first | (with_reducible exact bel2) | (with_reducible refine Below.setCell ?_ ?hh _; case hh => (simp; try omega))) : Below w.heap.size w ((w2.setCell ⟨w.heap.size + 1 + 1, 9, none⟩ (.slice a2 p.es.length c2)).setCell ⟨w.heap.size + 1 + 1, 10, none⟩ (.int .i64 p.n))).trans (hb3.mono (by simp; omega))
  clear hb3 c10_2 c11_2 r0_2 r1_2 r2_2 r3_2 r4_2 r5_2 r6_2 r7_2 r8_2 r9_2 r10_2 r11_2 t0_2 t1_2 t2_2 t3_2 t4_2 t5_2 t6_2 t7_2 t8_2 t9_2 t10_2 t11_2 hK2 hO2 hK12 hO12
  have hOw : Own w3 (w.heap.size + 1 + 1 + 1) (F1 ++ (F2 ++ F3)) := hO13.app (hO23.app hO3 hF2 (by omega)) (fun b hb => hF1 b hb) (by omega)
  have hLL : ListsP w3 D (PlansIs w3 D d) p (.slice a1 p.e.ks.length c1) (.slice a2 p.es.length c2) (.slice a3 p.ks.length c3) (F1 ++ (F2 ++ F3)) := ⟨F1, F2, F3, rfl, hK13, hK23, hK3⟩
  clear hK13 hO13 hK23 hO23 hK3 hO3
  go_wp2
  refine bodyPost_ret (v := (.agg #[.int .i64 p.k, .string p.s, .int .i64 p.e.k, .int .i64 p.e.n, .int .i64 p.e.v.k, .int .i64 p.e.v.n, .string p.e.v.s, .string p.e.p, (.slice a1 p.e.ks.length c1), (.slice a2 p.es.length c2), .int .i64 p.n, (.slice a3 p.ks.length c3)])) (by simp [results, Tryd.results6, go_sem, *]) rfl ⟨⟨.slice a1 p.e.ks.length c1, .slice a2 p.es.length c2, .slice a3 p.ks.length c3, F1 ++ (F2 ++ F3), rfl, ?_, ?_⟩, ?_⟩
  · refine hLL.keep (by simp) fun b hb => ?_
    have := (hOw.2 b hb).1
    repeat rw [Below.heap_setCell _ _ _ _ (by simp; try omega)]
  · refine Own.keep (w := w3) (hOw.weak (by omega)) fun b hb => ?_
    have := (hOw.2 b hb).1
    repeat rw [Below.heap_setCell _ _ _ _ (by simp; try omega)]
  · repeat (first | (with_reducible exact bel3) | (with_reducible refine Below.setCell ?_ ?hh _; case hh => (simp; try omega)))
set_option maxHeartbeats 4000000 in
set_option maxRecDepth 100000 in
theorem toPlanS_step {D d : Nat} (hS : ToPS D d) : ToPS D (d + 1) := by
  intro v ps F w hr hn
  obtain ⟨a, c, b, o, G, rfl, hl, hc, hG, _, ha⟩ := hr.pick
  unfold maxLen at hc
  clear hr
  have hn1 : ps.length ≤ 1048576 := by omega
  have hmk := run_make_wide (P := Tryd.prog) 36 38 _ 12 168 Tryd.underlying36 Tryd.infoPlan ps.length (by omega) (by omega)
  go_enter Tryd.func15, Tryd.ntmps15
  go_wp2
  go_loopw [4] (fun i wr => ∃ (k : Nat) (G' : List (List Nat)), k ≤ ps.length ∧ i = .int .i64 k ∧ Below w.heap.size w wr ∧ HalfP wr D d w.heap.size ps G' k) (fun i _ => ps.length - (intOf i).toNat)
  case atStart => exact ⟨0, [], Nat.zero_le _, rfl, by go_grown, halfP_made _ _ _ _ _⟩
  case round =>
    obtain ⟨k, G', hk, rfl, hb, hH⟩ := hrel
    clear hmk
    by_cases hlt : k < ps.length
    · have hzb := hb.size
      obtain ⟨rfl, hblt, _, hL⟩ := ha k hlt
      obtain ⟨x, g, ue, us, u, hx, hg, hxw, ⟨c0, c1, c2, c3, c4, c5, c6, c7, c8, c9, c10, c11⟩, hK, hbr⟩ := hL.at hG hblt hb hlt
      have HX : Hid (ps[k]? = some x) := hx
      have hxn : wtP x ≤ 1048576 := by have := wtP_mem (List.mem_of_getElem? hx); omega
      have hBr := (hH.cells hlt).2.2.2.2.2.2.2.2.2.2.2.2.2
      have hHl := hH.lt hk
      clear ha hL hx
      go_wp2_with (go_at_call 6; refine (toPlan_of hS _ _ _ _ _ _ hK hxn).mono ?_; rintro e w1 ⟨⟨ue1, us1, u1, F1, rfl, hK1, hO1⟩, hb1⟩; obtain ⟨ae1, ce1, ak1, ck1, a1, n1, rfl, rfl, rfl, _⟩ := hK1.shape; have hz1 := hb1.size; have hH1 := hH.below hk hb1; obtain ⟨⟨y0, q0⟩, ⟨y1, q1⟩, ⟨y2, q2⟩, ⟨y3, q3⟩, ⟨y4, q4⟩, ⟨y5, q5⟩, ⟨y6, q6⟩, ⟨y7, q7⟩, ⟨y8, q8⟩, ⟨y9, q9⟩, ⟨y10, q10⟩, ⟨y11, q11⟩, gf, gs⟩ := hH1.cells hlt)
      refine ⟨⟨k + 1, _, hlt, by simp, ?_, hH1.step hk HX.out hxw hK1 ⟨hO1.1, fun b hb => ⟨by have := (hO1.2 b hb).1; omega, (hO1.2 b hb).2⟩⟩ (fun b hb hb' => by have := (hO1.2 b hb').1; have := hHl b hb; omega)⟩, by simp [intOf]; omega⟩
      repeat (first | (with_reducible exact Below.refl _ _) | (with_reducible refine Below.drew ?_) | (with_reducible refine Below.alloc ?_ ?hh _; case hh => first | (simp; done) | (simp; omega) | omega) | (with_reducible refine Below.setCell ?_ ?hh _; case hh => first | (simp; done) | (simp; omega) | omega) | refine bstep (by assumption) (by first | (simp; done) | (simp; omega) | omega) ?_)
    · go_wp2
      go_returns
      obtain rfl : k = ps.length := by omega
      by_cases hne : ps = []
      · subst hne
        exact ⟨⟨_, [], rfl, ⟨_, _, [], rfl, Nat.le_refl _, by simp, rfl, fun _ => rfl, fun h => absurd rfl h⟩, by simp [Own, OwnN]⟩, hb⟩
      · obtain ⟨h1, h2⟩ := hH.plans (by unfold maxLen; omega) hne
        exact ⟨⟨_, _, rfl, h1, h2⟩, hb⟩
theorem toPlanS_any (D : Nat) : ∀ d, ToPS D d
  | 0 => fun _ _ _ _ h => h.elim
  | d + 1 => toPlanS_step (toPlanS_any D d)
end Go.Proofs.YtlpgkhdmilnbgaaDoor
