/- Own text. Questions as they lie in memory: two flags and six lists in eight cells, the last list those of questions; with the blocks that all of it lies in. -/
import Derived.Test.YtmheiehhdmajfaaAstK
import Derived.Test.YtmheiehhdmajfaaStrK
namespace Go.Proofs.Ytmheiehhdmajfaa
open Go.RowKit Go.Deep Go.ChangeShapes Go.WideShapes
set_option linter.unusedVariables false
/-- a question: distinct, star, items, from, where, group, sum, next: in the model's own tree of data. -/
abbrev S8 : Type := DataW (Bool × Bool × List A6 × List ByteArray × List A6 × List A6 × List A6)
namespace S8
def mk (d s : Bool) (it : List A6) (fr : List ByteArray) (wh gr su : List A6) (ks : List S8) : S8 := .agg (.held (d, s, it, fr, wh, gr, su) :: ks)
def d (q : S8) : Bool := match q with | .agg (.held p :: _) => p.1 | _ => false
def s (q : S8) : Bool := match q with | .agg (.held p :: _) => p.2.1 | _ => false
def it (q : S8) : List A6 := match q with | .agg (.held p :: _) => p.2.2.1 | _ => []
def fr (q : S8) : List ByteArray := match q with | .agg (.held p :: _) => p.2.2.2.1 | _ => []
def wh (q : S8) : List A6 := match q with | .agg (.held p :: _) => p.2.2.2.2.1 | _ => []
def gr (q : S8) : List A6 := match q with | .agg (.held p :: _) => p.2.2.2.2.2.1 | _ => []
def su (q : S8) : List A6 := match q with | .agg (.held p :: _) => p.2.2.2.2.2.2 | _ => []
def ks (q : S8) : List S8 := match q with | .agg (.held _ :: l) => l | _ => []
/-- texts of a size that there is: of the top alone. -/
def wf (q : S8) : Prop := SsWf q.fr
end S8
/-- what a question weighs: the lengths of its lists and texts. -/
def wtQ : DataW (Bool × Bool × List A6 × List ByteArray × List A6 × List A6 × List A6) → Nat
  | .agg (.held p :: l) => (p.2.2.1.length + wtAs p.2.2.1) + (p.2.2.2.1.length + wtSs p.2.2.2.1) + (p.2.2.2.2.1.length + wtAs p.2.2.2.2.1) + (p.2.2.2.2.2.1.length + wtAs p.2.2.2.2.2.1) + (p.2.2.2.2.2.2.length + wtAs p.2.2.2.2.2.2) + (l.length + (l.attach.map fun x => have := List.sizeOf_lt_of_mem x.2; wtQ x.1).sum)
  | _ => 0
def wtQs : List S8 → Nat
  | [] => 0
  | p :: ps => wtQ p + wtQs ps
theorem wtQs_sum (l : List S8) : (l.map wtQ).sum = wtQs l := by
  induction l with
  | nil => rfl
  | cons e es ih => rw [List.map_cons, List.sum_cons, wtQs, ih]
theorem wtQ_eq (q : S8) : wtQ q = (q.it.length + wtAs q.it) + (q.fr.length + wtSs q.fr) + (q.wh.length + wtAs q.wh) + (q.gr.length + wtAs q.gr) + (q.su.length + wtAs q.su) + (q.ks.length + wtQs q.ks) := by
  rw [wtQ.eq_def]
  split
  · rename_i p l
    have : (l.attach.map fun x => wtQ x.1) = l.map wtQ := by simp
    show (p.2.2.1.length + wtAs p.2.2.1) + (p.2.2.2.1.length + wtSs p.2.2.2.1) + (p.2.2.2.2.1.length + wtAs p.2.2.2.2.1) + (p.2.2.2.2.2.1.length + wtAs p.2.2.2.2.2.1) + (p.2.2.2.2.2.2.length + wtAs p.2.2.2.2.2.2) + (l.length + (l.attach.map fun x => wtQ x.1).sum) = (p.2.2.1.length + wtAs p.2.2.1) + (p.2.2.2.1.length + wtSs p.2.2.2.1) + (p.2.2.2.2.1.length + wtAs p.2.2.2.2.1) + (p.2.2.2.2.2.1.length + wtAs p.2.2.2.2.2.1) + (p.2.2.2.2.2.2.length + wtAs p.2.2.2.2.2.2) + (l.length + wtQs l)
    rw [this, wtQs_sum]
  · rename_i hn
    have h0 : S8.it q = [] := by unfold S8.it; split; exact absurd rfl (hn _ _); rfl
    have h1 : S8.fr q = [] := by unfold S8.fr; split; exact absurd rfl (hn _ _); rfl
    have h2 : S8.wh q = [] := by unfold S8.wh; split; exact absurd rfl (hn _ _); rfl
    have h3 : S8.gr q = [] := by unfold S8.gr; split; exact absurd rfl (hn _ _); rfl
    have h4 : S8.su q = [] := by unfold S8.su; split; exact absurd rfl (hn _ _); rfl
    have h5 : S8.ks q = [] := by unfold S8.ks; split; exact absurd rfl (hn _ _); rfl
    rw [h0, h1, h2, h3, h4, h5]
    rfl
theorem wtQs_app (a b : List S8) : wtQs (a ++ b) = wtQs a + wtQs b := by
  induction a with
  | nil => simp [wtQs]
  | cons x xs ih => rw [List.cons_append, wtQs, wtQs, ih]; omega
theorem wtQs_take {ps : List S8} {k : Nat} {p : S8} (h : ps[k]? = some p) : wtQs (ps.take (k + 1)) = wtQs (ps.take k) + wtQ p := by
  obtain ⟨hk, rfl⟩ := List.getElem?_eq_some_iff.1 h
  rw [List.take_succ_eq_append_getElem hk, wtQs_app]
  simp [wtQs]
theorem wtQ_mem {ps : List S8} {p : S8} (h : p ∈ ps) : wtQ p ≤ wtQs ps := by
  induction ps with
  | nil => cases h
  | cons y ys ih =>
    rw [wtQs]
    rcases List.mem_cons.1 h with rfl | h
    · omega
    · have := ih h; omega
/-- the eight cells of a question; ui uf uw ug um u: the slices of its lists. -/
def cellsQ (w : World) (b o : Nat) (q : S8) (ui uf uw ug um u : Value) : Prop :=
  w.cell? ⟨b, o, none⟩ = some (.bool q.d) ∧ w.cell? ⟨b, o + 1, none⟩ = some (.bool q.s) ∧ w.cell? ⟨b, o + 2, none⟩ = some ui ∧ w.cell? ⟨b, o + 3, none⟩ = some uf ∧ w.cell? ⟨b, o + 4, none⟩ = some uw ∧ w.cell? ⟨b, o + 5, none⟩ = some ug ∧ w.cell? ⟨b, o + 6, none⟩ = some um ∧ w.cell? ⟨b, o + 7, none⟩ = some u
theorem cellsQ.keep {w w' : World} {b o : Nat} {q : S8} {ui uf uw ug um u : Value} (h : cellsQ w b o q ui uf uw ug um u) (hb : w'.heap[b]? = w.heap[b]?) : cellsQ w' b o q ui uf uw ug um u := by
  obtain ⟨h0, h1, h2, h3, h4, h5, h6, h7⟩ := h
  exact ⟨(cell_blk hb).trans h0, (cell_blk hb).trans h1, (cell_blk hb).trans h2, (cell_blk hb).trans h3, (cell_blk hb).trans h4, (cell_blk hb).trans h5, (cell_blk hb).trans h6, (cell_blk hb).trans h7⟩
/-- the six lists of a question, in the blocks g; R: how its next ones lie. -/
def ListsQ (w : World) (D : Nat) (R : Value → List S8 → List Nat → Prop) (q : S8) (ui uf uw ug um u : Value) (g : List Nat) : Prop :=
  ∃ Fi Ff Fw Fg Fm h, g = Fi ++ (Ff ++ (Fw ++ (Fg ++ (Fm ++ h)))) ∧ AstsIs w D ui q.it Fi  ∧ StrsF w uf q.fr Ff  ∧ AstsIs w D uw q.wh Fw  ∧ AstsIs w D ug q.gr Fg  ∧ AstsIs w D um q.su Fm  ∧ R u q.ks h 
/-- the slice value v has the questions ps, at most d deep, with expressions at most D deep; F: the blocks that all their lists lie in. -/
def SelsIs (w : World) (D : Nat) : Nat → Value → List S8 → List Nat → Prop
  | 0, _, _, _ => False
  | d + 1, v, ps, F => ∃ (a : Option Addr) (c : Nat) (G : List (List Nat)), v = .slice a ps.length c ∧ ps.length ≤ c ∧ c ≤ maxLen ∧ G.length = ps.length ∧ (ps = [] → F = []) ∧
      (ps ≠ [] → ∃ b o, a = some ⟨b, o, none⟩ ∧ b < w.heap.size ∧ F = b :: G.flatten ∧
        ∀ i p g, ps[i]? = some p → G[i]? = some g → p.wf ∧ ∃ ui uf uw ug um u, cellsQ w b (o + i * 8) p ui uf uw ug um u ∧ ListsQ w D (SelsIs w D d) p ui uf uw ug um u g)
/-- the questions ps lie in w from cell o of block b on, their lists in the blocks G. -/
def QLies (w : World) (D d b o : Nat) (ps : List S8) (G : List (List Nat)) : Prop :=
  ∀ i p g, ps[i]? = some p → G[i]? = some g → p.wf ∧ ∃ ui uf uw ug um u, cellsQ w b (o + i * 8) p ui uf uw ug um u ∧ ListsQ w D (SelsIs w D d) p ui uf uw ug um u g
theorem SelsIs.lt {w : World} {D : Nat} : ∀ {d : Nat} {v : Value} {ps : List S8} {F : List Nat}, SelsIs w D d v ps F → ∀ b ∈ F, b < w.heap.size
  | 0, _, _, _, h => h.elim
  | d + 1, v, ps, F, h => by
    obtain ⟨a, c, G, rfl, _, _, hG, h0, h⟩ := h
    by_cases hne : ps = []
    · rw [h0 hne]; intro b hb; cases hb
    obtain ⟨b, o, rfl, hlt, rfl, hL⟩ := h hne
    intro x hx
    rcases List.mem_cons.1 hx with rfl | hx
    · exact hlt
    obtain ⟨g, hg, hxg⟩ := List.mem_flatten.1 hx
    obtain ⟨i, hi, rfl⟩ := List.mem_iff_getElem.1 hg
    have hi' : i < ps.length := by omega
    obtain ⟨_, ui, uf, uw, ug, um, u, _, Fi, Ff, Fw, Fg, Fm, h, hgg, ki, kf, kw, kg, km, kn⟩ := hL i ps[i] G[i] (by simp) (by simp)
    rw [hgg] at hxg
    clear hx
    have hx := hxg
    rcases List.mem_append.1 hx with hx | hx
    · exact ki.lt x hx
    rcases List.mem_append.1 hx with hx | hx
    · exact kf.lt x hx
    rcases List.mem_append.1 hx with hx | hx
    · exact kw.lt x hx
    rcases List.mem_append.1 hx with hx | hx
    · exact kg.lt x hx
    rcases List.mem_append.1 hx with hx | hx
    · exact km.lt x hx
    · exact kn.lt x hx
theorem SelsIs.keep {w w' : World} {D : Nat} (hs : w.heap.size ≤ w'.heap.size) : ∀ {d : Nat} {v : Value} {ps : List S8} {F : List Nat}, SelsIs w D d v ps F → (∀ b ∈ F, w'.heap[b]? = w.heap[b]?) → SelsIs w' D d v ps F
  | 0, _, _, _, h, _ => h.elim
  | d + 1, v, ps, F, h, hF => by
    obtain ⟨a, c, G, rfl, hl, hc, hG, h0, h⟩ := h
    refine ⟨a, c, G, rfl, hl, hc, hG, h0, fun hne => ?_⟩
    obtain ⟨b, o, rfl, hlt, rfl, hL⟩ := h hne
    refine ⟨b, o, rfl, Nat.lt_of_lt_of_le hlt hs, rfl, fun i e g he hg => ?_⟩
    obtain ⟨hw, ui, uf, uw, ug, um, u, hc, Fi, Ff, Fw, Fg, Fm, h, rfl, ki, kf, kw, kg, km, kn⟩ := hL i e g he hg
    have hb := hF b List.mem_cons_self
    have hg' : ∀ x ∈ Fi ++ (Ff ++ (Fw ++ (Fg ++ (Fm ++ h)))), w'.heap[x]? = w.heap[x]? := fun x hx => hF x (List.mem_cons_of_mem _ (List.mem_flatten.2 ⟨_, List.mem_of_getElem? hg, hx⟩))
    exact ⟨hw, ui, uf, uw, ug, um, u, hc.keep hb, Fi, Ff, Fw, Fg, Fm, h, rfl, ki.keep hs fun x hx => hg' x (List.mem_append_left _ hx), kf.keep hs fun x hx => hg' x (List.mem_append_right _ (List.mem_append_left _ hx)), kw.keep hs fun x hx => hg' x (List.mem_append_right _ (List.mem_append_right _ (List.mem_append_left _ hx))), kg.keep hs fun x hx => hg' x (List.mem_append_right _ (List.mem_append_right _ (List.mem_append_right _ (List.mem_append_left _ hx)))), km.keep hs fun x hx => hg' x (List.mem_append_right _ (List.mem_append_right _ (List.mem_append_right _ (List.mem_append_right _ (List.mem_append_left _ hx))))), kn.keep hs fun x hx => hg' x (List.mem_append_right _ (List.mem_append_right _ (List.mem_append_right _ (List.mem_append_right _ (List.mem_append_right _ hx)))))⟩
theorem SelsIs.below {w w' : World} {D d : Nat} {v : Value} {ps : List S8} {F : List Nat} (h : SelsIs w D d v ps F) (hb : Below w.heap.size w w') : SelsIs w' D d v ps F :=
  h.keep hb.size fun b hF => hb.block b (h.lt b hF)
theorem SelsIs.up {w : World} {D D' : Nat} (hD : D ≤ D') : ∀ {d d' : Nat} {v : Value} {ps : List S8} {F : List Nat}, SelsIs w D d v ps F → d ≤ d' → SelsIs w D' d' v ps F
  | 0, _, _, _, _, h, _ => h.elim
  | d + 1, 0, _, _, _, _, hd => absurd hd (by omega)
  | d + 1, d' + 1, v, es, F, h, hd => by
    obtain ⟨a, c, G, rfl, hl, hc, hG, h0, h⟩ := h
    refine ⟨a, c, G, rfl, hl, hc, hG, h0, fun hne => ?_⟩
    obtain ⟨b, o, rfl, hlt, rfl, hL⟩ := h hne
    refine ⟨b, o, rfl, hlt, rfl, fun i e g he hg => ?_⟩
    obtain ⟨hw, ui, uf, uw, ug, um, u, hc, Fi, Ff, Fw, Fg, Fm, h, hg', ki, kf, kw, kg, km, kn⟩ := hL i e g he hg
    exact ⟨hw, ui, uf, uw, ug, um, u, hc, Fi, Ff, Fw, Fg, Fm, h, hg', ki.up hD, kf, kw.up hD, kg.up hD, km.up hD, kn.up hD (by omega)⟩
theorem SelsIs.pick {w : World} {D d : Nat} {v : Value} {ps : List S8} {F : List Nat} (h : SelsIs w D (d + 1) v ps F) :
    ∃ a c b o G, v = .slice a ps.length c ∧ ps.length ≤ c ∧ c ≤ maxLen ∧ G.length = ps.length ∧ (ps = [] → F = []) ∧ ∀ k, k < ps.length → a = some ⟨b, o, none⟩ ∧ b < w.heap.size ∧ F = b :: G.flatten ∧ QLies w D d b o ps G := by
  obtain ⟨a, c, G, rfl, hl, hc, hG, h0, h⟩ := h
  by_cases hne : ps = []
  · exact ⟨a, c, 0, 0, G, rfl, hl, hc, hG, h0, fun k hk => by rw [hne] at hk; simp at hk⟩
  · obtain ⟨b, o, h⟩ := h hne
    exact ⟨a, c, b, o, G, rfl, hl, hc, hG, h0, fun _ _ => h⟩
theorem SelsIs.shape {w : World} {D d : Nat} {v : Value} {ps : List S8} {F : List Nat} (h : SelsIs w D d v ps F) : ∃ a c, v = .slice a ps.length c ∧ ps.length ≤ c ∧ c ≤ maxLen := by
  cases d with
  | zero => exact h.elim
  | succ d =>
    obtain ⟨a, c, G, rfl, hl, hc, _⟩ := h
    exact ⟨a, c, rfl, hl, hc⟩
theorem ListsQ.below {w w' : World} {D d : Nat} {p : S8} {ui uf uw ug um u : Value} {g : List Nat} (h : ListsQ w D (SelsIs w D d) p ui uf uw ug um u g) (hb : Below w.heap.size w w') : ListsQ w' D (SelsIs w' D d) p ui uf uw ug um u g := by
  obtain ⟨Fi, Ff, Fw, Fg, Fm, h, hg, ki, kf, kw, kg, km, kn⟩ := h
  exact ⟨Fi, Ff, Fw, Fg, Fm, h, hg, ki.below hb, kf.below hb, kw.below hb, kg.below hb, km.below hb, kn.below hb⟩
theorem ListsQ.up {w : World} {D D' d d' : Nat} {p : S8} {ui uf uw ug um u : Value} {g : List Nat} (h : ListsQ w D (SelsIs w D d) p ui uf uw ug um u g) (hD : D ≤ D') (hd : d ≤ d') : ListsQ w D' (SelsIs w D' d') p ui uf uw ug um u g := by
  obtain ⟨Fi, Ff, Fw, Fg, Fm, h, hg, ki, kf, kw, kg, km, kn⟩ := h
  exact ⟨Fi, Ff, Fw, Fg, Fm, h, hg, ki.up hD, kf, kw.up hD, kg.up hD, km.up hD, kn.up hD hd⟩
theorem ListsQ.lt {w : World} {D d : Nat} {p : S8} {ui uf uw ug um u : Value} {g : List Nat} (h : ListsQ w D (SelsIs w D d) p ui uf uw ug um u g) : ∀ b ∈ g, b < w.heap.size := by
    obtain ⟨Fi, Ff, Fw, Fg, Fm, h, rfl, ki, kf, kw, kg, km, kn⟩ := h
    intro x hx
    rcases List.mem_append.1 hx with hx | hx
    · exact ki.lt x hx
    rcases List.mem_append.1 hx with hx | hx
    · exact kf.lt x hx
    rcases List.mem_append.1 hx with hx | hx
    · exact kw.lt x hx
    rcases List.mem_append.1 hx with hx | hx
    · exact kg.lt x hx
    rcases List.mem_append.1 hx with hx | hx
    · exact km.lt x hx
    · exact kn.lt x hx
theorem ListsQ.keep {w w' : World} {D d : Nat} {p : S8} {ui uf uw ug um u : Value} {g : List Nat} (h : ListsQ w D (SelsIs w D d) p ui uf uw ug um u g) (hs : w.heap.size ≤ w'.heap.size) (hF : ∀ b ∈ g, w'.heap[b]? = w.heap[b]?) : ListsQ w' D (SelsIs w' D d) p ui uf uw ug um u g := by
  obtain ⟨Fi, Ff, Fw, Fg, Fm, h, rfl, ki, kf, kw, kg, km, kn⟩ := h
  exact ⟨Fi, Ff, Fw, Fg, Fm, h, rfl, ki.keep hs fun x hx => hF x (List.mem_append_left _ hx), kf.keep hs fun x hx => hF x (List.mem_append_right _ (List.mem_append_left _ hx)), kw.keep hs fun x hx => hF x (List.mem_append_right _ (List.mem_append_right _ (List.mem_append_left _ hx))), kg.keep hs fun x hx => hF x (List.mem_append_right _ (List.mem_append_right _ (List.mem_append_right _ (List.mem_append_left _ hx)))), km.keep hs fun x hx => hF x (List.mem_append_right _ (List.mem_append_right _ (List.mem_append_right _ (List.mem_append_right _ (List.mem_append_left _ hx))))), kn.keep hs fun x hx => hF x (List.mem_append_right _ (List.mem_append_right _ (List.mem_append_right _ (List.mem_append_right _ (List.mem_append_right _ hx)))))⟩
theorem ListsQ.shape {w : World} {D d : Nat} {p : S8} {ui uf uw ug um u : Value} {g : List Nat} (h : ListsQ w D (SelsIs w D d) p ui uf uw ug um u g) :
    ∃ a0 c0 a1 c1 a2 c2 a3 c3 a4 c4 a5 c5, ui = .slice a0 p.it.length c0 ∧ uf = .slice a1 p.fr.length c1 ∧ uw = .slice a2 p.wh.length c2 ∧ ug = .slice a3 p.gr.length c3 ∧ um = .slice a4 p.su.length c4 ∧ u = .slice a5 p.ks.length c5 ∧ p.it.length ≤ c0 ∧ c0 ≤ maxLen ∧ p.fr.length ≤ c1 ∧ c1 ≤ maxLen ∧ p.wh.length ≤ c2 ∧ c2 ≤ maxLen ∧ p.gr.length ≤ c3 ∧ c3 ≤ maxLen ∧ p.su.length ≤ c4 ∧ c4 ≤ maxLen ∧ p.ks.length ≤ c5 ∧ c5 ≤ maxLen := by
  obtain ⟨Fi, Ff, Fw, Fg, Fm, h, hg, ki, kf, kw, kg, km, kn⟩ := h
  obtain ⟨a0, c0, e0, l0, m0⟩ := ki.shape
  obtain ⟨a1, c1, e1, l1, m1⟩ := kf.shape
  obtain ⟨a2, c2, e2, l2, m2⟩ := kw.shape
  obtain ⟨a3, c3, e3, l3, m3⟩ := kg.shape
  obtain ⟨a4, c4, e4, l4, m4⟩ := km.shape
  obtain ⟨a5, c5, e5, l5, m5⟩ := kn.shape
  exact ⟨a0, c0, a1, c1, a2, c2, a3, c3, a4, c4, a5, c5, e0, e1, e2, e3, e4, e5, l0, m0, l1, m1, l2, m2, l3, m3, l4, m4, l5, m5⟩
theorem QLies.at {w w' : World} {D d b o : Nat} {ps : List S8} {G : List (List Nat)} (h : QLies w D d b o ps G) (hG : G.length = ps.length) (hlt : b < w.heap.size) (hb : Below w.heap.size w w') {k : Nat} (hk : k < ps.length) :
    ∃ p g ui uf uw ug um u, ps[k]? = some p ∧ G[k]? = some g ∧ p.wf ∧ cellsQ w' b (o + k * 8) p ui uf uw ug um u ∧ ListsQ w' D (SelsIs w' D d) p ui uf uw ug um u g ∧ b < w'.heap.size := by
  have hk' : k < G.length := by omega
  obtain ⟨hw, ui, uf, uw, ug, um, u, hc, hL⟩ := h k ps[k] G[k] (by simp) (by simp)
  exact ⟨ps[k], G[k], ui, uf, uw, ug, um, u, by simp, by simp, hw, hc.keep (hb.block b hlt), hL.below hb, Nat.lt_of_lt_of_le hlt hb.size⟩
end Go.Proofs.Ytmheiehhdmajfaa
