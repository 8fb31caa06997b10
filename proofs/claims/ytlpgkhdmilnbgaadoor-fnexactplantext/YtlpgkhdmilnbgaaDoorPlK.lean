/- Own text. Plans as they lie in memory: a tree whose lists of kids are slices of twelve cells each, with the blocks that it lies in. -/
import Derived.Test.YtlpgkhdmilnbgaaDoorExpK
namespace Go.Proofs.YtlpgkhdmilnbgaaDoor
open Go.RowKit Go.Deep Go.ChangeShapes Go.WideShapes
set_option linter.unusedVariables false
/-- a plan: its kind, its name, its expression, its expressions, its number, its kids: in the model's own tree of data. -/
abbrev P12 : Type := DataW (Int × ByteArray × E7 × List E7 × Int)
namespace P12
def mk (k : Int) (s : ByteArray) (e : E7) (es : List E7) (n : Int) (ks : List P12) : P12 := .agg (.held (k, s, e, es, n) :: ks)
def k (p : P12) : Int := match p with | .agg (.held q :: _) => q.1 | _ => 0
def s (p : P12) : ByteArray := match p with | .agg (.held q :: _) => q.2.1 | _ => ⟨#[]⟩
def e (p : P12) : E7 := match p with | .agg (.held q :: _) => q.2.2.1 | _ => .nil
def es (p : P12) : List E7 := match p with | .agg (.held q :: _) => q.2.2.2.1 | _ => []
def n (p : P12) : Int := match p with | .agg (.held q :: _) => q.2.2.2.2 | _ => 0
def ks (p : P12) : List P12 := match p with | .agg (.held _ :: l) => l | _ => []
/-- numbers of 64 bits, texts of a size that there is: of the top alone. -/
def wf (p : P12) : Prop := (Lit.int .i64 p.k).wf = true ∧ p.s.size ≤ maxLen ∧ p.e.wf ∧ (Lit.int .i64 p.n).wf = true
end P12
/-- what a plan weighs: the lengths of its lists and texts. -/
def wtP : DataW (Int × ByteArray × E7 × List E7 × Int) → Nat
  | .agg (.held q :: l) => q.2.1.size + wtE q.2.2.1 + (q.2.2.2.1.length + wtEs q.2.2.2.1) + (l.length + (l.attach.map fun x => have := List.sizeOf_lt_of_mem x.2; wtP x.1).sum)
  | _ => 0
def wtPs : List P12 → Nat
  | [] => 0
  | p :: ps => wtP p + wtPs ps
theorem wtPs_sum (l : List P12) : (l.map wtP).sum = wtPs l := by
  induction l with
  | nil => rfl
  | cons e es ih => rw [List.map_cons, List.sum_cons, wtPs, ih]
theorem wtE_nil : wtE (DataW.nil : E7) = 0 := by rw [wtE.eq_def]
theorem wtP_eq (p : P12) : wtP p = p.s.size + wtE p.e + (p.es.length + wtEs p.es) + (p.ks.length + wtPs p.ks) := by
  rw [wtP.eq_def]
  split
  · rename_i q l
    have : (l.attach.map fun x => wtP x.1) = l.map wtP := by simp
    show q.2.1.size + wtE q.2.2.1 + (q.2.2.2.1.length + wtEs q.2.2.2.1) + (l.length + (l.attach.map fun x => wtP x.1).sum) = q.2.1.size + wtE q.2.2.1 + (q.2.2.2.1.length + wtEs q.2.2.2.1) + (l.length + wtPs l)
    rw [this, wtPs_sum]
  · rename_i h
    have hs : P12.s p = ⟨#[]⟩ := by unfold P12.s; split; exact absurd rfl (h _ _); rfl
    have he : P12.e p = .nil := by unfold P12.e; split; exact absurd rfl (h _ _); rfl
    have hes : P12.es p = [] := by unfold P12.es; split; exact absurd rfl (h _ _); rfl
    have hk : P12.ks p = [] := by unfold P12.ks; split; exact absurd rfl (h _ _); rfl
    rw [hs, he, hes, hk, wtE_nil]
    rfl
theorem wtPs_app (a b : List P12) : wtPs (a ++ b) = wtPs a + wtPs b := by
  induction a with
  | nil => simp [wtPs]
  | cons x xs ih => rw [List.cons_append, wtPs, wtPs, ih]; omega
theorem wtPs_take {ps : List P12} {k : Nat} {p : P12} (h : ps[k]? = some p) : wtPs (ps.take (k + 1)) = wtPs (ps.take k) + wtP p := by
  obtain ⟨hk, rfl⟩ := List.getElem?_eq_some_iff.1 h
  rw [List.take_succ_eq_append_getElem hk, wtPs_app]
  simp [wtPs]
theorem wtP_mem {ps : List P12} {p : P12} (h : p ∈ ps) : wtP p ≤ wtPs ps := by
  induction ps with
  | nil => cases h
  | cons y ys ih =>
    rw [wtPs]
    rcases List.mem_cons.1 h with rfl | h
    · omega
    · have := ih h; omega
/-- the twelve cells of a plan; ue, us, u: the slices of its expression's kids, of its expressions, of its kids. -/
def cellsP (w : World) (b q : Nat) (p : P12) (ue us u : Value) : Prop :=
  w.cell? ⟨b, q, none⟩ = some (.int .i64 p.k) ∧ w.cell? ⟨b, q + 1, none⟩ = some (.string p.s) ∧ w.cell? ⟨b, q + 2, none⟩ = some (.int .i64 p.e.k) ∧ w.cell? ⟨b, q + 3, none⟩ = some (.int .i64 p.e.n) ∧ w.cell? ⟨b, q + 4, none⟩ = some (.int .i64 p.e.v.k) ∧ w.cell? ⟨b, q + 5, none⟩ = some (.int .i64 p.e.v.n) ∧ w.cell? ⟨b, q + 6, none⟩ = some (.string p.e.v.s) ∧ w.cell? ⟨b, q + 7, none⟩ = some (.string p.e.p) ∧ w.cell? ⟨b, q + 8, none⟩ = some ue ∧ w.cell? ⟨b, q + 9, none⟩ = some us ∧ w.cell? ⟨b, q + 10, none⟩ = some (.int .i64 p.n) ∧ w.cell? ⟨b, q + 11, none⟩ = some u
theorem cellsP.keep {w w' : World} {b q : Nat} {p : P12} {ue us u : Value} (h : cellsP w b q p ue us u) (hb : w'.heap[b]? = w.heap[b]?) : cellsP w' b q p ue us u := by
  obtain ⟨h0, h1, h2, h3, h4, h5, h6, h7, h8, h9, h10, h11⟩ := h
  exact ⟨(cell_blk hb).trans h0, (cell_blk hb).trans h1, (cell_blk hb).trans h2, (cell_blk hb).trans h3, (cell_blk hb).trans h4, (cell_blk hb).trans h5, (cell_blk hb).trans h6, (cell_blk hb).trans h7, (cell_blk hb).trans h8, (cell_blk hb).trans h9, (cell_blk hb).trans h10, (cell_blk hb).trans h11⟩
/-- the three lists of a plan, in the blocks g; R: how its kids lie. -/
def ListsP (w : World) (D : Nat) (R : Value → List P12 → List Nat → Prop) (p : P12) (ue us u : Value) (g : List Nat) : Prop :=
  ∃ Fe Fs h, g = Fe ++ (Fs ++ h) ∧ KidsIs w D ue p.e.ks Fe ∧ KidsIs w D us p.es Fs ∧ R u p.ks h
/-- the slice value v has the plans ps, at most d deep, with expressions at most D deep; F: the blocks that all their lists lie in. -/
def PlansIs (w : World) (D : Nat) : Nat → Value → List P12 → List Nat → Prop
  | 0, _, _, _ => False
  | d + 1, v, ps, F => ∃ (a : Option Addr) (c : Nat) (G : List (List Nat)), v = .slice a ps.length c ∧ ps.length ≤ c ∧ c ≤ maxLen ∧ G.length = ps.length ∧ (ps = [] → F = []) ∧
      (ps ≠ [] → ∃ b o, a = some ⟨b, o, none⟩ ∧ b < w.heap.size ∧ F = b :: G.flatten ∧
        ∀ i p g, ps[i]? = some p → G[i]? = some g → p.wf ∧ ∃ ue us u, cellsP w b (o + i * 12) p ue us u ∧ ListsP w D (PlansIs w D d) p ue us u g)
/-- the plans ps lie in w from cell o of block b on, their lists in the blocks G. -/
def PLies (w : World) (D d b o : Nat) (ps : List P12) (G : List (List Nat)) : Prop :=
  ∀ i p g, ps[i]? = some p → G[i]? = some g → p.wf ∧ ∃ ue us u, cellsP w b (o + i * 12) p ue us u ∧ ListsP w D (PlansIs w D d) p ue us u g
theorem PlansIs.lt {w : World} {D : Nat} : ∀ {d : Nat} {v : Value} {ps : List P12} {F : List Nat}, PlansIs w D d v ps F → ∀ b ∈ F, b < w.heap.size
  | 0, _, _, _, h => h.elim
  | d + 1, v, ps, F, h => by
    obtain ⟨a, c, G, rfl, _, _, hG, h0, h⟩ := h
    by_cases hne : ps = []
    · rw [h0 hne]; intro b hb; cases hb
    obtain ⟨b, o, rfl, hlt, rfl, hL⟩ := h hne
    intro x hx
    rcases List.mem_cons.1 hx with rfl | hx
    · exact hlt
    obtain ⟨g, hg, hxg⟩ := List.mem_flatten.1 hx
    obtain ⟨i, hi, rfl⟩ := List.mem_iff_getElem.1 hg
    have hi' : i < ps.length := by omega
    obtain ⟨_, ue, us, u, _, Fe, Fs, h', hgg, ke, kes, kp⟩ := hL i ps[i] G[i] (by simp) (by simp)
    rw [hgg] at hxg
    rcases List.mem_append.1 hxg with hx | hx
    · exact ke.lt x hx
    rcases List.mem_append.1 hx with hx | hx
    · exact kes.lt x hx
    · exact kp.lt x hx
theorem PlansIs.keep {w w' : World} {D : Nat} (hs : w.heap.size ≤ w'.heap.size) : ∀ {d : Nat} {v : Value} {ps : List P12} {F : List Nat}, PlansIs w D d v ps F → (∀ b ∈ F, w'.heap[b]? = w.heap[b]?) → PlansIs w' D d v ps F
  | 0, _, _, _, h, _ => h.elim
  | d + 1, v, ps, F, h, hF => by
    obtain ⟨a, c, G, rfl, hl, hc, hG, h0, h⟩ := h
    refine ⟨a, c, G, rfl, hl, hc, hG, h0, fun hne => ?_⟩
    obtain ⟨b, o, rfl, hlt, rfl, hL⟩ := h hne
    refine ⟨b, o, rfl, Nat.lt_of_lt_of_le hlt hs, rfl, fun i e g he hg => ?_⟩
    obtain ⟨hw, ue, us, u, hc, Fe, Fs, h', rfl, ke, kes, kp⟩ := hL i e g he hg
    have hb := hF b List.mem_cons_self
    have hg' : ∀ x ∈ Fe ++ (Fs ++ h'), w'.heap[x]? = w.heap[x]? := fun x hx => hF x (List.mem_cons_of_mem _ (List.mem_flatten.2 ⟨_, List.mem_of_getElem? hg, hx⟩))
    exact ⟨hw, ue, us, u, hc.keep hb, Fe, Fs, h', rfl, ke.keep hs fun x hx => hg' x (List.mem_append_left _ hx), kes.keep hs fun x hx => hg' x (List.mem_append_right _ (List.mem_append_left _ hx)), kp.keep hs fun x hx => hg' x (List.mem_append_right _ (List.mem_append_right _ hx))⟩
theorem PlansIs.below {w w' : World} {D d : Nat} {v : Value} {ps : List P12} {F : List Nat} (h : PlansIs w D d v ps F) (hb : Below w.heap.size w w') : PlansIs w' D d v ps F :=
  h.keep hb.size fun b hF => hb.block b (h.lt b hF)
theorem PlansIs.up {w : World} {D D' : Nat} (hD : D ≤ D') : ∀ {d d' : Nat} {v : Value} {ps : List P12} {F : List Nat}, PlansIs w D d v ps F → d ≤ d' → PlansIs w D' d' v ps F
  | 0, _, _, _, _, h, _ => h.elim
  | d + 1, 0, _, _, _, _, hd => absurd hd (by omega)
  | d + 1, d' + 1, v, es, F, h, hd => by
    obtain ⟨a, c, G, rfl, hl, hc, hG, h0, h⟩ := h
    refine ⟨a, c, G, rfl, hl, hc, hG, h0, fun hne => ?_⟩
    obtain ⟨b, o, rfl, hlt, rfl, hL⟩ := h hne
    refine ⟨b, o, rfl, hlt, rfl, fun i e g he hg => ?_⟩
    obtain ⟨hw, ue, us, u, hc, Fe, Fs, h', hg', ke, kes, kp⟩ := hL i e g he hg
    exact ⟨hw, ue, us, u, hc, Fe, Fs, h', hg', ke.up hD, kes.up hD, kp.up hD (by omega)⟩
theorem PlansIs.pick {w : World} {D d : Nat} {v : Value} {ps : List P12} {F : List Nat} (h : PlansIs w D (d + 1) v ps F) :
    ∃ a c b o G, v = .slice a ps.length c ∧ ps.length ≤ c ∧ c ≤ maxLen ∧ G.length = ps.length ∧ (ps = [] → F = []) ∧ ∀ k, k < ps.length → a = some ⟨b, o, none⟩ ∧ b < w.heap.size ∧ F = b :: G.flatten ∧ PLies w D d b o ps G := by
  obtain ⟨a, c, G, rfl, hl, hc, hG, h0, h⟩ := h
  by_cases hne : ps = []
  · exact ⟨a, c, 0, 0, G, rfl, hl, hc, hG, h0, fun k hk => by rw [hne] at hk; simp at hk⟩
  · obtain ⟨b, o, h⟩ := h hne
    exact ⟨a, c, b, o, G, rfl, hl, hc, hG, h0, fun _ _ => h⟩
theorem PlansIs.shape {w : World} {D d : Nat} {v : Value} {ps : List P12} {F : List Nat} (h : PlansIs w D d v ps F) : ∃ a c, v = .slice a ps.length c ∧ ps.length ≤ c ∧ c ≤ maxLen := by
  cases d with
  | zero => exact h.elim
  | succ d =>
    obtain ⟨a, c, G, rfl, hl, hc, _⟩ := h
    exact ⟨a, c, rfl, hl, hc⟩
theorem ListsP.below {w w' : World} {D d : Nat} {p : P12} {ue us u : Value} {g : List Nat} (h : ListsP w D (PlansIs w D d) p ue us u g) (hb : Below w.heap.size w w') : ListsP w' D (PlansIs w' D d) p ue us u g := by
  obtain ⟨Fe, Fs, h', hg, ke, kes, kp⟩ := h
  exact ⟨Fe, Fs, h', hg, ke.below hb, kes.below hb, kp.below hb⟩
theorem ListsP.lt {w : World} {D d : Nat} {p : P12} {ue us u : Value} {g : List Nat} (h : ListsP w D (PlansIs w D d) p ue us u g) : ∀ b ∈ g, b < w.heap.size := by
  obtain ⟨Fe, Fs, h', rfl, ke, kes, kp⟩ := h
  intro x hx
  rcases List.mem_append.1 hx with hx | hx
  · exact ke.lt x hx
  rcases List.mem_append.1 hx with hx | hx
  · exact kes.lt x hx
  · exact kp.lt x hx
theorem ListsP.keep {w w' : World} {D d : Nat} {p : P12} {ue us u : Value} {g : List Nat} (h : ListsP w D (PlansIs w D d) p ue us u g) (hs : w.heap.size ≤ w'.heap.size) (hF : ∀ b ∈ g, w'.heap[b]? = w.heap[b]?) : ListsP w' D (PlansIs w' D d) p ue us u g := by
  obtain ⟨Fe, Fs, h', rfl, ke, kes, kp⟩ := h
  exact ⟨Fe, Fs, h', rfl, ke.keep hs fun x hx => hF x (List.mem_append_left _ hx), kes.keep hs fun x hx => hF x (List.mem_append_right _ (List.mem_append_left _ hx)), kp.keep hs fun x hx => hF x (List.mem_append_right _ (List.mem_append_right _ hx))⟩
theorem ListsP.shape {w : World} {D d : Nat} {p : P12} {ue us u : Value} {g : List Nat} (h : ListsP w D (PlansIs w D d) p ue us u g) :
    ∃ ae ce ak ck a c, ue = .slice ae p.e.ks.length ce ∧ us = .slice ak p.es.length ck ∧ u = .slice a p.ks.length c ∧ p.e.ks.length ≤ ce ∧ ce ≤ maxLen ∧ p.es.length ≤ ck ∧ ck ≤ maxLen ∧ p.ks.length ≤ c ∧ c ≤ maxLen := by
  obtain ⟨Fe, Fs, h', hg, ke, kes, kp⟩ := h
  obtain ⟨ae, ce, h1, h2, h3⟩ := ke.shape
  obtain ⟨ak, ck, h4, h5, h6⟩ := kes.shape
  obtain ⟨a, c, h7, h8, h9⟩ := kp.shape
  exact ⟨ae, ce, ak, ck, a, c, h1, h4, h7, h2, h3, h5, h6, h8, h9⟩
theorem PLies.at {w w' : World} {D d b o : Nat} {ps : List P12} {G : List (List Nat)} (h : PLies w D d b o ps G) (hG : G.length = ps.length) (hlt : b < w.heap.size) (hb : Below w.heap.size w w') {k : Nat} (hk : k < ps.length) :
    ∃ p g ue us u, ps[k]? = some p ∧ G[k]? = some g ∧ p.wf ∧ cellsP w' b (o + k * 12) p ue us u ∧ ListsP w' D (PlansIs w' D d) p ue us u g ∧ b < w'.heap.size := by
  have hk' : k < G.length := by omega
  obtain ⟨hw, ue, us, u, hc, hL⟩ := h k ps[k] G[k] (by simp) (by simp)
  exact ⟨ps[k], G[k], ue, us, u, by simp, by simp, hw, hc.keep (hb.block b hlt), hL.below hb, Nat.lt_of_lt_of_le hlt hb.size⟩
end Go.Proofs.YtlpgkhdmilnbgaaDoor
