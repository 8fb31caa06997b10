/- Own text. What a slice of expressions reads as, whatever blocks it lies in; and that it reads so still when one list of kids is swapped for another that reads the same. -/
import Derived.Test.YtjblljggmjbalaaClnE
import Derived.Handy
namespace Go.Proofs.Ytjblljggmjbalaa
open Go.RowKit Go.Deep
set_option linter.unusedVariables false
/-- the slice value v reads as the expressions es, at most d deep. -/
def RE (w : World) : Nat → Value → List E7 → Prop
  | 0, _, _ => False
  | d + 1, v, es => ∃ (a : Option Addr) (c : Nat), v = .slice a es.length c ∧ es.length ≤ c ∧ c ≤ maxLen ∧
      (es ≠ [] → ∃ b o, a = some ⟨b, o, none⟩ ∧ b < w.heap.size ∧
        ∀ i e, es[i]? = some e → e.wf ∧ cellsE w b (o + i * 7) e ∧ ∃ u, w.cell? ⟨b, o + i * 7 + 6, none⟩ = some u ∧ RE w d u e.ks)
theorem KidsIs.re {w : World} : ∀ {d : Nat} {v : Value} {es : List E7} {F : List Nat}, KidsIs w d v es F → RE w d v es
  | 0, _, _, _, h => h.elim
  | d + 1, v, es, F, h => by
    obtain ⟨a, c, G, rfl, hl, hc, hG, h0, h⟩ := h
    refine ⟨a, c, rfl, hl, hc, fun hne => ?_⟩
    obtain ⟨b, o, rfl, hlt, rfl, hL⟩ := h hne
    refine ⟨b, o, rfl, hlt, fun i e he => ?_⟩
    have hi : i < G.length := by have := (List.getElem?_eq_some_iff.1 he).1; omega
    obtain ⟨hw, hc, u, hu, hk⟩ := hL i e G[i] he (by simp)
    exact ⟨hw, hc, u, hu, hk.re⟩
theorem RE.below {w w' : World} (hb : Below w.heap.size w w') : ∀ {d : Nat} {v : Value} {es : List E7}, RE w d v es → RE w' d v es
  | 0, _, _, h => h.elim
  | d + 1, v, es, h => by
    obtain ⟨a, c, rfl, hl, hc, h⟩ := h
    refine ⟨a, c, rfl, hl, hc, fun hne => ?_⟩
    obtain ⟨b, o, rfl, hlt, hL⟩ := h hne
    refine ⟨b, o, rfl, Nat.lt_of_lt_of_le hlt hb.size, fun i e he => ?_⟩
    obtain ⟨hw, hc, u, hu, hk⟩ := hL i e he
    exact ⟨hw, hc.keep (hb.block b hlt), u, (cell_blk (hb.block b hlt)).trans hu, RE.below hb hk⟩
theorem RE.up {w : World} : ∀ {d d' : Nat} {v : Value} {es : List E7}, RE w d v es → d ≤ d' → RE w d' v es
  | 0, _, _, _, h, _ => h.elim
  | d + 1, 0, _, _, _, hd => absurd hd (by omega)
  | d + 1, d' + 1, v, es, h, hd => by
    obtain ⟨a, c, rfl, hl, hc, h⟩ := h
    refine ⟨a, c, rfl, hl, hc, fun hne => ?_⟩
    obtain ⟨b, o, rfl, hlt, hL⟩ := h hne
    refine ⟨b, o, rfl, hlt, fun i e he => ?_⟩
    obtain ⟨hw, hc, u, hu, hk⟩ := hL i e he
    exact ⟨hw, hc, u, hu, RE.up hk (by omega)⟩
theorem RE.shape {w : World} {d : Nat} {v : Value} {es : List E7} (h : RE w d v es) : ∃ a c, v = .slice a es.length c ∧ es.length ≤ c ∧ c ≤ maxLen := by
  cases d with
  | zero => exact h.elim
  | succ d =>
    obtain ⟨a, c, rfl, hl, hc, _⟩ := h
    exact ⟨a, c, rfl, hl, hc⟩
/-- one cell, that held the slice u1, holds u2 that reads the same: whatever is read is read as before. -/
theorem RE.swap {w w' : World} {pb po : Nat} {a1 : Option Addr} {n1 c1 : Nat} {u2 : Value} (hs : w.heap.size ≤ w'.heap.size) (hc : ∀ b q, b < w.heap.size → (b ≠ pb ∨ q ≠ po) → w'.cell? ⟨b, q, none⟩ = w.cell? ⟨b, q, none⟩)
    (h1 : w.cell? ⟨pb, po, none⟩ = some (.slice a1 n1 c1)) (h2 : w'.cell? ⟨pb, po, none⟩ = some u2) (hu : ∀ d ks, RE w d (.slice a1 n1 c1) ks → RE w d u2 ks) : ∀ {d : Nat} {v : Value} {es : List E7}, RE w d v es → RE w' d v es
  | 0, _, _, h => h.elim
  | d + 1, v, es, h => by
    obtain ⟨a, c, rfl, hl, hcm, h⟩ := h
    refine ⟨a, c, rfl, hl, hcm, fun hne => ?_⟩
    obtain ⟨b, o, rfl, hlt, hL⟩ := h hne
    refine ⟨b, o, rfl, Nat.lt_of_lt_of_le hlt hs, fun i e he => ?_⟩
    obtain ⟨hw, ⟨e0, e1, e2, e3, e4, e5⟩, u, hu6, hk⟩ := hL i e he
    have far : ∀ q x, w.cell? ⟨b, q, none⟩ = some x → (∀ a n c, x ≠ .slice a n c) → w'.cell? ⟨b, q, none⟩ = some x := by
      intro q x hx hno
      refine (hc b q hlt ?_).trans hx
      by_cases hb : b = pb
      · right
        rintro rfl
        subst hb
        rw [h1] at hx
        exact hno _ _ _ (Option.some.inj hx).symm
      · exact .inl hb
    refine ⟨hw, ⟨far _ _ e0 (fun _ _ _ h => by cases h), far _ _ e1 (fun _ _ _ h => by cases h), far _ _ e2 (fun _ _ _ h => by cases h), far _ _ e3 (fun _ _ _ h => by cases h), far _ _ e4 (fun _ _ _ h => by cases h), far _ _ e5 (fun _ _ _ h => by cases h)⟩, ?_⟩
    by_cases hp : b = pb ∧ o + i * 7 + 6 = po
    · obtain ⟨rfl, rfl⟩ := hp
      rw [h1] at hu6
      obtain rfl := Option.some.inj hu6
      exact ⟨u2, h2, RE.swap hs hc h1 h2 hu (hu d e.ks hk)⟩
    · refine ⟨u, (hc b _ hlt ?_).trans hu6, RE.swap hs hc h1 h2 hu hk⟩
      by_cases hb : b = pb
      · right; intro h; exact hp ⟨hb, h⟩
      · exact .inl hb
theorem RE.kids {w : World} : ∀ {d : Nat} {v : Value} {es : List E7}, RE w d v es → ∃ F, KidsIs w d v es F
  | 0, _, _, h => h.elim
  | d + 1, v, es, h => by
    obtain ⟨a, c, rfl, hl, hc, h⟩ := h
    by_cases hne : es = []
    · subst hne
      exact ⟨[], a, c, [], rfl, hl, hc, rfl, fun _ => rfl, fun h => absurd rfl h⟩
    obtain ⟨b, o, rfl, hlt, hL⟩ := h hne
    have each : ∀ i, i < es.length → ∃ g : List Nat, ∀ e, es[i]? = some e → e.wf ∧ cellsE w b (o + i * 7) e ∧ ∃ u, w.cell? ⟨b, o + i * 7 + 6, none⟩ = some u ∧ KidsIs w d u e.ks g := by
      intro i hi
      obtain ⟨hw, hc, u, hu, hk⟩ := hL i es[i] (by simp)
      obtain ⟨g, hg⟩ := RE.kids hk
      refine ⟨g, fun e he => ?_⟩
      obtain rfl : es[i] = e := by simpa [hi] using he
      exact ⟨hw, hc, u, hu, hg⟩
    obtain ⟨q, hq⟩ := choose_lt each
    refine ⟨b :: ((List.range es.length).map q).flatten, some ⟨b, o, none⟩, c, (List.range es.length).map q, rfl, hl, hc, by simp, fun h => absurd h hne, fun _ => ⟨b, o, rfl, hlt, rfl, fun i e g he hg => ?_⟩⟩
    have hi : i < es.length := (List.getElem?_eq_some_iff.1 he).1
    obtain rfl : q i = g := by simpa [hi] using hg
    exact hq i hi e he
/-- u has the cells of v, n expressions' worth, in a block of its own from N on. -/
def ClOf (w : World) (N : Nat) (v u : Value) (n : Nat) : Prop :=
  (n = 0 ∧ ∃ a c, u = .slice a 0 c ∧ c ≤ maxLen) ∨ ∃ b o c g cap, v = .slice (some ⟨b, o, none⟩) n c ∧ u = .slice (some ⟨g, 0, none⟩) n cap ∧ N ≤ g ∧ g < w.heap.size ∧ n ≤ cap ∧ cap ≤ maxLen ∧ (∀ q, w.frozen? ⟨g, q, none⟩ = false) ∧ ∀ j, j < n * 7 → w.cell? ⟨g, j, none⟩ = w.cell? ⟨b, o + j, none⟩
theorem ClOf.re {w : World} {N n : Nat} {v u : Value} (h : ClOf w N v u n) : ∀ d ks, ks.length = n → RE w d v ks → RE w d u ks := by
  intro d ks hn hr
  cases d with
  | zero => exact hr.elim
  | succ d =>
    obtain ⟨a, c, rfl, hl, hc, hr⟩ := hr
    rcases h with ⟨h0, a', c', rfl, hc'⟩ | ⟨b, o, c', g, cap, hv, rfl, _, hg, hcap, hm, _, hcell⟩
    · obtain rfl : ks = [] := List.length_eq_zero_iff.1 (by omega)
      exact ⟨a', c', rfl, Nat.zero_le _, hc', fun h => absurd rfl h⟩
    · refine ⟨some ⟨g, 0, none⟩, cap, by rw [hn], by omega, hm, fun hne => ⟨g, 0, rfl, hg, fun i e he => ?_⟩⟩
      obtain ⟨b', o', ea, hlt, hL⟩ := hr hne
      have hi : i < ks.length := (List.getElem?_eq_some_iff.1 he).1
      injection hv with ha
      rw [ea] at ha
      injection ha with ha
      injection ha with hb ho
      subst hb ho
      obtain ⟨hw, ⟨e0, e1, e2, e3, e4, e5⟩, x, e6, hk⟩ := hL i e he
      have cell : ∀ r, r < 7 → w.cell? ⟨g, 0 + i * 7 + r, none⟩ = w.cell? ⟨b', o' + i * 7 + r, none⟩ := by
        intro r hr
        have := hcell (i * 7 + r) (by omega)
        rw [Nat.zero_add, this, Nat.add_assoc]
      exact ⟨hw, ⟨(cell 0 (by omega)).trans e0, (cell 1 (by omega)).trans e1, (cell 2 (by omega)).trans e2, (cell 3 (by omega)).trans e3, (cell 4 (by omega)).trans e4, (cell 5 (by omega)).trans e5⟩, x, (cell 6 (by omega)).trans e6, hk⟩
end Go.Proofs.Ytjblljggmjbalaa
