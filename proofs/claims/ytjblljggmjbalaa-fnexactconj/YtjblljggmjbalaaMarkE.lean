/- Own text. The contracts of markExpS and heldExpS: expressions that are written over with marks, and that have them still. -/
import Derived.Test.YtjblljggmjbalaaChgX
import Derived.Test.YtjblljggmjbalaaMarkT
import Derived.Handy
import Derived.Deep.RegionHeld3
namespace Go.Proofs.Ytjblljggmjbalaa
open Go.RowKit Go.Deep
set_option linter.unusedVariables false
/-- how many expressions there are, kids and all, at most d deep. -/
def nK : Nat → List E7 → Nat
  | 0, _ => 0
  | d + 1, es => (es.map fun e => 1 + nK d e.ks).sum
/-- the mark that expression i begins with. -/
def offE (d k : Nat) (es : List E7) (i : Nat) : Nat := k + 6 * ((es.take i).map fun e => 1 + nK d e.ks).sum
/-- expressions that are marked from k on. -/
def mK : Nat → Nat → List E7 → List E7
  | 0, _, _ => []
  | d + 1, k, es => es.mapIdx fun i e => E7.mk (offE d k es i : Nat) ((offE d k es i : Nat) + 1) ⟨(offE d k es i : Nat) + 1 + 1, (offE d k es i : Nat) + 1 + 1 + 1, mt ((offE d k es i : Nat) + 1 + 1 + 1 + 1)⟩ (mt ((offE d k es i : Nat) + 1 + 1 + 1 + 1 + 1)) (mK d (offE d k es i + 6) e.ks)
/-- one that is marked from t on. -/
def mE (d t : Nat) (e : E7) : E7 := E7.mk t ((t : Int) + 1) ⟨(t : Int) + 1 + 1, (t : Int) + 1 + 1 + 1, mt ((t : Int) + 1 + 1 + 1 + 1)⟩ (mt ((t : Int) + 1 + 1 + 1 + 1 + 1)) (mK d (t + 6) e.ks)
theorem nK_le : ∀ (d : Nat) (es : List E7), nK d es ≤ es.length + wtEs es
  | 0, _ => Nat.zero_le _
  | d + 1, es => by
    rw [nK]
    induction es with
    | nil => simp
    | cons e es ih =>
      have h1 := nK_le d e.ks
      have h2 := wtE_eq e
      rw [List.map_cons, List.sum_cons, List.length_cons, wtEs]
      omega
theorem offE_zero (d k : Nat) (es : List E7) : offE d k es 0 = k := by simp [offE]
theorem offE_succ {d k i : Nat} {es : List E7} {e : E7} (h : es[i]? = some e) : offE d k es (i + 1) = offE d k es i + 6 + 6 * nK d e.ks := by
  obtain ⟨hk, rfl⟩ := List.getElem?_eq_some_iff.1 h
  unfold offE
  rw [List.take_succ_eq_append_getElem hk, List.map_append, List.sum_append]
  simp only [List.map_cons, List.map_nil, List.sum_cons, List.sum_nil]
  omega
theorem offE_end (d k : Nat) (es : List E7) : offE d k es es.length = k + 6 * nK (d + 1) es := by unfold offE; rw [List.take_length, nK]
theorem offE_le (d k : Nat) (es : List E7) (i : Nat) : offE d k es i ≤ k + 6 * nK (d + 1) es := by
  rw [nK]
  have h2 : ((es.take i).map fun e => 1 + nK d e.ks).sum ≤ (es.map fun e => 1 + nK d e.ks).sum := by
    conv => rhs; rw [← List.take_append_drop i es]
    rw [List.map_append, List.sum_append]
    omega
  unfold offE
  omega
theorem offE_pos (d k : Nat) (es : List E7) (i : Nat) (h : 0 < k) : 0 < offE d k es i := by unfold offE; omega
/-- expressions of which the first n are marked. -/
def mKi (d k n : Nat) (es : List E7) : List E7 := es.mapIdx fun i e => if i < n then mE d (offE d k es i) e else e
theorem mKi_len (d k n : Nat) (es : List E7) : (mKi d k n es).length = es.length := by simp [mKi]
theorem mKi_at {d k n i : Nat} {es : List E7} {e : E7} (h : es[i]? = some e) : (mKi d k n es)[i]? = some (if i < n then mE d (offE d k es i) e else e) := by simp [mKi, h]
theorem mKi_zero (d k : Nat) (es : List E7) : mKi d k 0 es = es := by
  apply List.ext_getElem?
  intro i
  cases h : es[i]? with
  | none => have := List.getElem?_eq_none_iff.1 h; rw [List.getElem?_eq_none (by rw [mKi_len]; exact this)]
  | some x => rw [mKi_at h, if_neg (by omega)]
theorem mK_len (d k : Nat) (es : List E7) : (mK (d + 1) k es).length = es.length := by simp [mK]
theorem mK_at {d k i : Nat} {es : List E7} {e : E7} (h : es[i]? = some e) : (mK (d + 1) k es)[i]? = some (mE d (offE d k es i) e) := by simp [mK, h, mE]
theorem mKi_all (d k : Nat) (es : List E7) : mKi d k es.length es = mK (d + 1) k es := by
  apply List.ext_getElem?
  intro i
  cases h : es[i]? with
  | none =>
    have := List.getElem?_eq_none_iff.1 h
    rw [List.getElem?_eq_none (by rw [mKi_len]; exact this), List.getElem?_eq_none (by rw [mK_len]; exact this)]
  | some x =>
    have := (List.getElem?_eq_some_iff.1 h).1
    rw [mKi_at h, if_pos this, mK_at h]
theorem mE_wf (d t : Nat) (e : E7) (h : t ≤ 999999990) (s1 : (mt ((t : Int) + 1 + 1 + 1 + 1)).size ≤ maxLen) (s2 : (mt ((t : Int) + 1 + 1 + 1 + 1 + 1)).size ≤ maxLen) : (mE d t e).wf := by
  have e1 : IntKind.i64.min = -9223372036854775808 := by decide
  have e2 : IntKind.i64.max = 9223372036854775807 := by decide
  refine ⟨?_, ?_, ⟨?_, ?_, s1⟩, s2⟩ <;> (simp only [mE, E7.mk_k, E7.mk_n, E7.mk_v, Lit.wf, Bool.and_eq_true, decide_eq_true_eq, e1, e2]; omega)
theorem far_set {w : World} {b q q' : Nat} {x : Value} (h : q ≠ q') : (w.setCell ⟨b, q', none⟩ x).cell? ⟨b, q, none⟩ = w.cell? ⟨b, q, none⟩ :=
  World.cell?_setCell_other _ _ _ _ (by intro e; have := congrArg Addr.off e; simp at this; omega)
theorem disjE {b : Nat} {G : List (List Nat)} (h : (b :: G.flatten).Nodup) {i j : Nat} {g g' : List Nat} (hi : G[i]? = some g) (hj : G[j]? = some g') (hne : i ≠ j) : ∀ y ∈ g, y ∉ g' := by
  have h2 := (List.nodup_cons.1 h).2
  rw [List.Nodup, List.pairwise_flatten] at h2
  have h3 := List.pairwise_iff_getElem.1 h2.2
  obtain ⟨hi', rfl⟩ := List.getElem?_eq_some_iff.1 hi
  obtain ⟨hj', rfl⟩ := List.getElem?_eq_some_iff.1 hj
  intro y hy hy'
  rcases Nat.lt_or_gt_of_ne hne with hlt | hlt
  · exact h3 i j hi' hj' hlt y hy y hy' rfl
  · exact h3 j i hj' hi' hlt y hy' y hy rfl
theorem headE {b : Nat} {G : List (List Nat)} (h : (b :: G.flatten).Nodup) {i : Nat} {g : List Nat} (hi : G[i]? = some g) : b ∉ g := fun hb =>
  (List.nodup_cons.1 h).1 (List.mem_flatten.2 ⟨g, List.mem_of_getElem? hi, hb⟩)
theorem ELies.mark {w w3 : World} {d b o k n : Nat} {es : List E7} {G : List (List Nat)} {e : E7} {g : List Nat} {u : Value} (h : ELies w d b o (mKi d k n es) G) (hG : G.length = es.length) (hnd : (b :: G.flatten).Nodup) (hx : es[n]? = some e) (hg : G[n]? = some g)
    (hu : w.cell? ⟨b, o + n * 7 + 6, none⟩ = some u) (hsz : w.heap.size ≤ w3.heap.size) (hblk : ∀ x ∈ G.flatten, x ∉ g → w3.heap[x]? = w.heap[x]?)
    (hcell : ∀ q, (∀ p, p < 6 → q ≠ o + n * 7 + p) → w3.cell? ⟨b, q, none⟩ = w.cell? ⟨b, q, none⟩) (hc : cellsE w3 b (o + n * 7) (mE d (offE d k es n) e)) (hwf : (mE d (offE d k es n) e).wf)
    (hK : KidsIs w3 d u (mK d (offE d k es n + 6) e.ks) g) : ELies w3 d b o (mKi d k (n + 1) es) G := by
  intro i y g' hy hg'
  have hi : i < es.length := by have := (List.getElem?_eq_some_iff.1 hy).1; rwa [mKi_len] at this
  obtain ⟨z, hz⟩ : ∃ z, es[i]? = some z := ⟨es[i], by simp [hi]⟩
  rw [mKi_at hz] at hy
  have hy := (Option.some.inj hy).symm
  by_cases ei : i = n
  · subst ei
    obtain rfl : z = e := by rw [hx] at hz; exact (Option.some.inj hz).symm
    obtain rfl : g' = g := by rw [hg] at hg'; exact (Option.some.inj hg').symm
    rw [if_pos (by omega)] at hy
    subst hy
    exact ⟨hwf, hc, u, (hcell _ (fun p hp => by omega)).trans hu, hK⟩
  · obtain ⟨a0, ⟨c0, c1, c2, c3, c4, c5⟩, u', c6, a2⟩ := h i _ g' (mKi_at hz) hg'
    have ey : y = if i < n then mE d (offE d k es i) z else z := by
      rw [hy]
      by_cases hin : i < n
      · rw [if_pos hin, if_pos (by omega)]
      · rw [if_neg hin, if_neg (by omega)]
    rw [← ey] at a0 c0 c1 c2 c3 c4 c5 a2
    have hd := disjE hnd hg' hg ei
    exact ⟨a0, ⟨(hcell _ (fun p hp => by omega)).trans c0, (hcell _ (fun p hp => by omega)).trans c1, (hcell _ (fun p hp => by omega)).trans c2, (hcell _ (fun p hp => by omega)).trans c3, (hcell _ (fun p hp => by omega)).trans c4, (hcell _ (fun p hp => by omega)).trans c5⟩, u', (hcell _ (fun p hp => by omega)).trans c6,
      a2.keep hsz fun x hx => hblk x (List.mem_flatten.2 ⟨g', List.mem_of_getElem? hg', hx⟩) (hd x hx)⟩
end Go.Proofs.Ytjblljggmjbalaa
