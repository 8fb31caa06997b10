/- Own text. A bag of the call's own, one of whose counts is written. -/
import Derived.Test.YtiaafgmjigbjlaaGreatDoorBagO
namespace Go.Proofs.YtiaafgmjigbjlaaGreatDoor
open Go.RowKit Go.Deep Go.ChangeShapes Go.WideShapes
set_option linter.unusedVariables false
theorem cc_set {us : List Value} {cs : List C2} (h : us.length = cs.length) {k : Nat} {x : C2} (hk : cs[k]? = some x) (m : Int) : cc us (cs.set k ⟨x.r, m⟩) = (cc us cs).set (k * 2 + 1) (.int .i64 m) := by
  induction us generalizing cs k with
  | nil => cases cs with | nil => simp at hk | cons => simp at h
  | cons v us ih =>
    cases cs with
    | nil => simp at h
    | cons c cs =>
      have e : ∀ (c : C2) (cs : List C2), cc (v :: us) (c :: cs) = v :: .int .i64 c.n :: cc us cs := by intro c cs; unfold cc; rw [List.zip_cons_cons, List.flatMap_cons]; rfl
      cases k with
      | zero => rw [List.set_cons_zero, e, e]; rfl
      | succ k =>
        rw [List.set_cons_succ, e, e, ih (cs := cs) (by simpa using h) (by simpa using hk)]
        rw [show (k + 1) * 2 + 1 = (k * 2 + 1) + 1 + 1 from by omega]
        rfl
theorem BagOwn.setN {w : World} {N g l cap : Nat} {cs : List C2} {us : List Value} {G : List (List Nat)} (h : BagOwn w N (.slice (some ⟨g, 0, none⟩) l cap) cs us G) {k : Nat} {x : C2} (hk : cs[k]? = some x) (m : Int) :
    BagOwn (w.setCell ⟨g, k * 2 + 1, none⟩ (.int .i64 m)) N (.slice (some ⟨g, 0, none⟩) l cap) (cs.set k ⟨x.r, m⟩) us G := by
  have hkl : k < cs.length := (List.getElem?_eq_some_iff.1 hk).1
  have hout : g ∉ G.flatten := h.out g rfl
  have hb : ∀ b ∈ G.flatten, (w.setCell ⟨g, k * 2 + 1, none⟩ (.int .i64 m)).heap[b]? = w.heap[b]? := fun b hb => Below.heap_setCell _ _ _ _ (by rintro rfl; exact hout hb)
  refine ⟨?_, by rw [List.length_set]; exact h.ul, by rw [List.length_set]; exact h.gl, fun i y u q hy hu hq => ?_, h.free.keep hb, h.out⟩
  · obtain ⟨hl, ho⟩ := h.own
    rw [List.length_set, cc_set h.ul hk]
    refine ⟨by rw [List.length_set]; exact hl, .inr ?_⟩
    rcases ho with ⟨h0, _⟩ | ⟨g', cap', cur, hv, hg, hc, hn, hm, hs, ht⟩
    · cases h0
    cases hv
    refine ⟨g, cap, cur.setIfInBounds (k * 2 + 1) (.int .i64 m), rfl, hg, ?_, hn, hm, by simpa using hs, ?_⟩
    · simp [World.setCell, Array.getElem?_modify, hc]
    · rw [← ht, Array.toList_setIfInBounds, List.take_set]
  · by_cases e : i = k
    · subst e
      rw [List.getElem?_set_self (by omega)] at hy
      have hy := Option.some.inj hy
      subst hy
      exact (h.row i x u q hk hu hq).keep (by simp) fun b hbq => hb b (List.mem_flatten.2 ⟨q, List.mem_of_getElem? hq, hbq⟩)
    · rw [List.getElem?_set_ne (Ne.symm e)] at hy
      exact (h.row i y u q hy hu hq).keep (by simp) fun b hbq => hb b (List.mem_flatten.2 ⟨q, List.mem_of_getElem? hq, hbq⟩)
end Go.Proofs.YtiaafgmjigbjlaaGreatDoor
