/- Own text. For the program's Conj: a list of expressions of the call's own, with the blocks of their kids; an and that is opened. -/
import Derived.Test.YtjblljggmjbalaaCjS
import Derived.Test.YtjblljggmjbalaaCpN
import Derived.Handy
namespace Go.Proofs.Ytjblljggmjbalaa
open Go.RowKit Go.Deep Go.ChangeShapes Go.WideShapes
set_option linter.unusedVariables false
/-- a list of the call's own of expressions, their kids in the blocks L. -/
def LfC (w : World) (N D : Nat) (v : Value) (es : List E7) (us : List Value) (L : List (List Nat)) : Prop :=
  w.ownsRow N 32 7 v es.length (ec us es) ∧ us.length = es.length ∧ L.length = es.length ∧ ∀ (i : Nat) (e : E7) (u : Value) (g : List Nat), es[i]? = some e → us[i]? = some u → L[i]? = some g → e.wf ∧ KidsIs w D u e.ks g
theorem LfC.keep {w w' : World} {N D : Nat} {v : Value} {es : List E7} {us : List Value} {L : List (List Nat)} (h : LfC w N D v es us L) (hs : w.heap.size ≤ w'.heap.size) (hv : ∀ b, v.ownBlock = some b → w'.heap[b]? = w.heap[b]?) (hb : ∀ b ∈ L.flatten, w'.heap[b]? = w.heap[b]?) : LfC w' N D v es us L :=
  ⟨ownsE_keep h.1 hv, h.2.1, h.2.2.1, fun i e u g he hu hg => ⟨(h.2.2.2 i e u g he hu hg).1, (h.2.2.2 i e u g he hu hg).2.keep hs fun b hbg => hb b (List.mem_flatten.2 ⟨g, List.mem_of_getElem? hg, hbg⟩)⟩⟩
theorem LfC.lt {w : World} {N D : Nat} {v : Value} {es : List E7} {us : List Value} {L : List (List Nat)} (h : LfC w N D v es us L) : ∀ b ∈ L.flatten, b < w.heap.size := by
  intro b hb
  obtain ⟨g, hg, hbg⟩ := List.mem_flatten.1 hb
  obtain ⟨i, hi, rfl⟩ := List.mem_iff_getElem.1 hg
  have h1 := h.2.1
  have h2 := h.2.2.1
  have hi1 : i < es.length := by omega
  have hi2 : i < us.length := by omega
  exact (h.2.2.2 i es[i] us[i] L[i] (by simp) (by simp) (by simp)).2.lt b hbg
theorem LfC.last {w : World} {N D : Nat} {v : Value} {init : List E7} {x : E7} {us : List Value} {L : List (List Nat)} (h : LfC w N D v (init ++ [x]) us L) :
    ∃ us' ux L' gx g cap, us = us' ++ [ux] ∧ L = L' ++ [gx] ∧ v = .slice (some ⟨g, 0, none⟩) (init.length + 1) cap ∧ init.length + 1 ≤ cap ∧ cap ≤ maxLen ∧ N ≤ g ∧ g < w.heap.size ∧ x.wf ∧ KidsIs w D ux x.ks gx ∧ (∀ j u, j < 7 → (c7 ux x)[j]? = some u → w.cell? ⟨g, init.length * 7 + j, none⟩ = some u) ∧ LfC w N D (.slice (some ⟨g, 0, none⟩) init.length cap) init us' L' := by
  have hlt := ownsE_lt h.1
  obtain ⟨ho, hul, hLl, hk⟩ := h
  rcases List.eq_nil_or_concat us with rfl | ⟨us', ux, hus⟩
  · simp at hul
  rcases List.eq_nil_or_concat L with rfl | ⟨L', gx, hL⟩
  · simp at hLl
  rw [List.concat_eq_append] at hus hL
  subst hus hL
  have hul' : us'.length = init.length := by simpa using hul
  have hLl' : L'.length = init.length := by simpa using hLl
  obtain ⟨hl, ho⟩ := ho
  simp only [List.length_append, List.length_singleton] at hl ho
  rcases ho with ⟨_, h0⟩ | ⟨g, cap, cur, rfl, hg, hc, hn, hm, hs, ht⟩
  · omega
  have hat := ec_at (us := us' ++ [ux]) (es := init ++ [x]) (by simp [hul']) (i := init.length) (u := ux) (e := x) (by rw [List.getElem?_append_right (by omega), hul']; simp) (by simp)
  have hkx := hk init.length x ux gx (by simp) (by rw [List.getElem?_append_right (by omega), hul']; simp) (by rw [List.getElem?_append_right (by omega), hLl']; simp)
  refine ⟨us', ux, L', gx, g, cap, rfl, rfl, rfl, hn, hm, hg, (hlt g rfl).2, hkx.1, hkx.2, fun j u hj hu => ?_, ⟨ec_len' hul', .inr ⟨g, cap, cur, rfl, hg, hc, by omega, hm, hs, ?_⟩⟩, hul', hLl', fun i e u q he hu hq => hk i e u q (by rw [List.getElem?_append_left (List.getElem?_eq_some_iff.1 he).1]; exact he) (by rw [List.getElem?_append_left (List.getElem?_eq_some_iff.1 hu).1]; exact hu) (by rw [List.getElem?_append_left (List.getElem?_eq_some_iff.1 hq).1]; exact hq)⟩
  · have hu := (hat j hj).trans hu
    simp only [World.cell?, hc]
    rw [← ht, List.getElem?_take, if_pos (by omega), Array.getElem?_toList] at hu
    simpa using hu
  · have h1 : (cur.toList.take ((init.length + 1) * 7)).take (init.length * 7) = (ec (us' ++ [ux]) (init ++ [x])).take (init.length * 7) := by rw [ht]
    rw [List.take_take, ec_app hul', Nat.min_eq_left (by omega), List.take_append_of_le_length (by rw [ec_len' hul']; exact Nat.le_refl _)] at h1
    exact h1.trans (List.take_of_length_le (by rw [ec_len' hul']; exact Nat.le_refl _))
/-- two more behind it. -/
theorem LfC.twoC {w : World} {N D : Nat} {v' : Value} {es : List E7} {us : List Value} {L : List (List Nat)} {z p : E7} {uz up : Value} {gz gp : List Nat} (hul : us.length = es.length) (hLl : L.length = es.length) (hk : ∀ (i : Nat) (e : E7) (u : Value) (g : List Nat), es[i]? = some e → us[i]? = some u → L[i]? = some g → e.wf ∧ KidsIs w D u e.ks g) (hz : z.wf ∧ KidsIs w D uz z.ks gz) (hp : p.wf ∧ KidsIs w D up p.ks gp)
    (ho : w.ownsRow N 32 7 v' (es.length + 2) (ec us es ++ (c7 uz z ++ c7 up p))) : LfC w N D v' (es ++ [z, p]) (us ++ [uz, up]) (L ++ [gz, gp]) := by
  refine ⟨?_, by simp [hul], by simp [hLl], fun i e u g he hu hg => ?_⟩
  · have e1 : ec (us ++ [uz, up]) (es ++ [z, p]) = ec us es ++ (c7 uz z ++ c7 up p) := by
      rw [show us ++ [uz, up] = (us ++ [uz]) ++ [up] by simp, show es ++ [z, p] = (es ++ [z]) ++ [p] by simp, ec_push (by simp [hul]), ec_push hul]
      simp
    rw [e1]
    simpa using ho
  · by_cases hi : i < es.length
    · rw [List.getElem?_append_left hi] at he
      rw [List.getElem?_append_left (by omega)] at hu hg
      exact hk i e u g he hu hg
    · have hl : i < (es ++ [z, p]).length := (List.getElem?_eq_some_iff.1 he).1
      simp at hl
      rw [List.getElem?_append_right (by omega)] at he hu hg
      rw [hul] at hu
      rw [hLl] at hg
      have : i - es.length = 0 ∨ i - es.length = 1 := by omega
      rcases this with h0 | h0
      · rw [h0] at he hu hg
        simp at he hu hg
        subst he hu hg
        exact hz
      · rw [h0] at he hu hg
        simp at he hu hg
        subst he hu hg
        exact hp
/-- an and that is opened: its block, its two kids with their own. -/
theorem KidsIs.two {w : World} {D : Nat} {u : Value} {p z : E7} {F : List Nat} (h : KidsIs w (D + 1) u [p, z] F) :
    ∃ b o c gp gz up uz, u = .slice (some ⟨b, o, none⟩) 2 c ∧ 2 ≤ c ∧ c ≤ maxLen ∧ b < w.heap.size ∧ F = b :: (gp ++ gz) ∧ p.wf ∧ z.wf ∧ KidsIs w D up p.ks gp ∧ KidsIs w D uz z.ks gz ∧ cellsE w b o p ∧ cellsE w b (o + 7) z ∧ w.cell? ⟨b, o + 6, none⟩ = some up ∧ w.cell? ⟨b, o + 7 + 6, none⟩ = some uz := by
  obtain ⟨a, c, G, rfl, hl, hc, hG, h0, h⟩ := h
  obtain ⟨b, o, rfl, hlt, rfl, hL⟩ := h (by simp)
  match G, hG with
  | [gp, gz], _ =>
    obtain ⟨w0, c0, up, e0, k0⟩ := hL 0 p gp rfl rfl
    obtain ⟨w1, c1, uz, e1, k1⟩ := hL 1 z gz rfl rfl
    refine ⟨b, o, c, gp, gz, up, uz, rfl, hl, hc, hlt, by simp, w0, w1, k0, k1, ?_, ?_, ?_, ?_⟩
    · simpa using c0
    · simpa using c1
    · simpa using e0
    · simpa using e1
end Go.Proofs.Ytjblljggmjbalaa
