/- Own text. What Conj answers; lists of expressions in memory of the call's own, put one behind another, and cut. -/
import Derived.Test.YtjblljggmjbalaaExpO
import Derived.Test.YtjblljggmjbalaaNodK
import Derived.Handy
namespace Go.Proofs.Ytjblljggmjbalaa
open Go.RowKit Go.Deep Go.ChangeShapes Go.WideShapes
set_option linter.unusedVariables false
/-- an and of two. -/
def isAnd (e : E7) : Bool := e.k == 2 && (e.p.toList == [97, 110, 100] && e.ks.length == 2)
/-- the parts of e. -/
def conjL : Nat → E7 → List E7
  | 0, e => [e]
  | d + 1, e => if isAnd e = true then e.ks.flatMap (conjL d) else [e]
theorem conj_up : ∀ {d d' : Nat} {e : E7}, DE d e.ks → d ≤ d' → conjL d' e = conjL d e
  | 0, _, e, h, _ => h.elim
  | d + 1, 0, e, _, hd => absurd hd (by omega)
  | d + 1, d' + 1, e, h, hd => by
    rw [conjL, conjL]
    split
    · rw [List.flatMap, List.flatMap]
      congr 1
      apply List.map_congr_left
      intro k hk
      exact conj_up (h k hk) (by omega)
    · rfl
theorem conj_pos : ∀ (d : Nat) (e : E7), conjL d e ≠ []
  | 0, e => by simp [conjL]
  | d + 1, e => by
    rw [conjL]
    split
    · rename_i h
      unfold isAnd at h
      simp only [Bool.and_eq_true, beq_iff_eq] at h
      match hk : e.ks with
      | [] => rw [hk] at h; simp at h
      | k :: ks => simp [conj_pos d k]
    · simp
theorem isAnd_two {e : E7} (h : isAnd e = true) : ∃ a b, e.ks = [a, b] := by
  unfold isAnd at h
  simp only [Bool.and_eq_true, beq_iff_eq] at h
  match hk : e.ks, h.2.2 with
  | [a, b], _ => exact ⟨a, b, rfl⟩
theorem conj_two {d : Nat} {e a b : E7} (h : isAnd e = true) (hk : e.ks = [a, b]) : conjL (d + 1) e = conjL d a ++ conjL d b := by
  rw [conjL, if_pos h, hk]
  simp
theorem conj_one {d : Nat} {e : E7} (h : isAnd e = false) : conjL (d + 1) e = [e] := by
  rw [conjL, if_neg (by rw [h]; simp)]
/-- how much parts weigh. -/
def wt1 (es : List E7) : Nat := es.length + wtEs es
theorem wt1_app (a b : List E7) : wt1 (a ++ b) = wt1 a + wt1 b := by unfold wt1; rw [wtEs_app, List.length_append]; omega
theorem wt1_one (e : E7) : wt1 [e] = 1 + wtE e := by unfold wt1; rw [← wtEs_sum]; simp
theorem and_wt {e a b : E7} (hk : e.ks = [a, b]) : 2 + (wtE a + wtE b) ≤ wtE e := by
  have := wtE_eq e
  rw [hk, ← wtEs_sum] at this
  simp at this
  omega
theorem conj_wt : ∀ (d : Nat) (e : E7), wt1 (conjL d e) ≤ 1 + wtE e
  | 0, e => by rw [conjL, wt1_one]; omega
  | d + 1, e => by
    cases h : isAnd e with
    | false => rw [conj_one h, wt1_one]; omega
    | true =>
      obtain ⟨a, b, hk⟩ := isAnd_two h
      have h1 := conj_wt d a
      have h2 := conj_wt d b
      have h3 := and_wt hk
      rw [conj_two h hk, wt1_app]
      omega
theorem ec_app {us vs : List Value} {es fs : List E7} (h : us.length = es.length) : ec (us ++ vs) (es ++ fs) = ec us es ++ ec vs fs := by
  unfold ec
  rw [List.zip_append h, List.flatMap_append]
theorem ec_len' {us : List Value} {es : List E7} (h : us.length = es.length) : (ec us es).length = es.length * 7 := by
  unfold ec
  induction us generalizing es with
  | nil => cases es with | nil => rfl | cons => simp at h
  | cons u us ih =>
    cases es with
    | nil => simp at h
    | cons e es =>
      have := ih (es := es) (by simpa using h)
      rw [List.zip_cons_cons, List.flatMap_cons, List.length_append, this]
      simp [c7]
      omega
section
variable {w w' : World} {N d : Nat} {v : Value} {es : List E7} {us : List Value} {G : List (List Nat)}
theorem ExpOwn.up {d' : Nat} (h : ExpOwn w N d v es us G) (hd : d ≤ d') : ExpOwn w N d' v es us G :=
  ⟨h.own, h.ul, h.gl, h.wf, fun i x u g hx hu hg => (h.kid i x u g hx hu hg).up hd, h.free, h.out⟩
theorem ExpOwn.weak {M : Nat} (h : ExpOwn w N d v es us G) (hM : M ≤ N) : ExpOwn w M d v es us G := by
  refine ⟨⟨h.own.1, ?_⟩, h.ul, h.gl, h.wf, h.kid, ⟨h.free.1, fun b hb => ⟨Nat.le_trans hM (h.free.2 b hb).1, (h.free.2 b hb).2⟩⟩, h.out⟩
  rcases h.own.2 with hn | ⟨g, cap, cur, hv, hg, rest⟩
  · exact .inl hn
  · exact .inr ⟨g, cap, cur, hv, Nat.le_trans hM hg, rest⟩
theorem ExpOwn.keepB (h : ExpOwn w N d v es us G) (hs : w.heap.size ≤ w'.heap.size) (hv : ∀ b, v.ownBlock = some b → w'.heap[b]? = w.heap[b]?) (hk : ∀ b ∈ G.flatten, w'.heap[b]? = w.heap[b]?) : ExpOwn w' N d v es us G :=
  ⟨ownsE_keep h.own hv, h.ul, h.gl, h.wf, fun i x u g hx hu hg => (h.kid i x u g hx hu hg).keep hs fun b hbg => hk b (List.mem_flatten.2 ⟨g, List.mem_of_getElem? hg, hbg⟩), h.free.keep hk, h.out⟩
theorem ExpOwn.one {e : E7} {u : Value} {g : List Nat} (hN : N ≤ w.heap.size) (he : e.wf) (hk : KidsIs w d u e.ks g) (ho : Own w N g) :
    ExpOwn (w.alloc (.cells #[.int .i64 e.k, .int .i64 e.n, .int .i64 e.v.k, .int .i64 e.v.n, .string e.v.s, .string e.p, u] 32)) N d (.slice (some ⟨w.heap.size, 0, none⟩) 1 1) [e] [u] [g] := by
  have hb : ∀ o, Below w.heap.size w (w.alloc o) := fun o => (Below.refl _ _).alloc (Nat.le_refl _) _
  refine ⟨⟨by simp [ec, c7], .inr ⟨w.heap.size, 1, _, rfl, hN, heap_alloc_new w _, Nat.le_refl _, by unfold maxLen; omega, by simp, by simp [ec, c7]⟩⟩, rfl, rfl, by simpa using he, fun i x u' g' hx hu hg => ?_, ?_, fun b hb' => ?_⟩
  · cases i with
    | zero =>
      simp at hx hu hg
      subst hx hu hg
      exact hk.below (hb _)
    | succ i => simp at hx
  · have := ho.below hk.lt (hb (.cells #[.int .i64 e.k, .int .i64 e.n, .int .i64 e.v.k, .int .i64 e.v.n, .string e.v.s, .string e.p, u] 32))
    simpa using this
  · simp [Value.ownBlock] at hb'
    subst hb'
    simp
    intro h
    exact absurd (hk.lt _ h) (Nat.lt_irrefl _)
theorem ExpOwn.append {N2 : Nat} {v2 v' : Value} {es2 : List E7} {us2 : List Value} {G2 : List (List Nat)} (h : ExpOwn w N d v es us G) (h2 : ExpOwn w N2 d v2 es2 us2 G2) (hN : N ≤ N2) (hlt : ∀ b ∈ G.flatten, b < N2) (hvl : ∀ b, v.ownBlock = some b → b < N2)
    (ho : w'.ownsRow N 32 7 v' (es.length + es2.length) (ec us es ++ ec us2 es2)) (hg : w.grownBy w' v.ownBlock) (hat : ∀ b, v'.ownBlock = some b → v.ownBlock = some b ∨ w.heap.size ≤ b) :
    ExpOwn w' N d v' (es ++ es2) (us ++ us2) (G ++ G2) := by
  have hG := h.lt
  have hG2 := h2.lt
  have hm : ∀ b ∈ (G ++ G2).flatten, b ∈ G.flatten ∨ b ∈ G2.flatten := by intro b hb; rw [List.flatten_append] at hb; exact List.mem_append.1 hb
  have hlt' : ∀ b ∈ (G ++ G2).flatten, b < w.heap.size := fun b hb => (hm b hb).elim (hG b) (hG2 b)
  have hne : ∀ b ∈ (G ++ G2).flatten, some b ≠ v.ownBlock := fun b hb e => (hm b hb).elim (h.out b e.symm) (fun hb2 => by have := hvl b e.symm; have := (h2.free.2 b hb2).1; omega)
  have hk : ∀ b ∈ (G ++ G2).flatten, w'.heap[b]? = w.heap[b]? := fun b hb => hg.block b (hlt' b hb) (hne b hb)
  refine ⟨?_, by simp [h.ul, h2.ul], by simp [h.gl, h2.gl], fun y hy => ?_, fun i y z q hy hz hq => ?_, ?_, fun b hb => ?_⟩
  · rw [ec_app h.ul, List.length_append]; exact ho
  · rcases List.mem_append.1 hy with hy | hy
    · exact h.wf y hy
    · exact h2.wf y hy
  · by_cases hi : i < es.length
    · rw [List.getElem?_append_left hi] at hy
      rw [List.getElem?_append_left (by rw [h.ul]; exact hi)] at hz
      rw [List.getElem?_append_left (by rw [h.gl]; exact hi)] at hq
      exact (h.kid i y z q hy hz hq).keep hg.size fun b hb => hk b (by rw [List.flatten_append]; exact List.mem_append.2 (.inl (List.mem_flatten.2 ⟨q, List.mem_of_getElem? hq, hb⟩)))
    · rw [List.getElem?_append_right (by omega)] at hy
      rw [List.getElem?_append_right (by rw [h.ul]; omega), h.ul] at hz
      rw [List.getElem?_append_right (by rw [h.gl]; omega), h.gl] at hq
      exact (h2.kid _ y z q hy hz hq).keep hg.size fun b hb => hk b (by rw [List.flatten_append]; exact List.mem_append.2 (.inr (List.mem_flatten.2 ⟨q, List.mem_of_getElem? hq, hb⟩)))
  · refine Own.keep (w := w) ⟨?_, fun b hb => (hm b hb).elim (h.free.2 b) (fun hb2 => ⟨Nat.le_trans hN (h2.free.2 b hb2).1, (h2.free.2 b hb2).2⟩)⟩ hk
    rw [List.flatten_append, List.nodup_append]
    refine ⟨h.free.1, h2.free.1, fun a ha b hb => ?_⟩
    rintro rfl
    have := hlt a ha
    have := (h2.free.2 a hb).1
    omega
  · intro hx
    rcases hat b hb with e | e
    · exact hne b hx e.symm
    · have := hlt' b hx; omega
/-- the cells of a list of the call's own, to be read. -/
theorem ExpOwn.cells (h : ExpOwn w N d v es us G) (hne : es ≠ []) : ∃ g cap, v = .slice (some ⟨g, 0, none⟩) es.length cap ∧ N ≤ g ∧ g < w.heap.size ∧ es.length ≤ cap ∧ cap ≤ maxLen ∧ ∀ j u, (ec us es)[j]? = some u → w.cell? ⟨g, j, none⟩ = some u := by
  have hlt := ownsE_lt h.own
  have hp : 0 < es.length := List.length_pos_iff.2 hne
  obtain ⟨hl, ho⟩ := h.own
  rcases ho with ⟨_, h0⟩ | ⟨g, cap, cur, rfl, hg, hc, hn, hm, hs, ht⟩
  · omega
  refine ⟨g, cap, rfl, hg, (hlt g rfl).2, hn, hm, fun j u hu => ?_⟩
  have hj : j < es.length * 7 := by have := (List.getElem?_eq_some_iff.1 hu).1; omega
  simp only [World.cell?, hc]
  rw [← ht, List.getElem?_take, if_pos hj, Array.getElem?_toList] at hu
  simpa using hu
theorem ExpOwn.ones (h : ExpOwn w N d v es us G) (hu : ∀ u ∈ us, u.oneCell' = true) : ∀ u ∈ ec us es, u.oneCell' = true := by
  intro u hm
  unfold ec at hm
  obtain ⟨p, hp, hu'⟩ := List.mem_flatMap.1 hm
  have h1 := (List.of_mem_zip hp).1
  simp [c7] at hu'
  rcases hu' with rfl | rfl | rfl | rfl | rfl | rfl | rfl
  all_goals first | rfl | exact hu _ h1
theorem ExpOwn.slices (h : ExpOwn w N d v es us G) : ∀ u ∈ us, u.oneCell' = true := by
  intro u hu
  obtain ⟨i, hi, rfl⟩ := List.mem_iff_getElem.1 hu
  have h1 := h.ul
  have h2 := h.gl
  have hi1 : i < es.length := by omega
  have hi2 : i < G.length := by omega
  obtain ⟨a, c, e, _, _⟩ := (h.kid i es[i] us[i] G[i] (by simp) (by simp) (by simp)).shape
  rw [e]; rfl
end
end Go.Proofs.Ytjblljggmjbalaa
