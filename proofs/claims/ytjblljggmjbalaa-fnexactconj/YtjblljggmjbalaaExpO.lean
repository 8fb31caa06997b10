/- Own text. Expressions in a list that grows by append: their cells in a block of the call's own, their kids in blocks of its own. -/
import Derived.Test.YtjblljggmjbalaaToE
import Derived.Laws.AppendOwnNone
import Derived.Maps.AppendAt
namespace Go.Proofs.Ytjblljggmjbalaa
open Go.RowKit Go.Deep Go.ChangeShapes Go.WideShapes
set_option linter.unusedVariables false
/-- the seven cells of an expression whose kids are the slice u. -/
def c7 (u : Value) (e : E7) : List Value := [.int .i64 e.k, .int .i64 e.n, .int .i64 e.v.k, .int .i64 e.v.n, .string e.v.s, .string e.p, u]
/-- the cells of expressions; us: their kids' slices. -/
def ec (us : List Value) (es : List E7) : List Value := (us.zip es).flatMap fun p => c7 p.1 p.2
theorem ec_push {us : List Value} {es : List E7} (h : us.length = es.length) (u : Value) (e : E7) : ec (us ++ [u]) (es ++ [e]) = ec us es ++ c7 u e := by
  unfold ec
  rw [List.zip_append h, List.flatMap_append]
  simp
theorem ec_at {us : List Value} {es : List E7} (h : us.length = es.length) : ∀ {i : Nat} {u : Value} {e : E7}, us[i]? = some u → es[i]? = some e → ∀ j, j < 7 → (ec us es)[i * 7 + j]? = (c7 u e)[j]? := by
  induction us generalizing es with
  | nil => intro i u x hu; simp at hu
  | cons v us ih =>
    cases es with
    | nil => simp at h
    | cons c es =>
      intro i u x hu hx j hj
      have e : ec (v :: us) (c :: es) = c7 v c ++ ec us es := by unfold ec; rw [List.zip_cons_cons, List.flatMap_cons]
      rw [e]
      have hl : (c7 v c).length = 7 := rfl
      cases i with
      | zero => simp at hu hx; subst hu hx; rw [List.getElem?_append_left (by omega)]; simp
      | succ i =>
        have := ih (es := es) (by simpa using h) (i := i) (u := u) (e := x) (by simpa using hu) (by simpa using hx) j hj
        rw [List.getElem?_append_right (by omega), show (i + 1) * 7 + j - (c7 v c).length = i * 7 + j from by omega]
        exact this
/-- the slice value v has the expressions es, in memory of the call's own from N on. -/
structure ExpOwn (w : World) (N d : Nat) (v : Value) (es : List E7) (us : List Value) (G : List (List Nat)) : Prop where
  own : w.ownsRow N 32 7 v es.length (ec us es)
  ul : us.length = es.length
  gl : G.length = es.length
  wf : ∀ e ∈ es, e.wf
  kid : ∀ (i : Nat) (e : E7) (u : Value) (g : List Nat), es[i]? = some e → us[i]? = some u → G[i]? = some g → KidsIs w d u e.ks g
  free : Own w N G.flatten
  out : ∀ b, v.ownBlock = some b → b ∉ G.flatten
theorem ExpOwn.nil (w : World) (N d : Nat) : ExpOwn w N d (.slice none 0 0) [] [] [] :=
  ⟨⟨rfl, .inl ⟨rfl, rfl⟩⟩, rfl, rfl, by simp, fun i x u g hx => by simp at hx, by simp [Own, OwnN], fun b _ => by simp⟩
theorem ownsE_lt {w : World} {N e n s : Nat} {v : Value} {xs : List Value} (h : w.ownsRow N e s v n xs) : ∀ b, v.ownBlock = some b → N ≤ b ∧ b < w.heap.size := by
  intro b hb
  rcases h.2 with ⟨rfl, _⟩ | ⟨g, cap, cur, rfl, hg, hc, _⟩
  · simp [Value.ownBlock] at hb
  · simp [Value.ownBlock] at hb
    subst hb
    refine ⟨hg, ?_⟩
    rcases Nat.lt_or_ge g w.heap.size with h' | h'
    · exact h'
    · simp [Array.getElem?_eq_none h'] at hc
theorem ownsE_keep {w w' : World} {N e n s : Nat} {v : Value} {xs : List Value} (h : w.ownsRow N e s v n xs) (hb : ∀ b, v.ownBlock = some b → w'.heap[b]? = w.heap[b]?) : w'.ownsRow N e s v n xs := by
  refine ⟨h.1, ?_⟩
  rcases h.2 with hn | ⟨g, cap, cur, rfl, hg, hc, rest⟩
  · exact .inl hn
  · exact .inr ⟨g, cap, cur, rfl, hg, (hb g rfl).trans hc, rest⟩
theorem ExpOwn.empty (w : World) (d : Nat) : ExpOwn (w.alloc (.cells #[] 32)) w.heap.size d (.slice (some ⟨w.heap.size, 0, none⟩) 0 0) [] [] [] :=
  ⟨⟨by simp [ec], .inr ⟨w.heap.size, 0, #[], rfl, Nat.le_refl _, heap_alloc_new w _, Nat.le_refl _, by simp, by simp, by simp [ec]⟩⟩, rfl, rfl, by simp, fun i x u g hx => by simp at hx, by simp [Own, OwnN], fun b _ => by simp⟩
theorem ExpOwn.empty' {w : World} {N : Nat} (hN : N = w.heap.size) (d : Nat) : ExpOwn (w.alloc (.cells #[] 32)) N d (.slice (some ⟨N, 0, none⟩) 0 0) [] [] [] := by subst hN; exact ExpOwn.empty w d
section
variable {w w' : World} {N d : Nat} {v : Value} {es : List E7} {us : List Value} {G : List (List Nat)}
theorem ExpOwn.lt (h : ExpOwn w N d v es us G) : ∀ b ∈ G.flatten, b < w.heap.size := by
  intro b hb
  obtain ⟨g, hg, hbg⟩ := List.mem_flatten.1 hb
  obtain ⟨i, hi, rfl⟩ := List.mem_iff_getElem.1 hg
  have h1 := h.gl
  have h2 := h.ul
  have hi1 : i < es.length := by omega
  have hi2 : i < us.length := by omega
  exact (h.kid i es[i] us[i] G[i] (by simp) (by simp) (by simp)).lt b hbg
theorem ExpOwn.keep (h : ExpOwn w N d v es us G) (hs : w.heap.size ≤ w'.heap.size) (hb : ∀ b, N ≤ b → b < w.heap.size → w'.heap[b]? = w.heap[b]?) : ExpOwn w' N d v es us G := by
  have hk : ∀ b ∈ G.flatten, w'.heap[b]? = w.heap[b]? := fun b hbG => hb b (h.free.2 b hbG).1 (h.lt b hbG)
  refine ⟨ownsE_keep h.own fun b hv => hb b (ownsE_lt h.own b hv).1 (ownsE_lt h.own b hv).2, h.ul, h.gl, h.wf, fun i x u g hx hu hg => (h.kid i x u g hx hu hg).keep hs fun b hbg => hk b (List.mem_flatten.2 ⟨g, List.mem_of_getElem? hg, hbg⟩), h.free.keep hk, h.out⟩
theorem ExpOwn.below (h : ExpOwn w N d v es us G) (hb : Below w.heap.size w w') : ExpOwn w' N d v es us G := h.keep hb.size fun b _ hlt => hb.block b hlt
theorem ExpOwn.push {v' u : Value} {e : E7} {g : List Nat} (h : ExpOwn w N d v es us G) (hw : e.wf) (hK : KidsIs w d u e.ks g) (hO : Own w N g) (hd1 : ∀ b ∈ G.flatten, b ∉ g) (hd2 : ∀ b, v.ownBlock = some b → b ∉ g)
    (ho : w'.ownsRow N 32 7 v' (es.length + 1) (ec us es ++ c7 u e)) (hg : w.grownBy w' v.ownBlock) (hat : ∀ b, v'.ownBlock = some b → v.ownBlock = some b ∨ w.heap.size ≤ b) :
    ExpOwn w' N d v' (es ++ [e]) (us ++ [u]) (G ++ [g]) := by
  have hG := h.lt
  have hm : ∀ b ∈ (G ++ [g]).flatten, b ∈ G.flatten ∨ b ∈ g := by intro b hb; simpa using hb
  have hlt : ∀ b ∈ (G ++ [g]).flatten, b < w.heap.size := fun b hb => (hm b hb).elim (hG b) (hK.lt b)
  have hne : ∀ b ∈ (G ++ [g]).flatten, some b ≠ v.ownBlock := fun b hb e => (hm b hb).elim (h.out b e.symm) (hd2 b e.symm)
  have hk : ∀ b ∈ (G ++ [g]).flatten, w'.heap[b]? = w.heap[b]? := fun b hb => hg.block b (hlt b hb) (hne b hb)
  refine ⟨?_, by simp [h.ul], by simp [h.gl], fun y hy => ?_, fun i y z q hy hz hq => ?_, ?_, fun b hb => ?_⟩
  · rw [ec_push h.ul]; simpa using ho
  · rcases List.mem_append.1 hy with hy | hy
    · exact h.wf y hy
    · rcases List.mem_singleton.1 hy with rfl; exact hw
  · by_cases hi : i < es.length
    · rw [List.getElem?_append_left hi] at hy
      rw [List.getElem?_append_left (by rw [h.ul]; exact hi)] at hz
      rw [List.getElem?_append_left (by rw [h.gl]; exact hi)] at hq
      exact (h.kid i y z q hy hz hq).keep hg.size fun b hb => hk b (by simp; exact .inl ⟨q, List.mem_of_getElem? hq, hb⟩)
    · have hl : i < (es ++ [e]).length := (List.getElem?_eq_some_iff.1 hy).1
      obtain rfl : i = es.length := by simp at hl; omega
      rw [List.getElem?_append_right (Nat.le_refl _)] at hy
      rw [List.getElem?_append_right (by rw [h.ul]; exact Nat.le_refl _)] at hz
      rw [List.getElem?_append_right (by rw [h.gl]; exact Nat.le_refl _)] at hq
      simp [h.ul, h.gl] at hy hz hq
      subst hy hz hq
      exact hK.keep hg.size fun b hb => hk b (by simp; exact .inr hb)
  · refine Own.keep (w := w) ⟨?_, fun b hb => (hm b hb).elim (h.free.2 b) (hO.2 b)⟩ hk
    rw [List.flatten_append, List.nodup_append]
    refine ⟨h.free.1, by simpa using hO.1, fun a ha b hb => ?_⟩
    rintro rfl
    exact hd1 a ha (by simpa using hb)
  · intro hx
    rcases hat b hb with e | e
    · exact hne b hx e.symm
    · have := hlt b hx; omega
theorem ExpOwn.shape (h : ExpOwn w N d v es us G) : ∃ a c, v = .slice a es.length c := by
  rcases h.own.2 with ⟨rfl, h0⟩ | ⟨g, cap, cur, hv, _⟩
  · exact ⟨none, 0, by rw [h0]⟩
  · exact ⟨_, cap, hv⟩
theorem ExpOwn.kids (h : ExpOwn w N d v es us G) : ∃ F, KidsIs w (d + 1) v es F ∧ Own w N F := by
  have hlt := ownsE_lt h.own
  by_cases hne : es = []
  · refine ⟨[], ?_, by simp [Own, OwnN]⟩
    have hgl := h.gl
    subst hne
    rcases h.own.2 with ⟨rfl, _⟩ | ⟨g, cap, cur, rfl, _, _, hn, hm, _⟩
    · exact ⟨none, 0, G, rfl, Nat.le_refl _, by simp, hgl, fun _ => rfl, fun x => absurd rfl x⟩
    · exact ⟨_, cap, G, rfl, hn, hm, hgl, fun _ => rfl, fun x => absurd rfl x⟩
  have hp : 0 < es.length := List.length_pos_iff.2 hne
  obtain ⟨hl, ho⟩ := h.own
  rcases ho with ⟨_, h0⟩ | ⟨g, cap, cur, rfl, hg, hc, hn, hm, hs, ht⟩
  · omega
  have hgo : g ∉ G.flatten := h.out g rfl
  refine ⟨g :: G.flatten, ⟨_, cap, G, rfl, hn, hm, h.gl, fun x => absurd x hne, fun _ => ⟨g, 0, rfl, (hlt g rfl).2, rfl, fun i x q hx hq => ?_⟩⟩, List.nodup_cons.2 ⟨hgo, h.free.1⟩, fun b hb => ?_⟩
  · have hi : i < es.length := (List.getElem?_eq_some_iff.1 hx).1
    have hiu : i < us.length := by rw [h.ul]; exact hi
    have hat := ec_at h.ul (i := i) (u := us[i]) (e := x) (by simp) hx
    have get : ∀ j u, j < 7 → (c7 us[i] x)[j]? = some u → w.cell? ⟨g, i * 7 + j, none⟩ = some u := by
      intro j u hj hu
      have hu := (hat j hj).trans hu
      simp only [World.cell?, hc]
      rw [← ht, List.getElem?_take, if_pos (by omega), Array.getElem?_toList] at hu
      simpa using hu
    rw [Nat.zero_add]
    exact ⟨h.wf x (List.mem_of_getElem? hx), ⟨get 0 _ (by omega) rfl, get 1 _ (by omega) rfl, get 2 _ (by omega) rfl, get 3 _ (by omega) rfl, get 4 _ (by omega) rfl, get 5 _ (by omega) rfl⟩, us[i], get 6 _ (by omega) rfl, h.kid i x us[i] q hx (by simp) hq⟩
  · rcases List.mem_cons.1 hb with rfl | hb
    · exact ⟨hg, fun o => by simp [World.frozen?, hc]⟩
    · exact h.free.2 b hb
end
end Go.Proofs.Ytjblljggmjbalaa
