/- Own text. A bag so many times: what the answer is, in plain words. -/
import Derived.Test.YtnbcmkbkiebbdaaMulI
import Derived.Test.YtnbcmkbkiebbdaaBagOkI
import Derived.Test.YtnbcmkbkiebbdaaBagO
namespace Go.Proofs.Ytnbcmkbkiebbdaa
open Go.RowKit Go.Deep
set_option linter.unusedVariables false
/-- each row n times as often. -/
def timesL (n : Int) (cs : List C2) : List C2 := cs.map fun x => ⟨x.r, n * x.n⟩
/-- the rows of a bag so many times; none where that is no bag. -/
def timesC (W n : Int) (cs : List C2) : List C2 := if okBag W (timesL n cs) = true then timesL n cs else []
/-- the first k rows n times as often. -/
def timesK (n : Int) (k : Nat) (cs : List C2) : List C2 := timesL n (cs.take k) ++ cs.drop k
theorem timesK_zero (n : Int) (cs : List C2) : timesK n 0 cs = cs := by simp [timesK, timesL]
theorem timesK_len (n : Int) (k : Nat) (cs : List C2) : (timesK n k cs).length = cs.length := by simp [timesK, timesL]; omega
theorem timesK_all (n : Int) (cs : List C2) : timesK n cs.length cs = timesL n cs := by simp [timesK]
theorem timesK_at {n : Int} {k : Nat} {cs : List C2} {x : C2} (h : cs[k]? = some x) : (timesK n k cs)[k]? = some x := by
  have hk : k < cs.length := (List.getElem?_eq_some_iff.1 h).1
  unfold timesK timesL
  rw [List.getElem?_append_right (by simp; omega)]
  simp
  rw [show min k cs.length = k from by omega, Nat.sub_self, Nat.add_zero]
  exact h
theorem timesK_step {n : Int} {k : Nat} {cs : List C2} {x : C2} (h : cs[k]? = some x) : timesK n (k + 1) cs = (timesK n k cs).set k ⟨x.r, n * x.n⟩ := by
  obtain ⟨hk, rfl⟩ := List.getElem?_eq_some_iff.1 h
  unfold timesK timesL
  rw [List.take_succ_eq_append_getElem hk, List.map_append, List.set_append_right _ _ (by simp; omega), List.append_assoc]
  congr 1
  simp
  rw [show k - min k cs.length = 0 from by omega, List.drop_eq_getElem_cons hk, List.set_cons_zero]
theorem okN_mul {n m : Int} (h : okN (n * m) = true) : n ≠ 0 ∧ -1000000000 ≤ n ∧ n ≤ 1000000000 ∧ okN m = true := by
  simp only [okN, Bool.and_eq_true, decide_eq_true_eq] at h ⊢
  obtain ⟨⟨h0, h1⟩, h2⟩ := h
  have hn : n ≠ 0 := by rintro rfl; simp at h0
  have hm : m ≠ 0 := by rintro rfl; simp at h0
  have e : (n * m).natAbs = n.natAbs * m.natAbs := Int.natAbs_mul n m
  have a1 : n.natAbs ≤ n.natAbs * m.natAbs := Nat.le_mul_of_pos_right _ (by omega)
  have a2 : m.natAbs ≤ n.natAbs * m.natAbs := Nat.le_mul_of_pos_left _ (by omega)
  generalize n * m = p at *
  omega
theorem okCs_times {W n : Int} : ∀ {cs : List C2} {p p' : Option C2}, (∀ x, okPrev p' x = okPrev p ⟨x.r, n * x.n⟩) → okCs W p (timesL n cs) = true → okCs W p' cs = true ∧ ∀ x ∈ cs, n ≠ 0 ∧ -1000000000 ≤ n ∧ n ≤ 1000000000
  | [], _, _, _, _ => ⟨rfl, fun x hx => by cases hx⟩
  | y :: ys, p, p', hp, h => by
    have h' : (okRow y.r W && okN (n * y.n) && okPrev p ⟨y.r, n * y.n⟩ && okCs W (some ⟨y.r, n * y.n⟩) (timesL n ys)) = true := h
    simp only [Bool.and_eq_true] at h'
    obtain ⟨⟨⟨h1, h2⟩, h3⟩, h4⟩ := h'
    obtain ⟨m0, m1, m2, m3⟩ := okN_mul h2
    obtain ⟨r1, r2⟩ := okCs_times (p := some ⟨y.r, n * y.n⟩) (p' := some y) (fun x => rfl) h4
    refine ⟨?_, fun x hx => ?_⟩
    · show (okRow y.r W && okN y.n && okPrev p' y && okCs W (some y) ys) = true
      rw [h1, m3, hp, h3, r1]; rfl
    · rcases List.mem_cons.1 hx with rfl | hx
      · exact ⟨m0, m1, m2⟩
      · exact r2 x hx
theorem timesL_len (n : Int) (cs : List C2) : (timesL n cs).length = cs.length := by simp [timesL]
/-- where the bag so many times is one, the bag is one, and so is the number. -/
theorem okBag_times {W n : Int} {cs : List C2} (h : okBag W (timesL n cs) = true) : okBag W cs = true ∧ ∀ x ∈ cs, n ≠ 0 ∧ -1000000000 ≤ n ∧ n ≤ 1000000000 := by
  simp only [okBag, Bool.and_eq_true, timesL_len] at h ⊢
  obtain ⟨h1, h2⟩ := h
  obtain ⟨a, b⟩ := okCs_times (p := none) (p' := none) (fun x => rfl) h2
  exact ⟨⟨h1, a⟩, b⟩
/-- no bag where a product is no number of 64 bits. -/
theorem timesC_out {W n : Int} {cs : List C2} {x : C2} (hx : x ∈ cs) (h : ¬ In64 (x.n * n)) : timesC W n cs = [] := by
  unfold timesC
  rw [if_neg]
  intro hk
  simp only [okBag, Bool.and_eq_true] at hk
  have hN : ∀ {cs : List C2} {p : Option C2}, okCs W p cs = true → ∀ x ∈ cs, okN x.n = true := by
    intro cs
    induction cs with
    | nil => intro p _ x hx; cases hx
    | cons y ys ih =>
      intro p h x hx
      simp only [okCs, Bool.and_eq_true] at h
      rcases List.mem_cons.1 hx with rfl | hx
      · exact h.1.1.2
      · exact ih h.2 x hx
  have := hN hk.2 ⟨x.r, n * x.n⟩ (List.mem_map.2 ⟨x, hx, rfl⟩)
  simp only [okN, Bool.and_eq_true, decide_eq_true_eq] at this
  rw [Int.mul_comm] at h
  unfold In64 at h
  omega
theorem cc_set {us : List Value} {cs : List C2} (h : us.length = cs.length) {k : Nat} {x : C2} (hk : cs[k]? = some x) (m : Int) : cc us (cs.set k ⟨x.r, m⟩) = (cc us cs).set (k * 2 + 1) (.int .i64 m) := by
  induction us generalizing cs k with
  | nil => cases cs with | nil => simp at hk | cons => simp at h
  | cons v us ih =>
    cases cs with
    | nil => simp at h
    | cons c cs =>
      have e : ∀ (c : C2) (cs : List C2), cc (v :: us) (c :: cs) = v :: .int .i64 c.n :: cc us cs := by intro c cs; unfold cc; rw [List.zip_cons_cons, List.flatMap_cons]; rfl
      cases k with
      | zero => rw [List.set_cons_zero, e, e]; rfl
      | succ k =>
        rw [List.set_cons_succ, e, e, ih (cs := cs) (by simpa using h) (by simpa using hk)]
        rw [show (k + 1) * 2 + 1 = (k * 2 + 1) + 1 + 1 from by omega]
        rfl
theorem BagOwn.setN {w : World} {N g l cap : Nat} {cs : List C2} {us : List Value} {G : List (List Nat)} (h : BagOwn w N (.slice (some ⟨g, 0, none⟩) l cap) cs us G) {k : Nat} {x : C2} (hk : cs[k]? = some x) (m : Int) :
    BagOwn (w.setCell ⟨g, k * 2 + 1, none⟩ (.int .i64 m)) N (.slice (some ⟨g, 0, none⟩) l cap) (cs.set k ⟨x.r, m⟩) us G := by
  have hkl : k < cs.length := (List.getElem?_eq_some_iff.1 hk).1
  have hout : g ∉ G.flatten := h.out g rfl
  have hb : ∀ b ∈ G.flatten, (w.setCell ⟨g, k * 2 + 1, none⟩ (.int .i64 m)).heap[b]? = w.heap[b]? := fun b hb => Below.heap_setCell _ _ _ _ (by rintro rfl; exact hout hb)
  refine ⟨?_, by rw [List.length_set]; exact h.ul, by rw [List.length_set]; exact h.gl, fun i y u q hy hu hq => ?_, h.free.keep hb, h.out⟩
  · obtain ⟨hl, ho⟩ := h.own
    rw [List.length_set, cc_set h.ul hk]
    refine ⟨by rw [List.length_set]; exact hl, .inr ?_⟩
    rcases ho with ⟨h0, _⟩ | ⟨g', cap', cur, hv, hg, hc, hn, hm, hs, ht⟩
    · cases h0
    cases hv
    refine ⟨g, cap, cur.setIfInBounds (k * 2 + 1) (.int .i64 m), rfl, hg, ?_, hn, hm, by simpa using hs, ?_⟩
    · simp [World.setCell, Array.getElem?_modify, hc]
    · rw [← ht, Array.toList_setIfInBounds, List.take_set]
  · by_cases e : i = k
    · subst e
      rw [List.getElem?_set_self (by omega)] at hy
      have hy := Option.some.inj hy
      subst hy
      exact (h.row i x u q hk hu hq).keep (by simp) fun b hbq => hb b (List.mem_flatten.2 ⟨q, List.mem_of_getElem? hq, hbq⟩)
    · rw [List.getElem?_set_ne (Ne.symm e)] at hy
      exact (h.row i y u q hy hu hq).keep (by simp) fun b hbq => hb b (List.mem_flatten.2 ⟨q, List.mem_of_getElem? hq, hbq⟩)
theorem BagOwn.cells {w : World} {N : Nat} {v : Value} {cs : List C2} {us : List Value} {G : List (List Nat)} (h : BagOwn w N v cs us G) {k : Nat} (hk : k < cs.length) :
    ∃ g cap x a c, v = .slice (some ⟨g, 0, none⟩) cs.length cap ∧ cs[k]? = some x ∧ w.cell? ⟨g, k * 2, none⟩ = some (.slice a x.r.length c) ∧ w.cell? ⟨g, k * 2 + 1, none⟩ = some (.int .i64 x.n) ∧ (∀ q, w.frozen? ⟨g, q, none⟩ = false) ∧ g < w.heap.size ∧ N ≤ g ∧ cs.length ≤ cap ∧ cap ≤ maxLen := by
  have hlt := ownsRow_lt h.own
  have hku : k < us.length := by rw [h.ul]; exact hk
  have hkg : k < G.length := by rw [h.gl]; exact hk
  obtain ⟨a, c, ha⟩ : ∃ a c, us[k] = .slice a cs[k].r.length c := by
    obtain ⟨a, c, e, _⟩ := h.row k cs[k] us[k] G[k] (by simp) (by simp) (by simp)
    exact ⟨a, c, e⟩
  obtain ⟨e0, e1⟩ := cc_at h.ul (i := k) (u := us[k]) (x := cs[k]) (by simp) (by simp)
  obtain ⟨hl, ho⟩ := h.own
  rcases ho with ⟨_, h0⟩ | ⟨g, cap, cur, rfl, hg, hc, hn, hm, hs, ht⟩
  · omega
  have get : ∀ j u, j < cs.length * 2 → (cc us cs)[j]? = some u → w.cell? ⟨g, j, none⟩ = some u := by
    intro j u hj hu
    simp only [World.cell?, hc]
    rw [← ht, List.getElem?_take, if_pos hj, Array.getElem?_toList] at hu
    simpa using hu
  exact ⟨g, cap, cs[k], a, c, rfl, by simp, (get _ _ (by omega) e0).trans (by rw [ha]), get _ _ (by omega) e1, fun q => by simp [World.frozen?, hc], (hlt g rfl).2, hg, hn, hm⟩
end Go.Proofs.Ytnbcmkbkiebbdaa
