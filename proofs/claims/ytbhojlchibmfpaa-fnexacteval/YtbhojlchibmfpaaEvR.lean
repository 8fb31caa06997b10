/- Own text. What an expression's value is of a row: a relation that both sides keep; it has a value wherever the expression is right. -/
import Derived.Test.YtbhojlchibmfpaaExpOkI
import Derived.Test.YtbhojlchibmfpaaRJB
import Derived.Test.YtbhojlchibmfpaaNotN
namespace Go.Proofs.Ytbhojlchibmfpaa
open Go.RowKit
set_option linter.unusedVariables false
def zeroR : V3 := ⟨0, 0, ⟨#[]⟩⟩
/-- a value whose number has 64 bits and whose text is no longer than the statement's arguments together. -/
def goodR (r : V3) : Prop := InN r.n ∧ r.s.size ≤ 1048576
/-- r is what Reckon answers, of the program (m: the variable that it reads) and of the specification. -/
def RB (m : Int) (p : ByteArray) (x y r : V3) : Prop := r.s = ⟨#[]⟩ ∧
  (∀ w : World, w.cell? ⟨0, 0, none⟩ = some (.int .i64 m) → Calls Try.prog 75 #[.string p, (.agg #[.int .i64 x.k, .int .i64 x.n, .string x.s]), (.agg #[.int .i64 y.k, .int .i64 y.n, .string y.s])] w fun e w' => e = .returned (.agg #[.int .i64 r.k, .int .i64 r.n, .string r.s]) ∧ Below w.heap.size w w') ∧
  (∀ w : World, Calls Try.prog 69 #[.string p, (.agg #[.int .i64 x.k, .int .i64 x.n, .string x.s]), (.agg #[.int .i64 y.k, .int .i64 y.n, .string y.s])] w fun e w' => e = .returned (.agg #[.int .i64 r.k, .int .i64 r.n, .string r.s]) ∧ Below w.heap.size w w')
def Res (m : Int) : Nat → E7 → List V3 → V3 → Prop
  | 0, _, _, _ => False
  | f + 1, e, vs, r =>
    (e.k = 0 ∧ 0 ≤ e.n ∧ r = vs.getD e.n.toNat zeroR) ∨ (e.k = 1 ∧ r = e.v) ∨
    (e.k = 2 ∧ ∃ k0 k1 r0 r1, e.ks = [k0, k1] ∧ Res m f k0 vs r0 ∧ Res m f k1 vs r1 ∧ RB m e.p r0 r1 r) ∨
    (e.k = 3 ∧ ∃ k0 r0, e.ks = [k0] ∧ Res m f k0 vs r0 ∧ r = ⟨notK r0.k r0.n, notN r0.k r0.n, ⟨#[]⟩⟩) ∨
    (e.k = 4 ∧ ∃ k0 r0, e.ks = [k0] ∧ Res m f k0 vs r0 ∧ r = ⟨2, nulN r0.k, ⟨#[]⟩⟩)
theorem wf_inN {n : Int} (h : (Lit.int .i64 n).wf = true) : InN n := by
  have := h
  simp only [Lit.wf, Bool.and_eq_true, decide_eq_true_eq] at this
  have e1 : IntKind.i64.min = -9223372036854775808 := by decide
  have e2 : IntKind.i64.max = 9223372036854775807 := by decide
  unfold InN
  omega
theorem kid_of {w : World} {d : Nat} {u : Value} {es : List E7} {F : List Nat} (h : KidsIs w (d + 1) u es F) {x : E7} (hx : x ∈ es) : x.wf ∧ ∃ u' F', KidsIs w d u' x.ks F' := by
  obtain ⟨a, c, G, rfl, _, _, hG, _, h⟩ := h
  obtain ⟨i, hi, rfl⟩ := List.mem_iff_getElem.1 hx
  obtain ⟨b, o, _, _, _, hL⟩ := h (by rintro rfl; simp at hi)
  obtain ⟨hw, _, u', _, hK⟩ := hL i es[i] (G[i]'(by omega)) (by simp) (by simp)
  exact ⟨hw, u', _, hK⟩
theorem KidsIs.succ {w : World} {d : Nat} {u : Value} {es : List E7} {F : List Nat} (h : KidsIs w d u es F) : ∃ d', d = d' + 1 := by
  cases d with
  | zero => exact h.elim
  | succ d => exact ⟨d, rfl⟩
theorem two_of {l : List E7} (h : l.length = 2) : ∃ a b, l = [a, b] := by
  match l, h with
  | [a, b], _ => exact ⟨a, b, rfl⟩
theorem one_of {l : List E7} (h : l.length = 1) : ∃ a, l = [a] := by
  match l, h with
  | [a], _ => exact ⟨a, rfl⟩
theorem res_ex (m : Int) (vs : List V3) (hv : ∀ x ∈ vs, goodR x) : ∀ (f : Nat) (e : E7) (w : World) (d : Nat) (u : Value) (F : List Nat), e.wf → KidsIs w d u e.ks F → wtE e ≤ 1048576 → okE f e = true → ∃ r, Res m f e vs r ∧ goodR r
  | 0, _, _, _, _, _, _, _, _, h => by cases h
  | f + 1, e, w, d, u, F, hw, hk, hn, h => by
    simp only [okE, Bool.and_eq_true, List.all_eq_true] at h
    obtain ⟨hp, hks⟩ := h
    obtain ⟨d, rfl⟩ := hk.succ
    have kid : ∀ x ∈ e.ks, ∃ r, Res m f x vs r ∧ goodR r := fun x hx => by
      obtain ⟨hxw, u', F', hK⟩ := kid_of hk hx
      exact res_ex m vs hv f x w d u' F' hxw hK (by have := wtE_mem hx; rw [wtE_eq] at hn; omega) (hks x hx)
    by_cases h0 : e.k = 0
    · rw [partsB_0 h0] at hp
      simp only [Bool.and_eq_true, colB, decide_eq_true_eq] at hp
      refine ⟨_, Or.inl ⟨h0, hp.1.1.1.1, rfl⟩, ?_⟩
      by_cases hl : e.n.toNat < vs.length
      · rw [List.getD_eq_getElem?_getD, List.getElem?_eq_getElem hl]
        exact hv _ (List.getElem_mem hl)
      · rw [List.getD_eq_getElem?_getD, List.getElem?_eq_none (by omega)]
        exact ⟨by decide, by decide⟩
    by_cases h1 : e.k = 1
    · exact ⟨_, Or.inr (Or.inl ⟨h1, rfl⟩), wf_inN hw.2.2.1.2.1, by rw [wtE_eq] at hn; omega⟩
    by_cases h2 : e.k = 2
    · rw [partsB_2 h2] at hp
      simp only [Bool.and_eq_true, beq_iff_eq] at hp
      obtain ⟨a, b, hab⟩ := two_of hp.2
      obtain ⟨r0, p0, g0⟩ := kid a (by rw [hab]; simp)
      obtain ⟨r1, p1, g1⟩ := kid b (by rw [hab]; simp)
      obtain ⟨K, N, hN, hI, hS⟩ := bothB_any e.p r0.k r0.n r1.k r1.n r0.s r1.s m g0.1 g1.1 g0.2 g1.2
      exact ⟨⟨K, N, ⟨#[]⟩⟩, Or.inr (Or.inr (Or.inl ⟨h2, a, b, r0, r1, hab, p0, p1, rfl, hI, hS⟩)), hN, Nat.zero_le _⟩
    by_cases h3 : e.k = 3
    · rw [partsB_3 h3] at hp
      simp only [Bool.and_eq_true, beq_iff_eq] at hp
      obtain ⟨a, hab⟩ := one_of hp.2
      obtain ⟨r0, p0, g0⟩ := kid a (by rw [hab]; simp)
      refine ⟨_, Or.inr (Or.inr (Or.inr (Or.inl ⟨h3, a, r0, hab, p0, rfl⟩))), ?_, Nat.zero_le _⟩
      show InN (notN _ _)
      unfold notN
      split <;> decide
    by_cases h4 : e.k = 4
    · rw [partsB_4 h4] at hp
      simp only [Bool.and_eq_true, beq_iff_eq] at hp
      obtain ⟨a, hab⟩ := one_of hp.2
      obtain ⟨r0, p0, g0⟩ := kid a (by rw [hab]; simp)
      refine ⟨_, Or.inr (Or.inr (Or.inr (Or.inr ⟨h4, a, r0, hab, p0, rfl⟩))), ?_, Nat.zero_le _⟩
      show InN (nulN _)
      unfold nulN
      split <;> decide
    rw [partsB_x h0 h1 h2 h3 h4] at hp
    cases hp
end Go.Proofs.Ytbhojlchibmfpaa
