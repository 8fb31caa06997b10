/- Own text. Chains of and: what they are, what they weigh, how deep they go; two expressions in a new list. -/
import Derived.Test.YtpkebpbflfhbnaaCpN
import Derived.Test.YtpkebpbflfhbnaaExpOkI
import Derived.Handy
namespace Go.Proofs.Ytpkebpbflfhbnaa
open Go.RowKit Go.Deep
set_option linter.unusedVariables false
def noV : V3 := ⟨0, 0, ⟨#[]⟩⟩
/-- the constant of a value. -/
def conE (v : V3) : E7 := E7.mk 1 0 v ⟨#[]⟩ []
def andE (c x : E7) : E7 := E7.mk 2 0 noV ⟨#[97, 110, 100]⟩ [c, x]
/-- the chain of a list. -/
def chainE : List E7 → E7
  | [] => conE ⟨2, 1, ⟨#[]⟩⟩
  | x :: xs => xs.foldl andE x
theorem chain_one (x : E7) : chainE [x] = x := rfl
theorem chain_snoc {es : List E7} (h : es ≠ []) (x : E7) : chainE (es ++ [x]) = andE (chainE es) x := by
  cases es with
  | nil => exact absurd rfl h
  | cons y ys => simp [chainE]
/-- what AndAll answers. -/
def ansAnd (es : List E7) : E7 := if okE 13 (chainE es) = true then chainE es else conE noV
theorem wf_int {n : Int} (h1 : -9223372036854775808 ≤ n) (h2 : n ≤ 9223372036854775807) : (Lit.int .i64 n).wf = true := by
  have e1 : IntKind.i64.min = -9223372036854775808 := by decide
  have e2 : IntKind.i64.max = 9223372036854775807 := by decide
  simp only [Lit.wf, Bool.and_eq_true, decide_eq_true_eq]
  omega
theorem wf_lit0 : (Lit.int .i64 0).wf = true := wf_int (by decide) (by decide)
theorem wf_lit1 : (Lit.int .i64 1).wf = true := wf_int (by decide) (by decide)
theorem wf_lit2 : (Lit.int .i64 2).wf = true := wf_int (by decide) (by decide)
theorem conE_wf {v : V3} (hv : v.wf) : (conE v).wf := ⟨wf_lit1, wf_lit0, hv, Nat.zero_le _⟩
theorem noV_wf : noV.wf := ⟨wf_lit0, wf_lit0, Nat.zero_le _⟩
theorem andE_wf (c x : E7) : (andE c x).wf := ⟨wf_lit2, wf_lit0, noV_wf, by show 3 ≤ maxLen; unfold maxLen; omega⟩
theorem snoc_cases (es : List E7) : es = [] ∨ ∃ ys y, es = ys ++ [y] := by
  rcases List.eq_nil_or_concat es with h | ⟨ys, y, h⟩
  · exact .inl h
  · exact .inr ⟨ys, y, by rw [h, List.concat_eq_append]⟩
theorem chain_wf : ∀ {es : List E7}, (∀ e ∈ es, e.wf) → (chainE es).wf := by
  intro es h
  rcases snoc_cases es with rfl | ⟨ys, y, rfl⟩
  · exact conE_wf ⟨wf_lit2, wf_lit1, Nat.zero_le _⟩
  · by_cases hy : ys = []
    · subst hy; exact h y (by simp)
    · rw [chain_snoc hy]; exact andE_wf _ _
theorem okE_pos {f : Nat} {e : E7} (h : okE f e = true) : 0 < f := by
  cases f with
  | zero => simp [okE] at h
  | succ f => omega
theorem okE_and {f : Nat} {c x : E7} (h : okE (f + 1) (andE c x) = true) : okE f c = true := by
  have h' := h
  simp only [okE, Bool.and_eq_true, List.all_eq_true] at h'
  exact h'.2 c (by show c ∈ [c, x]; simp)
theorem chain_len : ∀ (n : Nat) {es : List E7} {f : Nat}, es.length = n → okE f (chainE es) = true → es.length ≤ f := by
  intro n
  induction n with
  | zero => intro es f hn h; omega
  | succ n ih =>
    intro es f hn h
    rcases snoc_cases es with rfl | ⟨ys, y, rfl⟩
    · simp at hn
    · have hp := okE_pos h
      by_cases hy : ys = []
      · subst hy; simp; omega
      · rw [chain_snoc hy] at h
        obtain ⟨f', rfl⟩ : ∃ f', f = f' + 1 := ⟨f - 1, by omega⟩
        have := ih (es := ys) (f := f') (by simpa using hn) (okE_and h)
        simp
        omega
theorem wtE_mk (k n : Int) (v : V3) (p : ByteArray) (ks : List E7) : wtE (E7.mk k n v p ks) = v.s.size + p.size + (ks.length + wtEs ks) := wtE_eq _
theorem wtEs_two (c x : E7) : wtEs [c, x] = wtE c + wtE x := by
  rw [← wtEs_sum]; simp
theorem wtEs_one (x : E7) : wtEs [x] = wtE x := by rw [← wtEs_sum]; simp
theorem chain_wt : ∀ (n : Nat) {es : List E7}, es.length = n → wtE (chainE es) ≤ wtEs es + 5 * es.length := by
  intro n
  induction n with
  | zero =>
    intro es hn
    obtain rfl := List.length_eq_zero_iff.1 hn
    have : wtE (chainE []) = 0 := by show wtE (E7.mk _ _ _ _ _) = 0; rw [wtE_mk, ← wtEs_sum]; rfl
    omega
  | succ n ih =>
    intro es hn
    rcases snoc_cases es with rfl | ⟨ys, y, rfl⟩
    · simp at hn
    · by_cases hy : ys = []
      · subst hy
        rw [List.nil_append, chain_one, wtEs_one]
        omega
      · have h1 := ih (es := ys) (by simpa using hn)
        rw [chain_snoc hy, wtEs_app, wtEs_one]
        have h2 : wtE (andE (chainE ys) y) = 0 + 3 + (2 + (wtE (chainE ys) + wtE y)) := by
          show wtE (E7.mk _ _ _ _ _) = _
          rw [wtE_mk, wtEs_two]; rfl
        rw [h2]
        simp
        omega
theorem ans_wt {es : List E7} (h : es.length + wtEs es ≤ 1048576) : wtE (ansAnd es) ≤ 1048700 := by
  unfold ansAnd
  split
  · rename_i hk
    have h1 := chain_len _ rfl hk
    have h2 := chain_wt _ (es := es) rfl
    omega
  · have : wtE (conE noV) = 0 := by show wtE (E7.mk _ _ _ _ _) = 0; rw [wtE_mk, ← wtEs_sum]; rfl
    omega
theorem nil_kids {w : World} {d : Nat} (a : Option Addr) (c : Nat) (hc : c ≤ maxLen) : KidsIs w (d + 1) (.slice a 0 c) [] [] :=
  ⟨a, c, [], rfl, Nat.zero_le _, hc, rfl, fun _ => rfl, fun h => absurd rfl h⟩
theorem take_snoc' {α : Type} {l : List α} {k : Nat} {x : α} (h : l[k]? = some x) : l.take (k + 1) = l.take k ++ [x] := by
  obtain ⟨hk, rfl⟩ := List.getElem?_eq_some_iff.1 h
  exact List.take_succ_eq_append_getElem hk
/-- the seven cells of block C are written. -/
abbrev set7 (w : World) (C : Nat) (v0 v1 v2 v3 v4 v5 v6 : Value) : World := ((((((w.setCell ⟨C, 0, none⟩ v0).setCell ⟨C, 1, none⟩ v1).setCell ⟨C, 2, none⟩ v2).setCell ⟨C, 3, none⟩ v3).setCell ⟨C, 4, none⟩ v4).setCell ⟨C, 5, none⟩ v5).setCell ⟨C, 6, none⟩ v6
theorem set7_size (w : World) (C : Nat) (v0 v1 v2 v3 v4 v5 v6 : Value) : (set7 w C v0 v1 v2 v3 v4 v5 v6).heap.size = w.heap.size := by simp [set7]
theorem set7_blk {w : World} {C b : Nat} (hb : b ≠ C) (v0 v1 v2 v3 v4 v5 v6 : Value) : (set7 w C v0 v1 v2 v3 v4 v5 v6).heap[b]? = w.heap[b]? := by
  unfold set7
  iterate 7 rw [Below.heap_setCell _ _ _ _ hb]
theorem set7_below {a w : World} {B C : Nat} (h : Below B a w) (hC : B ≤ C) (v0 v1 v2 v3 v4 v5 v6 : Value) : Below B a (set7 w C v0 v1 v2 v3 v4 v5 v6) :=
  ((((((h.setCell hC _).setCell hC _).setCell hC _).setCell hC _).setCell hC _).setCell hC _).setCell hC _
theorem KidsIs.set7 {w : World} {C d : Nat} {v : Value} {es : List E7} {F : List Nat} (h : KidsIs w d v es F) (hF : ∀ b ∈ F, b ≠ C) (v0 v1 v2 v3 v4 v5 v6 : Value) : KidsIs (set7 w C v0 v1 v2 v3 v4 v5 v6) d v es F :=
  h.keep (Nat.le_of_eq (set7_size _ _ _ _ _ _ _ _ _).symm) fun b hb => set7_blk (hF b hb) _ _ _ _ _ _ _
/-- two expressions in a new list. -/
theorem pair_kids {w : World} {D : Nat} {c x : E7} {u1 u2 : Value} {F1 F2 : List Nat} (h1 : KidsIs w D u1 c.ks F1) (h2 : KidsIs w D u2 x.ks F2) (hc : c.wf) (hx : x.wf) :
    KidsIs (w.alloc (.cells #[.int .i64 c.k, .int .i64 c.n, .int .i64 c.v.k, .int .i64 c.v.n, .string c.v.s, .string c.p, u1, .int .i64 x.k, .int .i64 x.n, .int .i64 x.v.k, .int .i64 x.v.n, .string x.v.s, .string x.p, u2] 33)) (D + 1) (.slice (some ⟨w.heap.size, 0, none⟩) 2 2) [c, x] (w.heap.size :: (F1 ++ F2)) := by
  have hb : ∀ o, Below w.heap.size w (w.alloc o) := fun o => (Below.refl _ _).alloc (Nat.le_refl _) _
  refine ⟨some ⟨w.heap.size, 0, none⟩, 2, [F1, F2], rfl, Nat.le_refl _, by unfold maxLen; omega, rfl, (fun h => by cases h), fun _ => ⟨w.heap.size, 0, rfl, by simp, by simp, fun i e g he hg => ?_⟩⟩
  match i, he, hg with
  | 0, he, hg =>
    simp at he hg
    subst he hg
    exact ⟨hc, ⟨by go_simp, by go_simp, by go_simp, by go_simp, by go_simp, by go_simp⟩, u1, by go_simp, h1.below (hb _)⟩
  | 1, he, hg =>
    simp at he hg
    subst he hg
    exact ⟨hx, ⟨by go_simp, by go_simp, by go_simp, by go_simp, by go_simp, by go_simp⟩, u2, by go_simp, h2.below (hb _)⟩
  | i + 2, he, hg => simp at he
end Go.Proofs.Ytpkebpbflfhbnaa
