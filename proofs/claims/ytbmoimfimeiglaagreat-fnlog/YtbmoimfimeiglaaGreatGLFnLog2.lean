/- Own texts, joined: contracts that the law's proof goes by. -/
import Derived.Test.YtbmoimfimeiglaaGreatGLFnLog1
import Derived.Deep.SlicePairs
import Derived.OpenShut
import Derived.ChangeOld
import Derived.Deep.OwnRows
import Derived.Handy
namespace Go.Proofs.YtbmoimfimeiglaaGreat
open Go.RowKit Go.Deep Go.ChangeShapes Go.WideShapes
set_option linter.unusedVariables false
structure V3 where
  k : Int
  n : Int
  s : ByteArray
def V3.wf (x : V3) : Prop := (Lit.int .i64 x.k).wf = true ∧ (Lit.int .i64 x.n).wf = true ∧ x.s.size ≤ maxLen
def VsWf (vs : List V3) : Prop := ∀ y ∈ vs, y.wf
def Lies (w : World) (b o : Nat) (vs : List V3) : Prop :=
  ∀ i x, vs[i]? = some x → w.cell? ⟨b, o + i * 3, none⟩ = some (.int .i64 x.k) ∧ w.cell? ⟨b, o + i * 3 + 1, none⟩ = some (.int .i64 x.n) ∧ w.cell? ⟨b, o + i * 3 + 2, none⟩ = some (.string x.s)
def RowIs (w : World) (v : Value) (vs : List V3) : Prop :=
  ∃ a c, v = .slice a vs.length c ∧ vs.length ≤ c ∧ c ≤ maxLen ∧ (vs ≠ [] → ∃ b o, a = some ⟨b, o, none⟩ ∧ b < w.heap.size ∧ Lies w b o vs)
theorem Lies.below {w w' : World} {b o : Nat} {vs : List V3} {N : Nat} (h : Lies w b o vs) (hb : Below N w w') (hN : b < N) : Lies w' b o vs := fun i x hx => by
  obtain ⟨h0, h1, h2⟩ := h i x hx
  exact ⟨(hb.cell (p := ⟨b, o + i * 3, none⟩) hN).trans h0, (hb.cell (p := ⟨b, o + i * 3 + 1, none⟩) hN).trans h1, (hb.cell (p := ⟨b, o + i * 3 + 2, none⟩) hN).trans h2⟩
theorem RowIs.below {w w' : World} {v : Value} {vs : List V3} (h : RowIs w v vs) (hb : Below w.heap.size w w') : RowIs w' v vs := by
  obtain ⟨a, c, rfl, hl, hc, h⟩ := h
  refine ⟨a, c, rfl, hl, hc, fun hne => ?_⟩
  obtain ⟨b, o, rfl, hlt, hL⟩ := h hne
  exact ⟨b, o, rfl, Nat.lt_of_lt_of_le hlt hb.size, hL.below hb hlt⟩
theorem RowIs.pick {w : World} {v : Value} {vs : List V3} (h : RowIs w v vs) :
    ∃ a c b o, v = .slice a vs.length c ∧ vs.length ≤ c ∧ c ≤ maxLen ∧ ∀ k, k < vs.length → a = some ⟨b, o, none⟩ ∧ b < w.heap.size ∧ Lies w b o vs := by
  obtain ⟨a, c, rfl, hl, hc, h⟩ := h
  by_cases hne : vs = []
  · exact ⟨a, c, 0, 0, rfl, hl, hc, fun k hk => by rw [hne] at hk; simp at hk⟩
  · obtain ⟨b, o, h⟩ := h hne
    exact ⟨a, c, b, o, rfl, hl, hc, fun _ _ => h⟩
theorem Lies.at {w w' : World} {b o : Nat} {vs : List V3} (h : Lies w b o vs) (hlt : b < w.heap.size) (hb : Below w.heap.size w w') {k : Nat} (hk : k < vs.length) :
    ∃ x, vs[k]? = some x ∧ w'.cell? ⟨b, o + k * 3, none⟩ = some (.int .i64 x.k) ∧ w'.cell? ⟨b, o + k * 3 + 1, none⟩ = some (.int .i64 x.n) ∧ w'.cell? ⟨b, o + k * 3 + 2, none⟩ = some (.string x.s) ∧ b < w'.heap.size :=
  ⟨vs[k], by simp [hk], by have := h.below hb hlt k vs[k] (by simp [hk]); exact ⟨this.1, this.2.1, this.2.2, Nat.lt_of_lt_of_le hlt hb.size⟩⟩
def cf (vs : List V3) (i : Nat) : Value := if i % 3 = 0 then .int .i64 (vs.getD (i / 3) ⟨0, 0, ⟨#[]⟩⟩).k else if i % 3 = 1 then .int .i64 (vs.getD (i / 3) ⟨0, 0, ⟨#[]⟩⟩).n else .string (vs.getD (i / 3) ⟨0, 0, ⟨#[]⟩⟩).s
theorem cf_at {vs : List V3} {k : Nat} {x : V3} (h : vs[k]? = some x) : cf vs (k * 3) = .int .i64 x.k ∧ cf vs (k * 3 + 1) = .int .i64 x.n ∧ cf vs (k * 3 + 2) = .string x.s := by
  have e0 : k * 3 / 3 = k := by omega
  have e1 : (k * 3 + 1) / 3 = k := by omega
  have e2 : (k * 3 + 2) / 3 = k := by omega
  have m0 : k * 3 % 3 = 0 := by omega
  have m1 : (k * 3 + 1) % 3 = 1 := by omega
  have m2 : (k * 3 + 2) % 3 = 2 := by omega
  refine ⟨?_, ?_, ?_⟩ <;> simp [cf, e0, e1, e2, m0, m1, m2, List.getD, h]
def Half (w : World) (B : Nat) (t : TypeId) (vs : List V3) (k : Nat) : Prop := ∃ f, w.rowIs B t (vs.length * 3) f ∧ ∀ i, i < k * 3 → f i = cf vs i
theorem Half.done {w : World} {B : Nat} {t : TypeId} {vs : List V3} (h : Half w B t vs vs.length) : w.rowIs B t (vs.length * 3) (cf vs) := by
  obtain ⟨f, h, e⟩ := h
  exact h.congr e
theorem Half.step {w : World} {B : Nat} {t : TypeId} {vs : List V3} {k : Nat} {x : V3} (h : Half w B t vs k) (hx : vs[k]? = some x) :
    Half (((w.setCell ⟨B, k * 3, none⟩ (.int .i64 x.k)).setCell ⟨B, k * 3 + 1, none⟩ (.int .i64 x.n)).setCell ⟨B, k * 3 + 2, none⟩ (.string x.s)) B t vs (k + 1) := by
  obtain ⟨f, h, e⟩ := h
  obtain ⟨h0, h1, h2⟩ := cf_at hx
  refine ⟨_, ((h.set _ _).set _ _).set _ _, fun i hi => ?_⟩
  by_cases e2 : i = k * 3 + 2
  · simp [e2, h2]
  by_cases e1 : i = k * 3 + 1
  · simp [e1, h1]
  by_cases e0 : i = k * 3
  · simp [e0, h0]
  · simp only [if_neg e0, if_neg e1, if_neg e2]
    exact e i (by omega)
theorem Half.of_block {w w' : World} {B : Nat} {t : TypeId} {vs : List V3} {k : Nat} (h : Half w B t vs k) (e : w'.heap[B]? = w.heap[B]?) : Half w' B t vs k := by
  obtain ⟨f, h, g⟩ := h
  exact ⟨f, h.of_block e, g⟩
theorem Half.cells {w : World} {B : Nat} {t : TypeId} {vs : List V3} {k : Nat} (h : Half w B t vs k) (hk : k < vs.length) :
    (∃ u, w.cell? ⟨B, k * 3, none⟩ = some u) ∧ (∃ u, w.cell? ⟨B, k * 3 + 1, none⟩ = some u) ∧ (∃ u, w.cell? ⟨B, k * 3 + 2, none⟩ = some u) ∧ (∀ i, w.frozen? ⟨B, i, none⟩ = false) ∧ B < w.heap.size := by
  obtain ⟨f, h, g⟩ := h
  exact ⟨⟨_, h.cell (by omega)⟩, ⟨_, h.cell (by omega)⟩, ⟨_, h.cell (by omega)⟩, fun i => h.frozen i, h.lt⟩
def wts (vs : List V3) : Nat := (vs.map fun x => x.s.size).sum
def wt (vs : List V3) : Nat := vs.length + wts vs
structure C2 where
  r : List V3
  n : Int
def C2.wf (x : C2) : Prop := VsWf x.r ∧ (Lit.int .i64 x.n).wf = true
def CsWf (cs : List C2) : Prop := ∀ y ∈ cs, y.wf
def CLies (w : World) (b o : Nat) (cs : List C2) : Prop :=
  ∀ i x, cs[i]? = some x → ∃ v, w.cell? ⟨b, o + i * 2, none⟩ = some v ∧ RowIs w v x.r ∧ w.cell? ⟨b, o + i * 2 + 1, none⟩ = some (.int .i64 x.n)
def RowsIs (w : World) (v : Value) (cs : List C2) : Prop :=
  ∃ a c, v = .slice a cs.length c ∧ cs.length ≤ c ∧ c ≤ maxLen ∧ (cs ≠ [] → ∃ b o, a = some ⟨b, o, none⟩ ∧ b < w.heap.size ∧ CLies w b o cs)
theorem CLies.below {w w' : World} {b o : Nat} {cs : List C2} (h : CLies w b o cs) (hb : Below w.heap.size w w') (hN : b < w.heap.size) : CLies w' b o cs := fun i x hx => by
  obtain ⟨v, h0, h1, h2⟩ := h i x hx
  exact ⟨v, (hb.cell (p := ⟨b, o + i * 2, none⟩) hN).trans h0, h1.below hb, (hb.cell (p := ⟨b, o + i * 2 + 1, none⟩) hN).trans h2⟩
theorem RowsIs.below {w w' : World} {v : Value} {cs : List C2} (h : RowsIs w v cs) (hb : Below w.heap.size w w') : RowsIs w' v cs := by
  obtain ⟨a, c, rfl, hl, hc, h⟩ := h
  refine ⟨a, c, rfl, hl, hc, fun hne => ?_⟩
  obtain ⟨b, o, rfl, hlt, hL⟩ := h hne
  exact ⟨b, o, rfl, Nat.lt_of_lt_of_le hlt hb.size, hL.below hb hlt⟩
section
variable {H : Type} {enc : TypeId × Value → H} {P : Program} {w : World} {spare : Nat → Bool} {held : Bool}
end
end Go.Proofs.YtbmoimfimeiglaaGreat
namespace Go.Proofs.YtbmoimfimeiglaaGreat
open Go.RowKit
set_option linter.unusedVariables false
theorem Tryz.infoVal : (Tryz.prog.info? 119).map (fun i => (i.zero, i.size, i.bytes)) = some (some (.agg #[.int .i64 0, .int .i64 0, .string ⟨#[]⟩]), 3, 32) := by kernel_rfl
end Go.Proofs.YtbmoimfimeiglaaGreat
