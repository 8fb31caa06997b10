/- Own text. Relations as they lie in memory: a slice of structs of three cells each (the name, the width, the rows); how they are read off a slice that came in; what they weigh. -/
import Derived.Test.YtlobjpdkjlmglaaGreatBagC
import Derived.Handy
namespace Go.Proofs.YtlobjpdkjlmglaaGreat
open Go.RowKit Go.Deep Go.ChangeShapes Go.WideShapes
set_option linter.unusedVariables false
/-- a relation: its name, its bag's width and rows. -/
structure R3 where
  s : ByteArray
  W : Int
  cs : List C2
def R3.wf (x : R3) : Prop := x.s.size ≤ maxLen ∧ (Lit.int .i64 x.W).wf = true ∧ CsWf x.cs
def RsWf (rs : List R3) : Prop := ∀ y ∈ rs, y.wf
/-- the relations rs lie in w from cell o of block b on. -/
def RLies (w : World) (b o : Nat) (rs : List R3) : Prop :=
  ∀ i x, rs[i]? = some x → ∃ v, w.cell? ⟨b, o + i * 3, none⟩ = some (.string x.s) ∧ w.cell? ⟨b, o + i * 3 + 1, none⟩ = some (.int .i64 x.W) ∧ w.cell? ⟨b, o + i * 3 + 2, none⟩ = some v ∧ RowsIs w v x.cs
/-- the slice value v has the relations rs. -/
def RelsIs (w : World) (v : Value) (rs : List R3) : Prop :=
  ∃ a c, v = .slice a rs.length c ∧ rs.length ≤ c ∧ c ≤ maxLen ∧ (rs ≠ [] → ∃ b o, a = some ⟨b, o, none⟩ ∧ b < w.heap.size ∧ RLies w b o rs)
theorem RLies.below {w w' : World} {b o : Nat} {rs : List R3} (h : RLies w b o rs) (hb : Below w.heap.size w w') (hN : b < w.heap.size) : RLies w' b o rs := fun i x hx => by
  obtain ⟨v, h0, h1, h2, h3⟩ := h i x hx
  exact ⟨v, (hb.cell (p := ⟨b, o + i * 3, none⟩) hN).trans h0, (hb.cell (p := ⟨b, o + i * 3 + 1, none⟩) hN).trans h1, (hb.cell (p := ⟨b, o + i * 3 + 2, none⟩) hN).trans h2, h3.below hb⟩
theorem RelsIs.below {w w' : World} {v : Value} {rs : List R3} (h : RelsIs w v rs) (hb : Below w.heap.size w w') : RelsIs w' v rs := by
  obtain ⟨a, c, rfl, hl, hc, h⟩ := h
  refine ⟨a, c, rfl, hl, hc, fun hne => ?_⟩
  obtain ⟨b, o, rfl, hlt, hL⟩ := h hne
  exact ⟨b, o, rfl, Nat.lt_of_lt_of_le hlt hb.size, hL.below hb hlt⟩
theorem RelsIs.shape {w : World} {v : Value} {rs : List R3} (h : RelsIs w v rs) : ∃ a l c, v = .slice a l c := by
  obtain ⟨a, c, h, _⟩ := h
  exact ⟨a, _, c, h⟩
theorem RelsIs.pick {w : World} {v : Value} {rs : List R3} (h : RelsIs w v rs) :
    ∃ a c b o, v = .slice a rs.length c ∧ rs.length ≤ c ∧ c ≤ maxLen ∧ ∀ k, k < rs.length → a = some ⟨b, o, none⟩ ∧ b < w.heap.size ∧ RLies w b o rs := by
  obtain ⟨a, c, rfl, hl, hc, h⟩ := h
  by_cases hne : rs = []
  · exact ⟨a, c, 0, 0, rfl, hl, hc, fun k hk => by rw [hne] at hk; simp at hk⟩
  · obtain ⟨b, o, h⟩ := h hne
    exact ⟨a, c, b, o, rfl, hl, hc, fun _ _ => h⟩
theorem RLies.at {w w' : World} {b o : Nat} {rs : List R3} (h : RLies w b o rs) (hlt : b < w.heap.size) (hb : Below w.heap.size w w') {k : Nat} (hk : k < rs.length) :
    ∃ x v, rs[k]? = some x ∧ w'.cell? ⟨b, o + k * 3, none⟩ = some (.string x.s) ∧ w'.cell? ⟨b, o + k * 3 + 1, none⟩ = some (.int .i64 x.W) ∧ w'.cell? ⟨b, o + k * 3 + 2, none⟩ = some v ∧ RowsIs w' v x.cs ∧ b < w'.heap.size := by
  obtain ⟨v, h0, h1, h2, h3⟩ := h.below hb hlt k rs[k] (by simp [hk])
  exact ⟨rs[k], v, by simp [hk], h0, h1, h2, h3, Nat.lt_of_lt_of_le hlt hb.size⟩
/-- what relations weigh. -/
def wtr (x : R3) : Nat := x.s.size + wtb x.cs
def wtrs (rs : List R3) : Nat := (rs.map wtr).sum
def wtR (rs : List R3) : Nat := rs.length + wtrs rs
theorem wtrs_take {rs : List R3} {k : Nat} {x : R3} (h : rs[k]? = some x) : wtrs (rs.take (k + 1)) = wtrs (rs.take k) + wtr x := by
  unfold wtrs
  obtain ⟨hk, rfl⟩ := List.getElem?_eq_some_iff.1 h
  rw [List.take_succ_eq_append_getElem hk, List.map_append, List.sum_append]
  simp only [List.map_cons, List.map_nil, List.sum_cons, List.sum_nil, Nat.add_zero]
theorem wtr_mem {rs : List R3} {x : R3} (h : x ∈ rs) : wtr x ≤ wtrs rs := by
  unfold wtrs
  induction rs with
  | nil => cases h
  | cons y ys ih =>
    simp only [List.map_cons, List.sum_cons]
    rcases List.mem_cons.1 h with rfl | h
    · omega
    · have := ih h; omega
section
variable {H : Type} {enc : TypeId × Value → H} {P : Program} {w : World} {spare : Nat → Bool} {held : Bool}
/-- a slice of relations that came in. -/
theorem open_rels {t r e e1 : TypeId} {K0 K1 L0 L1 G0 G1 F0 F1 F2 : Field} {fuel : Nat} {v : Value} {x : DataW H × List MemPlace} (hst : P.underlying t = some (.slice r)) (hr : P.underlying r = some (.struct #[K0, K1])) (cr : P.cellsOf r = 3)
    (k0 : K0.offset = 0) (k1 : K1.offset = 1) (kc0 : P.cellsOf K0.type = 1) (kc1 : P.cellsOf K1.type = 2) (ks : P.underlying K0.type = some .string) (kb : P.underlying K1.type = some (.struct #[L0, L1]))
    (l0 : L0.offset = 0) (l1 : L1.offset = 1) (lc0 : P.cellsOf L0.type = 1) (lc1 : P.cellsOf L1.type = 1) (li : P.underlying L0.type = some (.int .i64))
    (ht : P.underlying L1.type = some (.slice e)) (he : P.underlying e = some (.struct #[G0, G1]))
    (cg : P.cellsOf e = 2) (p0 : G0.offset = 0) (p1 : G1.offset = 1) (g0 : P.cellsOf G0.type = 1) (g1 : P.cellsOf G1.type = 1) (ut : P.underlying G0.type = some (.slice e1)) (un : P.underlying G1.type = some (.int .i64))
    (he1 : P.underlying e1 = some (.struct #[F0, F1, F2]))
    (ce : P.cellsOf e1 = 3) (o0 : F0.offset = 0) (o1 : F1.offset = 1) (o2 : F2.offset = 2) (c0 : P.cellsOf F0.type = 1) (c1 : P.cellsOf F1.type = 1) (c2 : P.cellsOf F2.type = 1)
    (u0 : P.underlying F0.type = some (.int .i64)) (u1 : P.underlying F1.type = some (.int .i64)) (u2 : P.underlying F2.type = some .string)
    (h : DataW.trod enc P w 0 spare held fuel t [v] = some x) : ∃ rs, RelsIs w v rs ∧ RsWf rs := by
  rcases open_slice hst h with ⟨h0, _⟩ | ⟨a, len, cap, m, n, D, Pl, hcs, hb, hl, hm, hmm, rfl, hx⟩
  · simp at h0; subst h0
    exact ⟨[], ⟨none, 0, rfl, by simp, by simp, fun h => absurd rfl h⟩, by simp [RsWf]⟩
  simp at hcs; subst hcs
  have hlm : len ≤ m := by rw [hmm]; split <;> omega
  have each : ∀ i, i < len → ∃ q : Value × R3, w.cell? (a.add (i * 3)) = some (.string q.2.s) ∧ w.cell? (a.add (i * 3 + 1)) = some (.int .i64 q.2.W) ∧ w.cell? (a.add (i * 3 + 2)) = some q.1 ∧ RowsIs w q.1 q.2.cs ∧ q.2.wf := by
    intro i hi
    obtain ⟨cs', h1, h2⟩ := hx i (by omega)
    rw [cr] at h1
    obtain ⟨_, hlen, hcell⟩ := World.cells?_some h1
    obtain ⟨xs, k, hk, hxy, _, hxl, hf⟩ := DataW.trod_struct hr h2
    match xs, hxl, cs', hlen with
    | [y0, y1], _, [v0, v1, v2], _ =>
      have f0 := hf 0 K0 rfl
      have f1 := hf 1 K1 rfl
      simp [k0, k1, kc0, kc1] at f0 f1
      obtain ⟨ys, k', hk', hyy, _, hyl, hg⟩ := DataW.trod_struct kb f1
      match ys, hyl with
      | [z0, z1], _ =>
        have q0 := hg 0 L0 rfl
        have q1 := hg 1 L1 rfl
        simp [l0, l1, lc0, lc1] at q0 q1
        have e0 := hcell 0 (by omega)
        have e1 := hcell 1 (by omega)
        have e2 := hcell 2 (by omega)
        rw [add_add] at e0 e1 e2
        obtain ⟨s0, r0, _, ws⟩ := DataW.trod_string ks f0
        obtain ⟨i0, r1, _, wi⟩ := DataW.trod_int li q0
        simp at r0 r1
        subst r0 r1
        obtain ⟨cs0, hr0, hw0⟩ := open_rows ht he cg p0 p1 g0 g1 ut un he1 ce o0 o1 o2 c0 c1 c2 u0 u1 u2 q1
        exact ⟨(v2, ⟨s0, i0, cs0⟩), by simpa using e0, by simpa using e1, by simpa using e2, hr0, ws, wi, hw0⟩
  have : Inhabited (Value × R3) := ⟨⟨.nilFunc, ⟨⟨#[]⟩, 0, []⟩⟩⟩
  obtain ⟨q, hq⟩ := choose_lt each
  refine ⟨(List.range len).map fun i => (q i).2, ⟨some a, cap, by simp, by simpa using hl, hm, fun hne => ?_⟩, ?_⟩
  · have hpos : 0 < len := by
      rcases Nat.eq_zero_or_pos len with h0 | h0
      · subst h0; simp at hne
      · exact h0
    have hs : a.spot = none := by have := World.cell?_spot (hq 0 hpos).1; simpa [Addr.add] using this
    obtain ⟨b, o, sp⟩ := a
    simp at hs; subst hs
    refine ⟨b, o, rfl, ?_, fun i x hx => ?_⟩
    · have := World.block_lt_of_cell? _ _ (hq 0 hpos).1
      simpa [Addr.add] using this
    · have hi : i < len := by
        have := List.getElem?_eq_some_iff.1 hx
        obtain ⟨h1, _⟩ := this
        simpa using h1
      have ex : x = (q i).2 := by simp [hi] at hx; exact hx.symm
      subst ex
      obtain ⟨h0, h1, h2, h3, _⟩ := hq i hi
      rw [add_plain] at h0 h1 h2
      exact ⟨_, h0, by simpa [Nat.add_assoc] using h1, by simpa [Nat.add_assoc] using h2, h3⟩
  · intro y hy
    obtain ⟨i, hi, rfl⟩ := List.mem_map.1 hy
    exact (hq i (List.mem_range.1 hi)).2.2.2.2
end
end Go.Proofs.YtlobjpdkjlmglaaGreat
