/- Own text. Schemas as they lie in memory: a slice of structs of two cells each (the name, the columns' names); how they are read off a slice that came in; what they weigh. -/
import Derived.Test.YtlobjpdkjlmglaaGreatStrK
import Derived.Handy
namespace Go.Proofs.YtlobjpdkjlmglaaGreat
open Go.RowKit Go.Deep Go.ChangeShapes Go.WideShapes
set_option linter.unusedVariables false
/-- a schema: its name, its columns. -/
structure S2 where
  s : ByteArray
  cs : List ByteArray
def S2.wf (x : S2) : Prop := x.s.size ≤ maxLen ∧ SsWf x.cs
def HsWf (rs : List S2) : Prop := ∀ y ∈ rs, y.wf
/-- the schemas rs lie in w from cell o of block b on. -/
def HLies (w : World) (b o : Nat) (rs : List S2) : Prop :=
  ∀ i x, rs[i]? = some x → ∃ v g, w.cell? ⟨b, o + i * 2, none⟩ = some (.string x.s) ∧ w.cell? ⟨b, o + i * 2 + 1, none⟩ = some v ∧ StrsF w v x.cs g
/-- the slice value v has the schemas rs. -/
def SchsIs (w : World) (v : Value) (rs : List S2) : Prop :=
  ∃ a c, v = .slice a rs.length c ∧ rs.length ≤ c ∧ c ≤ maxLen ∧ (rs ≠ [] → ∃ b o, a = some ⟨b, o, none⟩ ∧ b < w.heap.size ∧ HLies w b o rs)
theorem HLies.below {w w' : World} {b o : Nat} {rs : List S2} (h : HLies w b o rs) (hb : Below w.heap.size w w') (hN : b < w.heap.size) : HLies w' b o rs := fun i x hx => by
  obtain ⟨v, g, h0, h1, h3⟩ := h i x hx
  exact ⟨v, g, (hb.cell (p := ⟨b, o + i * 2, none⟩) hN).trans h0, (hb.cell (p := ⟨b, o + i * 2 + 1, none⟩) hN).trans h1, h3.below hb⟩
theorem SchsIs.below {w w' : World} {v : Value} {rs : List S2} (h : SchsIs w v rs) (hb : Below w.heap.size w w') : SchsIs w' v rs := by
  obtain ⟨a, c, rfl, hl, hc, h⟩ := h
  refine ⟨a, c, rfl, hl, hc, fun hne => ?_⟩
  obtain ⟨b, o, rfl, hlt, hL⟩ := h hne
  exact ⟨b, o, rfl, Nat.lt_of_lt_of_le hlt hb.size, hL.below hb hlt⟩
theorem SchsIs.shape {w : World} {v : Value} {rs : List S2} (h : SchsIs w v rs) : ∃ a l c, v = .slice a l c := by
  obtain ⟨a, c, h, _⟩ := h
  exact ⟨a, _, c, h⟩
theorem SchsIs.pick {w : World} {v : Value} {rs : List S2} (h : SchsIs w v rs) :
    ∃ a c b o, v = .slice a rs.length c ∧ rs.length ≤ c ∧ c ≤ maxLen ∧ ∀ k, k < rs.length → a = some ⟨b, o, none⟩ ∧ b < w.heap.size ∧ HLies w b o rs := by
  obtain ⟨a, c, rfl, hl, hc, h⟩ := h
  by_cases hne : rs = []
  · exact ⟨a, c, 0, 0, rfl, hl, hc, fun k hk => by rw [hne] at hk; simp at hk⟩
  · obtain ⟨b, o, h⟩ := h hne
    exact ⟨a, c, b, o, rfl, hl, hc, fun _ _ => h⟩
theorem HLies.at {w w' : World} {b o : Nat} {rs : List S2} (h : HLies w b o rs) (hlt : b < w.heap.size) (hb : Below w.heap.size w w') {k : Nat} (hk : k < rs.length) :
    ∃ x v g, rs[k]? = some x ∧ w'.cell? ⟨b, o + k * 2, none⟩ = some (.string x.s) ∧ w'.cell? ⟨b, o + k * 2 + 1, none⟩ = some v ∧ StrsF w' v x.cs g ∧ b < w'.heap.size := by
  obtain ⟨v, g, h0, h1, h3⟩ := h.below hb hlt k rs[k] (by simp [hk])
  exact ⟨rs[k], v, g, by simp [hk], h0, h1, h3, Nat.lt_of_lt_of_le hlt hb.size⟩
/-- what schemas weigh. -/
def wth (x : S2) : Nat := x.s.size + (x.cs.length + wtSs x.cs)
def wths (rs : List S2) : Nat := (rs.map wth).sum
def wtH (rs : List S2) : Nat := rs.length + wths rs
theorem wths_take {rs : List S2} {k : Nat} {x : S2} (h : rs[k]? = some x) : wths (rs.take (k + 1)) = wths (rs.take k) + wth x := by
  unfold wths
  obtain ⟨hk, rfl⟩ := List.getElem?_eq_some_iff.1 h
  rw [List.take_succ_eq_append_getElem hk, List.map_append, List.sum_append]
  simp only [List.map_cons, List.map_nil, List.sum_cons, List.sum_nil, Nat.add_zero]
theorem wth_mem {rs : List S2} {x : S2} (h : x ∈ rs) : wth x ≤ wths rs := by
  unfold wths
  induction rs with
  | nil => cases h
  | cons y ys ih =>
    simp only [List.map_cons, List.sum_cons]
    rcases List.mem_cons.1 h with rfl | h
    · omega
    · have := ih h; omega
section
variable {H : Type} {enc : TypeId × Value → H} {P : Program} {w : World} {spare : Nat → Bool} {held : Bool}
/-- a slice of schemas that came in. -/
theorem open_schs {t r e : TypeId} {K0 K1 : Field} {fuel : Nat} {v : Value} {x : DataW H × List MemPlace} (hst : P.underlying t = some (.slice r)) (hr : P.underlying r = some (.struct #[K0, K1])) (cr : P.cellsOf r = 2)
    (k0 : K0.offset = 0) (k1 : K1.offset = 1) (kc0 : P.cellsOf K0.type = 1) (kc1 : P.cellsOf K1.type = 1) (ks : P.underlying K0.type = some .string) (kb : P.underlying K1.type = some (.slice e)) (he : P.underlying e = some .string) (cg : P.cellsOf e = 1)
    (h : DataW.trod enc P w 0 spare held fuel t [v] = some x) : ∃ rs, SchsIs w v rs ∧ HsWf rs := by
  rcases open_slice hst h with ⟨h0, _⟩ | ⟨a, len, cap, m, n, D, Pl, hcs, hb, hl, hm, hmm, rfl, hx⟩
  · simp at h0; subst h0
    exact ⟨[], ⟨none, 0, rfl, by simp, by simp, fun h => absurd rfl h⟩, by simp [HsWf]⟩
  simp at hcs; subst hcs
  have hlm : len ≤ m := by rw [hmm]; split <;> omega
  have each : ∀ i, i < len → ∃ q : (Value × List Nat) × S2, w.cell? (a.add (i * 2)) = some (.string q.2.s) ∧ w.cell? (a.add (i * 2 + 1)) = some q.1.1 ∧ StrsF w q.1.1 q.2.cs q.1.2 ∧ q.2.wf := by
    intro i hi
    obtain ⟨cs', h1, h2⟩ := hx i (by omega)
    rw [cr] at h1
    obtain ⟨_, hlen, hcell⟩ := World.cells?_some h1
    obtain ⟨xs, k, hk, hxy, _, hxl, hf⟩ := DataW.trod_struct hr h2
    match xs, hxl, cs', hlen with
    | [y0, y1], _, [v0, v1], _ =>
      have f0 := hf 0 K0 rfl
      have f1 := hf 1 K1 rfl
      simp [k0, k1, kc0, kc1] at f0 f1
      have e0 := hcell 0 (by omega)
      have e1 := hcell 1 (by omega)
      rw [add_add] at e0 e1
      obtain ⟨s0, r0, _, ws⟩ := DataW.trod_string ks f0
      simp at r0
      subst r0
      obtain ⟨cs0, g0, hr0, hw0⟩ := open_strs kb he cg f1
      exact ⟨((v1, g0), ⟨s0, cs0⟩), by simpa using e0, by simpa using e1, hr0, ws, hw0⟩
  have : Inhabited ((Value × List Nat) × S2) := ⟨⟨(.nilFunc, []), ⟨⟨#[]⟩, []⟩⟩⟩
  obtain ⟨q, hq⟩ := choose_lt each
  refine ⟨(List.range len).map fun i => (q i).2, ⟨some a, cap, by simp, by simpa using hl, hm, fun hne => ?_⟩, ?_⟩
  · have hpos : 0 < len := by
      rcases Nat.eq_zero_or_pos len with h0 | h0
      · subst h0; simp at hne
      · exact h0
    have hs : a.spot = none := by have := World.cell?_spot (hq 0 hpos).1; simpa [Addr.add] using this
    obtain ⟨b, o, sp⟩ := a
    simp at hs; subst hs
    refine ⟨b, o, rfl, ?_, fun i x hx => ?_⟩
    · have := World.block_lt_of_cell? _ _ (hq 0 hpos).1
      simpa [Addr.add] using this
    · have hi : i < len := by
        have := List.getElem?_eq_some_iff.1 hx
        obtain ⟨h1, _⟩ := this
        simpa using h1
      have ex : x = (q i).2 := by simp [hi] at hx; exact hx.symm
      subst ex
      obtain ⟨h0, h1, h3, _⟩ := hq i hi
      rw [add_plain] at h0 h1
      exact ⟨_, _, h0, by simpa [Nat.add_assoc] using h1, h3⟩
  · intro y hy
    obtain ⟨i, hi, rfl⟩ := List.mem_map.1 hy
    exact (hq i (List.mem_range.1 hi)).2.2.2
end
end Go.Proofs.YtlobjpdkjlmglaaGreat
