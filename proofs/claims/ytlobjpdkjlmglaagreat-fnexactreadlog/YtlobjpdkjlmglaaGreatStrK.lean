/- Own text. A slice of texts with the block that it lies in; how one is read off what came in. -/
import Derived.Test.YtlobjpdkjlmglaaGreatCbl
import Derived.Lib.SmallJoins
namespace Go.Proofs.YtlobjpdkjlmglaaGreat
open Go.RowKit Go.Deep Go.ChangeShapes Go.WideShapes Go.Joins
set_option linter.unusedVariables false
/-- the slice value v has the texts ns; g: the block that they lie in. -/
def StrsF (w : World) (v : Value) (ns : List ByteArray) (g : List Nat) : Prop :=
  ∃ (a : Option Addr) (c : Nat), v = .slice a ns.length c ∧ ns.length ≤ c ∧ c ≤ maxLen ∧ (ns = [] → g = []) ∧ (ns ≠ [] → ∃ b o, a = some ⟨b, o, none⟩ ∧ b < w.heap.size ∧ g = [b] ∧ ∀ i n, ns[i]? = some n → w.cell? ⟨b, o + i, none⟩ = some (.string n))
theorem StrsF.lt {w : World} {v : Value} {ns : List ByteArray} {g : List Nat} (h : StrsF w v ns g) : ∀ b ∈ g, b < w.heap.size := by
  obtain ⟨a, c, _, _, _, h0, h⟩ := h
  by_cases hne : ns = []
  · rw [h0 hne]; intro b hb; cases hb
  · obtain ⟨b, o, _, hlt, rfl, _⟩ := h hne
    intro x hx
    rcases List.mem_singleton.1 hx with rfl
    exact hlt
theorem StrsF.keep {w w' : World} {v : Value} {ns : List ByteArray} {g : List Nat} (h : StrsF w v ns g) (hs : w.heap.size ≤ w'.heap.size) (hg : ∀ b ∈ g, w'.heap[b]? = w.heap[b]?) : StrsF w' v ns g := by
  obtain ⟨a, c, e, hl, hc, h0, h⟩ := h
  refine ⟨a, c, e, hl, hc, h0, fun hne => ?_⟩
  obtain ⟨b, o, ea, hlt, rfl, hC⟩ := h hne
  exact ⟨b, o, ea, by omega, rfl, fun i n hn => (cell_blk (hg b (by simp))).trans (hC i n hn)⟩
theorem StrsF.below {w w' : World} {v : Value} {ns : List ByteArray} {g : List Nat} (h : StrsF w v ns g) (hb : Below w.heap.size w w') : StrsF w' v ns g := h.keep hb.size fun b hg => hb.block b (h.lt b hg)
theorem StrsF.pick {w : World} {v : Value} {ns : List ByteArray} {g : List Nat} (h : StrsF w v ns g) :
    ∃ a c b o, v = .slice a ns.length c ∧ ns.length ≤ c ∧ c ≤ maxLen ∧ (ns = [] → g = []) ∧ ∀ k, k < ns.length → a = some ⟨b, o, none⟩ ∧ b < w.heap.size ∧ g = [b] ∧ ∀ i n, ns[i]? = some n → w.cell? ⟨b, o + i, none⟩ = some (.string n) := by
  obtain ⟨a, c, rfl, hl, hc, h0, h⟩ := h
  by_cases hne : ns = []
  · exact ⟨a, c, 0, 0, rfl, hl, hc, h0, fun k hk => by rw [hne] at hk; simp at hk⟩
  · obtain ⟨b, o, h⟩ := h hne
    exact ⟨a, c, b, o, rfl, hl, hc, h0, fun _ _ => h⟩
theorem StrsF.shape {w : World} {v : Value} {ns : List ByteArray} {g : List Nat} (h : StrsF w v ns g) : ∃ a c, v = .slice a ns.length c ∧ ns.length ≤ c ∧ c ≤ maxLen := by
  obtain ⟨a, c, e, hl, hc, _⟩ := h
  exact ⟨a, c, e, hl, hc⟩
/-- texts of a size that there is. -/
def SsWf (ns : List ByteArray) : Prop := ∀ y ∈ ns, y.size ≤ maxLen
/-- what texts weigh together. -/
def wtSs : List ByteArray → Nat
  | [] => 0
  | s :: ss => s.size + wtSs ss
theorem wtSs_app (a b : List ByteArray) : wtSs (a ++ b) = wtSs a + wtSs b := by
  induction a with
  | nil => simp [wtSs]
  | cons x xs ih => rw [List.cons_append, wtSs, wtSs, ih]; omega
theorem wtSs_take {es : List ByteArray} {k : Nat} {e : ByteArray} (h : es[k]? = some e) : wtSs (es.take (k + 1)) = wtSs (es.take k) + e.size := by
  obtain ⟨hk, rfl⟩ := List.getElem?_eq_some_iff.1 h
  rw [List.take_succ_eq_append_getElem hk, wtSs_app]
  simp [wtSs]
section
variable {H : Type} {enc : TypeId × Value → H} {P : Program} {w : World} {spare : Nat → Bool} {held : Bool}
/-- a slice of texts that came in. -/
theorem open_strs {t e : TypeId} (ht : P.underlying t = some (.slice e)) (he : P.underlying e = some .string) (cg : P.cellsOf e = 1) {fuel : Nat} {v : Value} {x : DataW H × List MemPlace} (h : DataW.trod enc P w 0 spare held fuel t [v] = some x) : ∃ ns g, StrsF w v ns g ∧ SsWf ns := by
  rcases DataW.trod_slice ht h with ⟨h0, _⟩ | ⟨a, len, cap, elems, rest, n, hfn, hcs, rfl, hb, hl, hm, hlen, hel, hsp, hns⟩
  · simp at h0; subst h0
    exact ⟨[], [], ⟨none, 0, rfl, by simp, by simp, fun _ => rfl, fun h => absurd rfl h⟩, fun y hy => by cases hy⟩
  simp at hcs; subst hcs
  have each : ∀ i, i < len → ∃ q : ByteArray, q.size ≤ maxLen ∧ w.cell? (a.add i) = some (.string q) := by
    intro i hi
    have hi1 := hel i hi
    have hie : elems[i]? = some elems[i] := by simp [hlen, hi]
    rw [hie, Option.bind_eq_some_iff] at hi1
    obtain ⟨cs', h1, h2⟩ := hi1
    rw [cg] at h1
    obtain ⟨_, hl1, hcell⟩ := World.cells?_some h1
    match cs', hl1 with
    | [z0], _ =>
      have e0 := hcell 0 (by omega)
      rw [add_add] at e0
      obtain ⟨n3, q3, _, w3⟩ := DataW.trod_string he h2
      simp at q3
      subst q3
      exact ⟨n3, w3, by simpa using e0⟩
  have : Inhabited ByteArray := ⟨⟨#[]⟩⟩
  obtain ⟨q, hq⟩ := choose_lt each
  refine ⟨(List.range len).map q, if len = 0 then [] else [a.block], ⟨some a, cap, by simp, by simpa using hl, hm, fun hne => ?_, fun hne => ?_⟩, fun y hy => ?_⟩
  · have : len = 0 := by simpa using congrArg List.length hne
    simp [this]
  · have hpos : 0 < len := by
      rcases Nat.eq_zero_or_pos len with h0 | h0
      · subst h0; simp at hne
      · exact h0
    have hs : a.spot = none := by have := World.cell?_spot (hq 0 hpos).2; simpa [Addr.add] using this
    obtain ⟨b, o, sp⟩ := a
    simp at hs; subst hs
    refine ⟨b, o, rfl, ?_, by simp; omega, fun i x hx => ?_⟩
    · have := World.block_lt_of_cell? _ _ (hq 0 hpos).2
      simpa [Addr.add] using this
    · have hi : i < len := by
        obtain ⟨h1, _⟩ := List.getElem?_eq_some_iff.1 hx
        simpa using h1
      have ex : x = q i := by simp [hi] at hx; exact hx.symm
      subst ex
      have := (hq i hi).2
      rw [add_plain] at this
      exact this
  · obtain ⟨i, hi, rfl⟩ := List.mem_map.1 hy
    exact (hq i (List.mem_range.1 hi)).1
end
end Go.Proofs.YtlobjpdkjlmglaaGreat
