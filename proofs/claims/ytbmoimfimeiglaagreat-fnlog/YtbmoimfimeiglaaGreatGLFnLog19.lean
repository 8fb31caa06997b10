/- Own texts, joined: contracts that the law's proof goes by. -/
import Derived.Test.YtbmoimfimeiglaaGreatGLFnLog3
import Derived.Handy
import Derived.Test.YtbmoimfimeiglaaGreatGLFnLog1
import Derived.Test.YtbmoimfimeiglaaGreatGLFnLog20
import Derived.Test.YtbmoimfimeiglaaGreatGLFnLog18
import Derived.Test.YtbmoimfimeiglaaGreatGLFnLog15
namespace Go.Proofs.YtbmoimfimeiglaaGreat
open Go.RowKit Go.Deep Go.ChangeShapes Go.WideShapes
set_option linter.unusedVariables false
structure S2 where
  s : ByteArray
  cs : List ByteArray
def S2.wf (x : S2) : Prop := x.s.size ≤ maxLen ∧ SsWf x.cs
def HsWf (rs : List S2) : Prop := ∀ y ∈ rs, y.wf
def HLies (w : World) (b o : Nat) (rs : List S2) : Prop :=
  ∀ i x, rs[i]? = some x → ∃ v g, w.cell? ⟨b, o + i * 2, none⟩ = some (.string x.s) ∧ w.cell? ⟨b, o + i * 2 + 1, none⟩ = some v ∧ StrsF w v x.cs g
def SchsIs (w : World) (v : Value) (rs : List S2) : Prop :=
  ∃ a c, v = .slice a rs.length c ∧ rs.length ≤ c ∧ c ≤ maxLen ∧ (rs ≠ [] → ∃ b o, a = some ⟨b, o, none⟩ ∧ b < w.heap.size ∧ HLies w b o rs)
theorem HLies.below {w w' : World} {b o : Nat} {rs : List S2} (h : HLies w b o rs) (hb : Below w.heap.size w w') (hN : b < w.heap.size) : HLies w' b o rs := fun i x hx => by
  obtain ⟨v, g, h0, h1, h3⟩ := h i x hx
  exact ⟨v, g, (hb.cell (p := ⟨b, o + i * 2, none⟩) hN).trans h0, (hb.cell (p := ⟨b, o + i * 2 + 1, none⟩) hN).trans h1, h3.below hb⟩
theorem SchsIs.below {w w' : World} {v : Value} {rs : List S2} (h : SchsIs w v rs) (hb : Below w.heap.size w w') : SchsIs w' v rs := by
  obtain ⟨a, c, rfl, hl, hc, h⟩ := h
  refine ⟨a, c, rfl, hl, hc, fun hne => ?_⟩
  obtain ⟨b, o, rfl, hlt, hL⟩ := h hne
  exact ⟨b, o, rfl, Nat.lt_of_lt_of_le hlt hb.size, hL.below hb hlt⟩
theorem SchsIs.shape {w : World} {v : Value} {rs : List S2} (h : SchsIs w v rs) : ∃ a l c, v = .slice a l c := by
  obtain ⟨a, c, h, _⟩ := h
  exact ⟨a, _, c, h⟩
theorem SchsIs.pick {w : World} {v : Value} {rs : List S2} (h : SchsIs w v rs) :
    ∃ a c b o, v = .slice a rs.length c ∧ rs.length ≤ c ∧ c ≤ maxLen ∧ ∀ k, k < rs.length → a = some ⟨b, o, none⟩ ∧ b < w.heap.size ∧ HLies w b o rs := by
  obtain ⟨a, c, rfl, hl, hc, h⟩ := h
  by_cases hne : rs = []
  · exact ⟨a, c, 0, 0, rfl, hl, hc, fun k hk => by rw [hne] at hk; simp at hk⟩
  · obtain ⟨b, o, h⟩ := h hne
    exact ⟨a, c, b, o, rfl, hl, hc, fun _ _ => h⟩
theorem HLies.at {w w' : World} {b o : Nat} {rs : List S2} (h : HLies w b o rs) (hlt : b < w.heap.size) (hb : Below w.heap.size w w') {k : Nat} (hk : k < rs.length) :
    ∃ x v g, rs[k]? = some x ∧ w'.cell? ⟨b, o + k * 2, none⟩ = some (.string x.s) ∧ w'.cell? ⟨b, o + k * 2 + 1, none⟩ = some v ∧ StrsF w' v x.cs g ∧ b < w'.heap.size := by
  obtain ⟨v, g, h0, h1, h3⟩ := h.below hb hlt k rs[k] (by simp [hk])
  exact ⟨rs[k], v, g, by simp [hk], h0, h1, h3, Nat.lt_of_lt_of_le hlt hb.size⟩
section
variable {H : Type} {enc : TypeId × Value → H} {P : Program} {w : World} {spare : Nat → Bool} {held : Bool}
end
end Go.Proofs.YtbmoimfimeiglaaGreat
namespace Go.Proofs.YtbmoimfimeiglaaGreat
open Go.RowKit
set_option linter.unusedVariables false
def colsB (pre : List ByteArray) : List ByteArray → Bool
  | [] => true
  | x :: r => nameB x && !hasS pre x && colsB (pre ++ [x]) r
theorem colsB_step {cs : List ByteArray} {k : Nat} {x : ByteArray} (h : cs[k]? = some x) : colsB (cs.take k) (cs.drop k) = (nameB x && !hasS (cs.take k) x && colsB (cs.take (k + 1)) (cs.drop (k + 1))) := by
  obtain ⟨hk, rfl⟩ := List.getElem?_eq_some_iff.1 h
  rw [List.drop_eq_getElem_cons hk, List.take_succ_eq_append_getElem hk]
  rfl
def okCols (cs : List ByteArray) : Bool := inB cs.length 1 12 && colsB [] cs
def okPrevH (p : Option S2) (x : S2) : Bool := match p with
  | none => true
  | some y => Op.bytesLess y.s.toList x.s.toList
def okHs : Option S2 → List S2 → Bool
  | _, [] => true
  | p, x :: xs => nameB x.s && okCols x.cs && okPrevH p x && okHs (some x) xs
def prevH (rs : List S2) (k : Nat) : Option S2 := if k = 0 then none else rs[k - 1]?
def okSch (rs : List S2) : Bool := decide (rs.length ≤ 20) && okHs none rs
theorem okHs_step {rs : List S2} {k : Nat} {x : S2} (h : rs[k]? = some x) :
    okHs (prevH rs k) (rs.drop k) = (nameB x.s && okCols x.cs && okPrevH (prevH rs k) x && okHs (prevH rs (k + 1)) (rs.drop (k + 1))) := by
  obtain ⟨hk, rfl⟩ := List.getElem?_eq_some_iff.1 h
  rw [List.drop_eq_getElem_cons hk]
  simp [okHs, prevH, hk]
theorem prevH_zero (rs : List S2) : prevH rs 0 = none := rfl
theorem prevH_succ {rs : List S2} {j : Nat} {y : S2} (h : rs[j]? = some y) : prevH rs (j + 1) = some y := by simp [prevH, h]
end Go.Proofs.YtbmoimfimeiglaaGreat
namespace Go.Proofs.YtbmoimfimeiglaaGreat
open Go.RowKit
set_option linter.unusedVariables false
theorem belowN {N : Nat} {w a : World} (h : Below N w a) (n : Nat) : Below N w (a.drewN n) := ⟨h.os, h.tape, h.output, h.size, h.block⟩
def okPrevT (p : Option R3) (x : R3) : Bool := match p with
  | none => true
  | some y => Op.bytesLess y.s.toList x.s.toList
def okTs : Option R3 → List R3 → Bool
  | _, [] => true
  | p, x :: xs => nameB x.s && okBag x.W x.cs && okPrevT p x && okTs (some x) xs
def prevT (rs : List R3) (k : Nat) : Option R3 := if k = 0 then none else rs[k - 1]?
def okRels (rs : List R3) : Bool := inB rs.length 1 20 && okTs none rs
theorem okTs_step {rs : List R3} {k : Nat} {x : R3} (h : rs[k]? = some x) :
    okTs (prevT rs k) (rs.drop k) = (nameB x.s && okBag x.W x.cs && okPrevT (prevT rs k) x && okTs (prevT rs (k + 1)) (rs.drop (k + 1))) := by
  obtain ⟨hk, rfl⟩ := List.getElem?_eq_some_iff.1 h
  rw [List.drop_eq_getElem_cons hk]
  simp [okTs, prevT, hk]
theorem prevT_zero (rs : List R3) : prevT rs 0 = none := rfl
theorem prevT_succ {rs : List R3} {j : Nat} {y : R3} (h : rs[j]? = some y) : prevT rs (j + 1) = some y := by simp [prevT, h]
def okStep (x : T5) : Bool :=
  if x.k = 0 then okSch [⟨x.s, x.cs⟩] && x.q.toList.isEmpty && x.rs.isEmpty
  else if x.k = 1 then nameB x.s && x.cs.isEmpty && decide (x.q.size ≤ 1000) && x.rs.isEmpty
  else if x.k = 2 then nameB x.s && x.cs.isEmpty && x.q.toList.isEmpty && x.rs.isEmpty
  else if x.k = 3 then x.s.toList.isEmpty && x.cs.isEmpty && x.q.toList.isEmpty && okRels x.rs
  else false
end Go.Proofs.YtbmoimfimeiglaaGreat
