/- Own text. The text of a bag. -/
import Derived.Test.YtajlmgacmhimgaaDoorVtP
import Derived.Test.YtajlmgacmhimgaaDoorTxtL
import Derived.Test.YtajlmgacmhimgaaDoorBagOkI
namespace Go.Proofs.YtajlmgacmhimgaaDoor
open Go.RowKit
set_option linter.unusedVariables false
theorem wf64T (n : Int) (h : (Lit.int .i64 n).wf = true) : -9223372036854775808 ≤ n ∧ n ≤ 9223372036854775807 := by
  simp only [Lit.wf, IntKind.min, IntKind.max, IntKind.signed, IntKind.bits, Bool.and_eq_true, decide_eq_true_eq, if_true] at h
  omega
/-- the texts of a row's values. -/
def rowTs (vs : List V3) : List (List UInt8) := vs.map fun x => vt x.k x.n x.s
def rowT (vs : List V3) : List UInt8 := Lib.join (rowTs vs) [44]
theorem rowTs_take {vs : List V3} {k : Nat} {x : V3} (h : vs[k]? = some x) : rowTs (vs.take (k + 1)) = rowTs (vs.take k) ++ [vt x.k x.n x.s] := by
  obtain ⟨hk, rfl⟩ := List.getElem?_eq_some_iff.1 h
  unfold rowTs
  rw [List.take_succ_eq_append_getElem hk, List.map_append]
  rfl
theorem rowTs_le (vs : List V3) (hw : VsWf vs) : ∀ l ∈ rowTs vs, l.length ≤ 202 := by
  intro l hl
  obtain ⟨x, hx, rfl⟩ := List.mem_map.1 hl
  obtain ⟨h0, h1⟩ := wf64T x.n (hw x hx).2.1
  exact vt_len _ _ _ h0 h1
theorem join_snoc (ls : List (List UInt8)) (l sep : List UInt8) (h : ls ≠ []) : Lib.join (ls ++ [l]) sep = Lib.join ls sep ++ (sep ++ l) := by
  cases ls with
  | nil => exact absurd rfl h
  | cons x r =>
    rw [List.cons_append, Lib.join_cons, Lib.join_cons, List.append_assoc]
    congr 1
    simp [Lib.joinTail]
theorem rowT_len (vs : List V3) (hw : VsWf vs) : (rowT vs).length ≤ 203 * vs.length := by
  have := join_len (rowTs vs) [44] 202 (rowTs_le vs hw)
  simpa [rowT, rowTs] using this
/-- the text of one counted row. -/
def cntT (x : C2) : List UInt8 := Lib.itoa x.n ++ ([120, 32] ++ (rowT x.r ++ [10]))
def bagT (cs : List C2) : List UInt8 := cs.flatMap cntT
theorem bagT_take {cs : List C2} {k : Nat} {x : C2} (h : cs[k]? = some x) : bagT (cs.take (k + 1)) = bagT (cs.take k) ++ cntT x := by
  obtain ⟨hk, rfl⟩ := List.getElem?_eq_some_iff.1 h
  unfold bagT
  rw [List.take_succ_eq_append_getElem hk, List.flatMap_append]
  simp only [List.flatMap_cons, List.flatMap_nil, List.append_nil]
theorem cntT_len (x : C2) (hw : x.wf) (hl : x.r.length ≤ 12) : (cntT x).length ≤ 2500 := by
  obtain ⟨h0, h1⟩ := wf64T x.n hw.2
  have h2 := Lib.itoa_length_le x.n h0 h1
  have h3 := rowT_len x.r hw.1
  simp only [cntT, List.length_append, List.length_cons, List.length_nil]
  omega
theorem bagT_len (cs : List C2) (hw : CsWf cs) (hl : ∀ x ∈ cs, x.r.length ≤ 12) : (bagT cs).length ≤ 2500 * cs.length := by
  induction cs with
  | nil => simp [bagT]
  | cons x xs ih =>
    have h1 := ih (fun y hy => hw y (by simp [hy])) (fun y hy => hl y (by simp [hy]))
    have h2 := cntT_len x (hw x (by simp)) (hl x (by simp))
    unfold bagT at *
    rw [List.flatMap_cons, List.length_append, List.length_cons]
    omega
theorem okCs_len {W : Int} (h12 : W ≤ 12) : ∀ (cs : List C2) (p : Option C2), okCs W p cs = true → ∀ x ∈ cs, x.r.length ≤ 12
  | [], _, _, x, hx => by cases hx
  | y :: ys, p, h, x, hx => by
    simp only [okCs, Bool.and_eq_true] at h
    rcases List.mem_cons.1 hx with rfl | hx
    · have := h.1.1.1
      simp only [okRow, Bool.and_eq_true, decide_eq_true_eq] at this
      have := this.1
      omega
    · exact okCs_len h12 ys (some y) h.2 x hx
theorem okBag_parts {W : Int} {cs : List C2} (h : okBag W cs = true) : cs.length ≤ 400 ∧ ∀ x ∈ cs, x.r.length ≤ 12 := by
  simp only [okBag, Bool.and_eq_true, decide_eq_true_eq] at h
  exact ⟨h.1.2, okCs_len h.1.1.2 cs none h.2⟩
/-- the text of a bag; the empty text where it is none. -/
def bagText (W : Int) (cs : List C2) : List UInt8 := if okBag W cs = true then bagT cs else []
end Go.Proofs.YtajlmgacmhimgaaDoor
