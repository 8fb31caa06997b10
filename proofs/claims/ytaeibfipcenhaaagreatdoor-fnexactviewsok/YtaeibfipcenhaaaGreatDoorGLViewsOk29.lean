/- Own texts, joined: contracts that the law's proof goes by. -/
import Derived.Test.YtaeibfipcenhaaaGreatDoorGLViewsOk28
import Derived.Test.YtaeibfipcenhaaaGreatDoorGLViewsOk10
import Derived.Test.YtaeibfipcenhaaaGreatDoorGLViewsOk5
import Derived.Test.YtaeibfipcenhaaaGreatDoorGLViewsOk31
import Derived.Test.YtaeibfipcenhaaaGreatDoorGLViewsOk24
import Derived.Test.YtaeibfipcenhaaaGreatDoorGLViewsOk8
import Derived.Handy
namespace Go.Proofs.YtaeibfipcenhaaaGreatDoor
open Go.RowKit
set_option linter.unusedVariables false
set_option linter.unusedSimpArgs false
/-- a right value, with a number of 64 bits. -/
def goodV (x : V3) : Prop := okW x = true ∧ x.wf
theorem goodV.R {x : V3} (h : goodV x) : goodR x := by
  obtain ⟨h1, h2, h3, h4⟩ := h
  refine ⟨wf_inN h3, ?_⟩
  have : x.s.data.toList.length = x.s.size := Array.length_toList
  unfold okW okB at h1
  have nl : x.s.toList = [] → x.s.size = 0 := fun e => by
    have e2 : x.s = ⟨#[]⟩ := by rw [ByteArray.toList_eq] at e; exact ByteArray.ext (Array.toList_inj.1 e)
    rw [e2]; rfl
  split at h1
  · simp at h1; have := nl h1.2; omega
  · split at h1
    · simp at h1; have := nl h1; omega
    · split at h1
      · simp at h1; have := nl h1.2; omega
      · split at h1
        · simp at h1; omega
        · cases h1
/-- a right expression, of a size that there is. -/
def GoodE (e : E7) : Prop := e.wf ∧ okE 13 e = true ∧ wtE e ≤ 1048576 ∧ ∃ (w : World) (d : Nat) (u : Value) (F : List Nat), KidsIs w d u e.ks F
def RowV (vs : List V3) : Prop := ∀ x ∈ vs, goodV x
end Go.Proofs.YtaeibfipcenhaaaGreatDoor
namespace Go.Proofs.YtaeibfipcenhaaaGreatDoor
open Go.RowKit
set_option linter.unusedVariables false
set_option linter.unusedSimpArgs false
/-- whether all columns of an expression are below W. -/
def colsBelow (W : Int) : Nat → E7 → Bool
  | 0, _ => true
  | f + 1, e => (e.k != 0 || decide (e.n < W)) && e.ks.all (colsBelow W f)
/-- whether an expression is right, with columns below W. -/
def belowE (e : E7) (W : Int) : Bool := okE 13 e && colsBelow W 13 e
theorem colsBelow_iff (W : Int) : ∀ (f : Nat) (e : E7) (w : World) (d : Nat) (u : Value) (F : List Nat), KidsIs w d u e.ks F → okE f e = true → (colsBelow W f e = true ↔ ∀ x ∈ colsL d e, x < W)
  | 0, _, _, _, _, _, _, h => by cases h
  | f + 1, e, w, d, u, F, hk, h => by
    simp only [okE, Bool.and_eq_true, List.all_eq_true] at h
    obtain ⟨d, rfl⟩ := hk.succ
    have ih : ∀ k ∈ e.ks, (colsBelow W f k = true ↔ ∀ x ∈ colsL d k, x < W) := fun k hkm => by
      obtain ⟨_, u', F', hK⟩ := kid_of hk hkm
      exact colsBelow_iff W f k w d u' F' hK (h.2 k hkm)
    simp only [colsBelow, Bool.and_eq_true, Bool.or_eq_true, bne_iff_ne, decide_eq_true_eq, List.all_eq_true]
    constructor
    · rintro ⟨h1, h2⟩ x hx
      rcases mem_colsL.1 hx with ⟨h0, rfl⟩ | ⟨k, hkm, hxk⟩
      · exact h1.elim (fun h => absurd h0 h) id
      · exact (ih k hkm).1 (h2 k hkm) x hxk
    · intro hx
      refine ⟨?_, fun k hkm => (ih k hkm).2 fun x hxk => hx x (mem_colsL.2 (.inr ⟨k, hkm, hxk⟩))⟩
      by_cases h0 : e.k = 0
      · exact .inr (hx _ (mem_colsL.2 (.inl ⟨h0, rfl⟩)))
      · exact .inl h0
theorem asc_last {l : List Int} (h : l.Pairwise (· < ·)) {W : Int} (hn : l ≠ []) : (∀ x ∈ l, x < W) ↔ l.getLast hn < W := by
  constructor
  · intro hx; exact hx _ (List.getLast_mem hn)
  · intro hl x hx
    have : l = l.dropLast ++ [l.getLast hn] := (List.dropLast_concat_getLast hn).symm
    rw [this] at h hx
    rcases List.mem_append.1 hx with hx | hx
    · have := (List.pairwise_append.1 h).2.2 x hx _ (List.mem_singleton.2 rfl)
      omega
    · rw [List.mem_singleton.1 hx]; exact hl
/-- whether an expression is the zero value. -/
def noneE (e : E7) : Bool := e.k == 0 && (e.n == 0 && (zeroV e.v && (e.p.toList == [] && e.ks.length == 0)))
/-- how many kids a kind has. -/
def kidsK (k : Int) : Int := if k = 0 then 0 else if k = 1 then 1 else if k = 2 then 1 else if k = 3 then 2 else if k = 4 then 2 else if k = 5 then 1 else if k = 6 then 1 else -1
/-- whether a plan has of what its kind has not nothing. -/
def formP (p : P12) : Bool := (p.k == 0 || p.s.toList == []) && ((p.k == 1 || p.k == 3 || noneE p.e) && ((p.k == 2 || p.k == 6 || p.es.length == 0) && ((p.k == 6 || p.n == 0) && ((p.ks.length : Int) == kidsK p.k))))
def relW (rs : List R3) (s : ByteArray) : Int := match relOf rs s with
  | none => 0
  | some x => x.W
/-- how many columns a plan has whose kids have v and u. -/
def outW (rs : List R3) (p : P12) (v u : Int) : Int :=
  if p.k = 0 then relW rs p.s else if p.k = 2 then (p.es.length : Int) else if p.k = 3 then v + u else if p.k = 6 then p.n + 1 + (p.es.length : Int) else v
/-- whether the top of a plan is right whose kids have v and u columns. -/
def okTop (rs : List R3) (p : P12) (v u : Int) : Bool :=
  if p.k = 0 then (relOf rs p.s).isSome else if p.k = 1 then belowE p.e v else if p.k = 2 then decide (0 < p.es.length) && p.es.all (belowE · v) else if p.k = 3 then belowE p.e (v + u) else if p.k = 4 then v == u else if p.k = 6 then (decide (0 ≤ p.n) && decide (p.n ≤ v)) && decide (p.es.length ≤ 1) && p.es.all (belowE · v) else true
/-- how many columns a plan's answer has; below 0 for one that is not right. -/
def widthP (rs : List R3) : Nat → P12 → Int
  | 0, _ => -1
  | f + 1, p => if ((formP p && p.ks.all fun q => decide (0 ≤ widthP rs f q)) && (okTop rs p (widthP rs f (p.ks.getD 0 .nil)) (widthP rs f (p.ks.getD 1 .nil)) && decide (outW rs p (widthP rs f (p.ks.getD 0 .nil)) (widthP rs f (p.ks.getD 1 .nil)) ≤ 12))) = true
      then outW rs p (widthP rs f (p.ks.getD 0 .nil)) (widthP rs f (p.ks.getD 1 .nil)) else -1
theorem widthP_le (rs : List R3) (f : Nat) (p : P12) : widthP rs f p ≤ 12 := by
  cases f with
  | zero => unfold widthP; omega
  | succ f =>
    unfold widthP
    split
    · rename_i h; simp only [Bool.and_eq_true, decide_eq_true_eq] at h; exact h.2.2
    · omega
theorem form_kids {p : P12} (h : formP p = true) : (p.ks.length : Int) = kidsK p.k := by
  simp only [formP, Bool.and_eq_true, beq_iff_eq] at h
  exact h.2.2.2.2
theorem kidsK_in {k : Int} (h : 0 ≤ kidsK k) : k = 0 ∨ k = 1 ∨ k = 2 ∨ k = 3 ∨ k = 4 ∨ k = 5 ∨ k = 6 := by
  unfold kidsK at h
  split at h; exact .inl ‹_›
  split at h; exact .inr (.inl ‹_›)
  split at h; exact .inr (.inr (.inl ‹_›))
  split at h; exact .inr (.inr (.inr (.inl ‹_›)))
  split at h; exact .inr (.inr (.inr (.inr (.inl ‹_›))))
  split at h; exact .inr (.inr (.inr (.inr (.inr (.inl ‹_›)))))
  split at h; exact .inr (.inr (.inr (.inr (.inr (.inr ‹_›)))))
  omega
theorem one_kid {l : List P12} (h : (l.length : Int) = 1) : ∃ q, l = [q] := by
  match l, h with
  | [q], _ => exact ⟨q, rfl⟩
theorem two_kids {l : List P12} (h : (l.length : Int) = 2) : ∃ q r, l = [q, r] := by
  match l, h with
  | [q, r], _ => exact ⟨q, r, rfl⟩
theorem no_kid {l : List P12} (h : (l.length : Int) = 0) : l = [] := by
  match l, h with
  | [], _ => rfl
section
variable {rs : List R3} {f : Nat} {p : P12} (h : 0 ≤ widthP rs (f + 1) p)
include h
end
section
variable (V : E7 → List V3 → V3)
/-- whether a key is the one before. -/
def sameKey (p : Option (List V3)) (k : List V3) : Bool := match p with
  | none => false
  | some q => decide (cmpRow q k = 0)
end
end Go.Proofs.YtaeibfipcenhaaaGreatDoor
namespace Go.Proofs.YtaeibfipcenhaaaGreatDoor
open Go.RowKit
set_option linter.unusedVariables false
attribute [local go_sem] ta_nullForm_nullForm ta_nullForm_intForm ta_nullForm_boolForm ta_nullForm_textForm ta_intForm_nullForm ta_intForm_intForm ta_intForm_boolForm ta_intForm_textForm ta_boolForm_nullForm ta_boolForm_intForm ta_boolForm_boolForm ta_boolForm_textForm ta_textForm_nullForm ta_textForm_intForm ta_textForm_boolForm ta_textForm_textForm ta_nil_nullForm ta_nil_intForm ta_nil_boolForm ta_nil_textForm
end Go.Proofs.YtaeibfipcenhaaaGreatDoor
namespace Go.Proofs.YtaeibfipcenhaaaGreatDoor
open Go.RowKit
set_option linter.unusedVariables false
theorem frameWidth_any (k W : Int) (a : Option Addr) (l c : Nat) (w : World) : Calls Tryz.prog 158 #[.agg #[.int .i64 k, .int .i64 W, .slice a l c]] w fun e w' => e = .returned (.int .i64 W) ∧ Below w.heap.size w w' := by
  go_enter Tryz.func158, Tryz.ntmps158
  go_wp2
  go_returns
  exact ⟨rfl, by repeat (first | (with_reducible exact Below.refl _ _) | (with_reducible refine Below.drew ?_) | (with_reducible refine Below.alloc ?_ ?hh _; case hh => first | (simp; done) | (simp; omega) | omega) | (with_reducible refine Below.setCell ?_ ?hh _; case hh => first | (simp; done) | (simp; omega) | omega) | refine bstep (by assumption) (by first | (simp; done) | (simp; omega) | omega) ?_)⟩
end Go.Proofs.YtaeibfipcenhaaaGreatDoor
