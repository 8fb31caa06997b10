/- Own texts, joined: contracts that the law's proof goes by. -/
import Derived.Test.YtaeibfipcenhaaaGreatDoorGLViewsOk1
import Derived.Test.YtaeibfipcenhaaaGreatDoorGLViewsOk2
import Derived.Handy
import Derived.Test.YtaeibfipcenhaaaGreatDoorGLViewsOk25
import Derived.Deep.RegionHeld3
import Derived.Test.YtaeibfipcenhaaaGreatDoorGLViewsOk36
import Derived.Deep.QuietTactic
import Derived.BigQuiet
namespace Go.Proofs.YtaeibfipcenhaaaGreatDoor
open Go.RowKit Go.Deep
set_option linter.unusedVariables false
/-- whether two values are the same. -/
def sameV (a b : V3) : Bool := a.k == b.k && (a.n == b.n && a.s.toList == b.s.toList)
end Go.Proofs.YtaeibfipcenhaaaGreatDoor
namespace Go.Proofs.YtaeibfipcenhaaaGreatDoor
open Go.RowKit
set_option linter.unusedVariables false
/-- whether the tops of two expressions are the same, and have as many kids. -/
def topB (a b : E7) : Bool := a.k == b.k && (a.n == b.n && (sameV a.v b.v && (a.p.toList == b.p.toList && a.ks.length == b.ks.length)))
/-- whether two expressions are the same, down to depth d. -/
def sameD : Nat → E7 → E7 → Bool
  | 0, _, _ => true
  | d + 1, a, b => topB a b && (a.ks.zip b.ks).all fun p => sameD d p.1 p.2
def sameL (d : Nat) (xs ys : List E7) : Bool := (xs.zip ys).all fun p => sameD d p.1 p.2
theorem sameD_eq (d : Nat) (a b : E7) : sameD (d + 1) a b = (topB a b && sameL d a.ks b.ks) := rfl
end Go.Proofs.YtaeibfipcenhaaaGreatDoor
namespace Go.Proofs.YtaeibfipcenhaaaGreatDoor
open Go.RowKit
set_option linter.unusedVariables false
/-- the pointer to cell q of block b points at the expression e, whose kids are at most d deep and lie in the blocks F. -/
def PtE (w : World) (d b q : Nat) (e : E7) (F : List Nat) : Prop := b < w.heap.size ∧ cellsE w b q e ∧ ∃ u, w.cell? ⟨b, q + 6, none⟩ = some u ∧ KidsIs w d u e.ks F
theorem PtE.below {w w' : World} {d b q : Nat} {e : E7} {F : List Nat} (h : PtE w d b q e F) (hb : Below w.heap.size w w') : PtE w' d b q e F := by
  obtain ⟨hl, hc, u, hu, hk⟩ := h
  exact ⟨Nat.lt_of_lt_of_le hl hb.size, hc.keep (hb.block b hl), u, (hb.cell (p := ⟨b, _, none⟩) hl).trans hu, hk.below hb⟩
theorem topB_n1 {e f : E7} (h : (e.k == f.k) = false) : topB e f = false := by unfold topB; rw [h, Bool.false_and]
theorem topB_n2 {e f : E7} (h : (e.n == f.n) = false) : topB e f = false := by unfold topB; rw [h, Bool.false_and, Bool.and_false]
theorem topB_n3 {e f : E7} (h : (e.v.k == f.v.k && (e.v.n == f.v.n && e.v.s.toList == f.v.s.toList)) = false) : topB e f = false := by unfold topB sameV; rw [h, Bool.false_and, Bool.and_false, Bool.and_false]
theorem topB_n4 {e f : E7} (h : (e.p.toList == f.p.toList) = false) : topB e f = false := by unfold topB; rw [h, Bool.false_and, Bool.and_false, Bool.and_false, Bool.and_false]
theorem topB_n5 {e f : E7} (h : ((e.ks.length : Int) == (f.ks.length : Int)) = false) : topB e f = false := by
  unfold topB
  rw [show (e.ks.length == f.ks.length) = false from by simp at h ⊢; omega, Bool.and_false, Bool.and_false, Bool.and_false, Bool.and_false]
theorem topB_y {e f : E7} (h1 : (e.k == f.k) = true) (h2 : (e.n == f.n) = true) (h3 : (e.v.k == f.v.k && (e.v.n == f.v.n && e.v.s.toList == f.v.s.toList)) = true) (h4 : (e.p.toList == f.p.toList) = true) (h5 : ((e.ks.length : Int) == (f.ks.length : Int)) = true) : topB e f = true := by
  unfold topB sameV
  rw [h1, h2, h3, h4, show (e.ks.length == f.ks.length) = true from by simp at h5 ⊢; omega]
  rfl
set_option maxHeartbeats 4000000 in
set_option maxRecDepth 100000 in
theorem sameNode_any (d d' b q b' q' : Nat) (e f : E7) (F F' : List Nat) (w : World) (h : PtE w d b q e F) (h' : PtE w d' b' q' f F') :
    Calls Tryz.prog 94 #[.pointer (some ⟨b, q, none⟩), .pointer (some ⟨b', q', none⟩)] w fun x w' => x = .returned (.bool (topB e f)) ∧ Below w.heap.size w w' := by
  obtain ⟨hl, ⟨c0, c1, c2, c3, c4, c5⟩, u, c6, hk⟩ := h
  obtain ⟨hl', ⟨d0, d1, d2, d3, d4, d5⟩, u', d6, hk'⟩ := h'
  obtain ⟨a, c, rfl, _, hc⟩ := hk.shape
  obtain ⟨a', c', rfl, _, hc'⟩ := hk'.shape
  unfold maxLen at hc hc'
  have hq := eqV
  clear hk hk'
  by_cases h1 : (e.k == f.k) = true
  rotate_left
  · replace h1 : (e.k == f.k) = false := by simpa only [Bool.not_eq_true] using h1
    have ht : Hid (topB e f = false) := topB_n1 h1
    go_enter Tryz.func94, Tryz.ntmps94
    go_wp2_with fail
    go_quiet (fail)
    go_wp2
    go_returns
    exact ⟨ret_bool (by rw [ht.out]), below_drewN _ _⟩
  by_cases h2 : (e.n == f.n) = true
  rotate_left
  · replace h2 : (e.n == f.n) = false := by simpa only [Bool.not_eq_true] using h2
    have ht : Hid (topB e f = false) := topB_n2 h2
    go_enter Tryz.func94, Tryz.ntmps94
    go_wp2_with fail
    go_quiet (fail)
    go_wp2
    go_returns
    exact ⟨ret_bool (by rw [ht.out]), below_drewN _ _⟩
  by_cases h3 : (e.v.k == f.v.k && (e.v.n == f.v.n && e.v.s.toList == f.v.s.toList)) = true
  rotate_left
  · replace h3 : (e.v.k == f.v.k && (e.v.n == f.v.n && e.v.s.toList == f.v.s.toList)) = false := by simpa only [Bool.not_eq_true] using h3
    have ht : Hid (topB e f = false) := topB_n3 h3
    go_enter Tryz.func94, Tryz.ntmps94
    go_wp2_with fail
    go_quiet (fail)
    go_wp2
    go_returns
    exact ⟨ret_bool (by rw [ht.out]), below_drewN _ _⟩
  by_cases h4 : (e.p.toList == f.p.toList) = true
  rotate_left
  · replace h4 : (e.p.toList == f.p.toList) = false := by simpa only [Bool.not_eq_true] using h4
    have ht : Hid (topB e f = false) := topB_n4 h4
    go_enter Tryz.func94, Tryz.ntmps94
    go_wp2_with fail
    go_quiet (fail)
    go_wp2
    go_returns
    exact ⟨ret_bool (by rw [ht.out]), below_drewN _ _⟩
  by_cases h5 : ((e.ks.length : Int) == (f.ks.length : Int)) = true
  rotate_left
  · replace h5 : ((e.ks.length : Int) == (f.ks.length : Int)) = false := by simpa only [Bool.not_eq_true] using h5
    have ht : Hid (topB e f = false) := topB_n5 h5
    go_enter Tryz.func94, Tryz.ntmps94
    go_wp2_with fail
    go_quiet (fail)
    go_wp2
    go_returns
    exact ⟨ret_bool (by rw [ht.out]), below_drewN _ _⟩
  have ht : Hid (topB e f = true) := topB_y h1 h2 h3 h4 h5
  go_enter Tryz.func94, Tryz.ntmps94
  go_wp2_with fail
  go_quiet (fail)
  go_wp2
  go_returns
  exact ⟨ret_bool (by rw [ht.out]), below_drewN _ _⟩
set_option maxHeartbeats 1000000 in
theorem kidsOfExp_any (b q : Nat) (u : Value) (w : World) (hl : b < w.heap.size) (h : w.cell? ⟨b, q + 6, none⟩ = some u) :
    Calls Tryz.prog 95 #[.pointer (some ⟨b, q, none⟩)] w fun x w' => x = .returned (.pointer (some ⟨b, q + 6, none⟩)) ∧ w' = w := by
  go_enter Tryz.func95, Tryz.ntmps95
  go_wp2
  go_returns
  exact ⟨rfl, rfl⟩
end Go.Proofs.YtaeibfipcenhaaaGreatDoor
