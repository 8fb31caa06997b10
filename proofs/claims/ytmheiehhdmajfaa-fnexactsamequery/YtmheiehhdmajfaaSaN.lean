/- Own text. What a pointer to an expression points at; the contracts of impl.sameAstNode and impl.kidsOfAst. -/
import Derived.Test.YtmheiehhdmajfaaSaS
import Derived.Test.YtmheiehhdmajfaaFrK
import Derived.Handy
import Derived.Deep.QuietTactic
import Derived.BigQuiet
namespace Go.Proofs.Ytmheiehhdmajfaa
open Go.RowKit
set_option linter.unusedVariables false
/-- the pointer to cell q of block b points at the expression e, whose kids are at most d deep and lie in the blocks F. -/
def PtEA (w : World) (d b q : Nat) (e : A6) (F : List Nat) : Prop := b < w.heap.size ∧ cellsA w b q e ∧ ∃ u, w.cell? ⟨b, q + 5, none⟩ = some u ∧ AstsIs w d u e.ks F
theorem PtEA.below {w w' : World} {d b q : Nat} {e : A6} {F : List Nat} (h : PtEA w d b q e F) (hb : Below w.heap.size w w') : PtEA w' d b q e F := by
  obtain ⟨hl, hc, u, hu, hk⟩ := h
  exact ⟨Nat.lt_of_lt_of_le hl hb.size, hc.keep (hb.block b hl), u, (hb.cell (p := ⟨b, _, none⟩) hl).trans hu, hk.below hb⟩
theorem topBA_n {e f : A6} (h : headA e f = false) : topBA e f = false := by unfold topBA; rw [h, Bool.false_and]
theorem topBA_n5 {e f : A6} (h : ((e.ks.length : Int) == (f.ks.length : Int)) = false) : topBA e f = false := by
  unfold topBA
  rw [show (e.ks.length == f.ks.length) = false from by simp at h ⊢; omega, Bool.and_false]
theorem topBA_y {e f : A6} (h : headA e f = true) (h5 : ((e.ks.length : Int) == (f.ks.length : Int)) = true) : topBA e f = true := by
  unfold topBA
  rw [h, show (e.ks.length == f.ks.length) = true from by simp at h5 ⊢; omega]
  rfl
set_option maxHeartbeats 4000000 in
set_option maxRecDepth 100000 in
theorem sameNode_anyA (d d' b q b' q' : Nat) (e f : A6) (F F' : List Nat) (w : World) (h : PtEA w d b q e F) (h' : PtEA w d' b' q' f F') :
    Calls Try.prog 32 #[.pointer (some ⟨b, q, none⟩), .pointer (some ⟨b', q', none⟩)] w fun x w' => x = .returned (.bool (topBA e f)) ∧ Below w.heap.size w w' := by
  obtain ⟨hl, ⟨c0, c1, c2, c3, c4⟩, u, c5, hk⟩ := h
  obtain ⟨hl', ⟨d0, d1, d2, d3, d4⟩, u', d5, hk'⟩ := h'
  obtain ⟨a, c, rfl, _, hc⟩ := hk.shape
  obtain ⟨a', c', rfl, _, hc'⟩ := hk'.shape
  unfold maxLen at hc hc'
  have hq := eqV
  clear hk hk'
  by_cases h1 : (e.k == f.k) = true
  rotate_left
  · replace h1 : (e.k == f.k) = false := by simpa only [Bool.not_eq_true] using h1
    have ht : Hid (topBA e f = false) := topBA_n (headA_n1 h1)
    go_enter Try.func32, Try.ntmps32
    go_wp2_with fail
    go_quiet (fail)
    go_wp2
    go_returns
    exact ⟨ret_bool (by rw [ht.out]), below_drewN _ _⟩
  by_cases h2 : (e.p.toList == f.p.toList) = true
  rotate_left
  · replace h2 : (e.p.toList == f.p.toList) = false := by simpa only [Bool.not_eq_true] using h2
    have ht : Hid (topBA e f = false) := topBA_n (headA_n2 h2)
    go_enter Try.func32, Try.ntmps32
    go_wp2_with fail
    go_quiet (fail)
    go_wp2
    go_returns
    exact ⟨ret_bool (by rw [ht.out]), below_drewN _ _⟩
  by_cases h3 : (e.v.k == f.v.k && (e.v.n == f.v.n && e.v.s.toList == f.v.s.toList)) = true
  rotate_left
  · replace h3 : (e.v.k == f.v.k && (e.v.n == f.v.n && e.v.s.toList == f.v.s.toList)) = false := by simpa only [Bool.not_eq_true] using h3
    have ht : Hid (topBA e f = false) := topBA_n (headA_n3 h3)
    go_enter Try.func32, Try.ntmps32
    go_wp2_with fail
    go_quiet (fail)
    go_wp2
    go_returns
    exact ⟨ret_bool (by rw [ht.out]), below_drewN _ _⟩
  by_cases h5 : ((e.ks.length : Int) == (f.ks.length : Int)) = true
  rotate_left
  · replace h5 : ((e.ks.length : Int) == (f.ks.length : Int)) = false := by simpa only [Bool.not_eq_true] using h5
    have ht : Hid (topBA e f = false) := topBA_n5 h5
    go_enter Try.func32, Try.ntmps32
    go_wp2_with fail
    go_quiet (fail)
    go_wp2
    go_returns
    exact ⟨ret_bool (by rw [ht.out]), below_drewN _ _⟩
  have ht : Hid (topBA e f = true) := topBA_y (headA_y h1 h2 h3) h5
  go_enter Try.func32, Try.ntmps32
  go_wp2_with fail
  go_quiet (fail)
  go_wp2
  go_returns
  exact ⟨ret_bool (by rw [ht.out]), below_drewN _ _⟩
set_option maxHeartbeats 1000000 in
theorem kidsOfExp_anyA (b q : Nat) (u : Value) (w : World) (hl : b < w.heap.size) (h : w.cell? ⟨b, q + 5, none⟩ = some u) :
    Calls Try.prog 33 #[.pointer (some ⟨b, q, none⟩)] w fun x w' => x = .returned (.pointer (some ⟨b, q + 5, none⟩)) ∧ w' = w := by
  go_enter Try.func33, Try.ntmps33
  go_wp2
  go_returns
  exact ⟨rfl, rfl⟩
end Go.Proofs.Ytmheiehhdmajfaa
