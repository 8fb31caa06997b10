/- Own text. What is drawn by a cursor: a number below another, a choice, one of a list. -/
import Derived.Test.YtiaafgmjigbjlaaGreatDoorDrA
import Derived.Handy
namespace Go.Proofs.YtiaafgmjigbjlaaGreatDoor
open Go.RowKit Go.Deep
set_option linter.unusedVariables false
set_option maxHeartbeats 1000000 in
set_option maxRecDepth 100000 in
theorem l01Once_any (n : Int) (B : Nat) (v : Value) (l : Nat) (w : World) (h : Cur w B v l) (h1 : 1 ≤ n) (h2 : n ≤ 256) :
    Calls Tryz.prog 53 #[.pointer (some ⟨B, 0, none⟩), .int .i64 n] w fun e w' => (∃ b : Bool, e = .returned (.bool b)) ∧ Drew B v l w w' := by
  go_enter Tryz.func53, Tryz.ntmps53
  go_wp2_with fail
  refine (l01Below_any n B v l w h h1 h2).mono ?_
  rintro e w1 ⟨⟨x, rfl, x0, x1⟩, hd1⟩
  go_wp2_with fail
  go_returns
  exact ⟨⟨_, rfl⟩, hd1⟩
set_option maxHeartbeats 1000000 in
set_option maxRecDepth 100000 in
theorem l01PickInt_any (P : Int → Prop) (S m c : Nat) (B : Nat) (v : Value) (l : Nat) (w : World) (h : Cur w B v l) (h1 : 1 ≤ m) (h2 : m ≤ 256) (hmc : m ≤ c) (hS : S ≠ B) (hlt : S < w.heap.size) (hx : ∀ j, j < m → ∃ x : Int, w.cell? ⟨S, j, none⟩ = some (.int .i64 x) ∧ P x) :
    Calls Tryz.prog 37 #[.pointer (some ⟨B, 0, none⟩), .slice (some ⟨S, 0, none⟩) m c] w fun e w' => (∃ x : Int, e = .returned (.int .i64 x) ∧ P x) ∧ Drew B v l w w' := by
  go_enter Tryz.func37, Tryz.ntmps37
  go_wp2_with fail
  refine (l01Below_any m B v l w h (by omega) (by omega)).mono ?_
  rintro e w1 ⟨⟨i, rfl, i0, i1⟩, hd1⟩
  obtain ⟨n, rfl⟩ : ∃ n : Nat, i = n := ⟨i.toNat, by omega⟩
  obtain ⟨x, hx1, hP⟩ := hx n (by omega)
  have hx2 : w1.cell? ⟨S, n, none⟩ = some (.int .i64 x) := (cell_blk (hd1.old hlt hS)).trans hx1
  have hnm : n < m := by omega
  clear hx hx1
  go_wp2_with fail
  go_returns
  exact ⟨⟨_, rfl, hP⟩, hd1⟩
set_option maxHeartbeats 1000000 in
set_option maxRecDepth 100000 in
theorem l01Pick_any (P : ByteArray → Prop) (S m c : Nat) (B : Nat) (v : Value) (l : Nat) (w : World) (h : Cur w B v l) (h1 : 1 ≤ m) (h2 : m ≤ 256) (hmc : m ≤ c) (hS : S ≠ B) (hlt : S < w.heap.size) (hx : ∀ j, j < m → ∃ x : ByteArray, w.cell? ⟨S, j, none⟩ = some (.string x) ∧ P x) :
    Calls Tryz.prog 21 #[.pointer (some ⟨B, 0, none⟩), .slice (some ⟨S, 0, none⟩) m c] w fun e w' => (∃ x : ByteArray, e = .returned (.string x) ∧ P x) ∧ Drew B v l w w' := by
  go_enter Tryz.func21, Tryz.ntmps21
  go_wp2_with fail
  refine (l01Below_any m B v l w h (by omega) (by omega)).mono ?_
  rintro e w1 ⟨⟨i, rfl, i0, i1⟩, hd1⟩
  obtain ⟨n, rfl⟩ : ∃ n : Nat, i = n := ⟨i.toNat, by omega⟩
  obtain ⟨x, hx1, hP⟩ := hx n (by omega)
  have hx2 : w1.cell? ⟨S, n, none⟩ = some (.string x) := (cell_blk (hd1.old hlt hS)).trans hx1
  have hnm : n < m := by omega
  clear hx hx1
  go_wp2_with fail
  go_returns
  exact ⟨⟨_, rfl, hP⟩, hd1⟩
end Go.Proofs.YtiaafgmjigbjlaaGreatDoor
