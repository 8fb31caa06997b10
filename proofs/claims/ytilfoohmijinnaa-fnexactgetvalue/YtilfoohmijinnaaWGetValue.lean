/- Own text. The walk: For every argument, whatever memory it lies in, the statement's function on GetValue returns true, and each argument reads afterwards as it read before; no condition. -/
import Derived.Test.YtilfoohmijinnaaGetJ
import Derived.Test.YtilfoohmijinnaaEqV
import Derived.WalkKit
import Derived.WalkSpells
import Derived.WalkLawsBesides
import Derived.Handy
import Derived.Below
namespace Go.Proofs.Ytilfoohmijinnaa.fnExactGetValue
open Go.RowKit
set_option linter.unusedVariables false
theorem get_both (s : ByteArray) (i : Int) (hs : s.size ≤ 1048576) : ∃ (k n : Int) (x : ByteArray) (j : Int),
    (∀ w, Calls Try.prog 33 #[.string s, .int .i64 i] w fun e w' => e = .returned (.tuple #[(.agg #[.int .i64 k, .int .i64 n, .string x]), .int .i64 j]) ∧ Below w.heap.size w w') ∧
    (∀ w, Calls Try.prog 34 #[.string s, .int .i64 i] w fun e w' => e = .returned (.tuple #[(.agg #[.int .i64 k, .int .i64 n, .string x]), .int .i64 j]) ∧ Below w.heap.size w w') :=
  ⟨_, _, _, _, fun w => specGet_any s i w hs, fun w => implGet_any s i w hs⟩
set_option maxHeartbeats 2000000 in
set_option maxRecDepth 100000 in
theorem walk (s : ByteArray) (hs0 : s.size ≤ maxLen) (i : Int) (hi : (Lit.int .i64 i).wf = true) (w : World) :
    Calls Try.prog 11 #[.string s, .int .i64 i] w fun e w' => e = .returned (.bool true) ∧ Below w.heap.size w w' := by
  have hs := hs0
  unfold maxLen at hs
  clear hi
  by_cases hbig : (1048576 : Int) < s.size
  · go_enter Try.func11, Try.ntmps11
    go_wp2_with fail
    go_returns
    exact ⟨rfl, Below.refl _ _⟩
  · have hsm : s.size ≤ 1048576 := by omega
    obtain ⟨k, n, x, j, HS0, HI0⟩ := get_both s i hsm
    have HS : Hid (∀ w, Calls Try.prog 33 #[.string s, .int .i64 i] w fun e w' => e = .returned (.tuple #[(.agg #[.int .i64 k, .int .i64 n, .string x]), .int .i64 j]) ∧ Below w.heap.size w w') := HS0
    have HI : Hid (∀ w, Calls Try.prog 34 #[.string s, .int .i64 i] w fun e w' => e = .returned (.tuple #[(.agg #[.int .i64 k, .int .i64 n, .string x]), .int .i64 j]) ∧ Below w.heap.size w w') := HI0
    clear HS0 HI0
    go_enter Try.func11, Try.ntmps11
    go_wp2_with fail
    refine (HS.out _).mono ?_
    rintro e w1 ⟨rfl, hb1⟩
    have hz1 := hb1.size
    go_wp2_with fail
    refine (HI.out _).mono ?_
    rintro e w2 ⟨rfl, hb2⟩
    have hz2 := hb2.size
    simp only [World.size_alloc] at hz2
    have hy2 : w1.heap.size < w2.heap.size := by omega
    have qa : w2.cell? ⟨w1.heap.size, 0, none⟩ = some (.int .i64 k) := cell_later hb2 (by go_simp)
    have qb : w2.cell? ⟨w1.heap.size, 1, none⟩ = some (.int .i64 n) := cell_later hb2 (by go_simp)
    have qc : w2.cell? ⟨w1.heap.size, 2, none⟩ = some (.string x) := cell_later hb2 (by go_simp)
    go_wp2_with fail
    refine (eqValue_same _ _ _ _).mono ?_
    rintro e w3 ⟨rfl, hb3⟩
    have hz3 := hb3.size
    simp only [World.size_alloc] at hz3
    go_wp2_with fail
    go_returns
    refine ⟨rfl, ?_⟩
    repeat (first | exact Below.refl _ _ | refine Below.drew ?_ | refine Below.alloc ?_ (by first | (simp; done) | (simp; omega) | omega) _ | refine Below.setCell ?_ (by first | (simp; done) | (simp; omega) | omega) _ | refine bstep (by assumption) (by first | (simp; done) | (simp; omega) | omega) ?_)
end Go.Proofs.Ytilfoohmijinnaa.fnExactGetValue
