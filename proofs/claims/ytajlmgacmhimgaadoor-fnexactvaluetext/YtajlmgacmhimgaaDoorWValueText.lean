/- Own text. The walk of the statement on ValueText. -/
import Derived.Test.YtajlmgacmhimgaaDoorVtS
import Derived.Test.YtajlmgacmhimgaaDoorVtI
import Derived.Test.YtajlmgacmhimgaaDoorRowC
import Derived.Test.YtajlmgacmhimgaaDoorToV
import Derived.WalkKit
import Derived.WalkSpells
import Derived.WalkLawsBesides
import Derived.Handy
import Derived.Below
import Derived.Deep.RegionHeld3
import Derived.Deep.DeepCutAuto
namespace Go.Proofs.YtajlmgacmhimgaaDoor.fnExactValueText
open Go.RowKit
set_option linter.unusedVariables false
set_option maxHeartbeats 4000000 in
set_option maxRecDepth 100000 in
theorem wf64 (n : Int) (h : (Lit.int .i64 n).wf = true) : -9223372036854775808 ≤ n ∧ n ≤ 9223372036854775807 := by
  simp only [Lit.wf, IntKind.min, IntKind.max, IntKind.signed, IntKind.bits, Bool.and_eq_true, decide_eq_true_eq, if_true] at h
  omega
set_option maxHeartbeats 2000000 in
set_option maxRecDepth 100000 in
theorem walk (k n : Int) (s : ByteArray) (hk : (Lit.int .i64 k).wf = true) (hn : (Lit.int .i64 n).wf = true) (hs : s.size ≤ maxLen) (w : World) (hE : Env w) :
    Calls Tryd.prog 3 #[(.agg #[.int .i64 k, .int .i64 n, .string s])] w fun e w' => e = .returned (.bool true) ∧ Below w.heap.size w w' := by
  obtain ⟨h0, h1⟩ := wf64 n hn
  clear hk hn
  have hS : Hid (∀ w : World, Calls Tryd.prog 9 #[(.agg #[.int .i64 k, .int .i64 n, .string s])] w fun e w' => e = .returned (.string (bs (vt k n s))) ∧ Below w.heap.size w w') := fun w => specVt_any k n s w hs h0 h1
  have hI : Hid (∀ w' : World, Below w.heap.size w w' → Calls Tryd.prog 11 #[(.agg #[.int .i64 k, .int .i64 n, .string s])] w' fun e w2 => e = .returned (.string (bs (vt k n s))) ∧ Below w'.heap.size w' w2) := fun w' hb => implVt_any k n s w' hs h0 h1 (hE.below hb)
  generalize bs (vt k n s) = r at *
  clear hE
  go_enter Tryd.func3, Tryd.ntmps3
  go_wp2_with fail
  refine (szValue_any k n 1048576 s _ (by decide) (by decide) hs).mono ?_
  generalize szV s 1048576 = z
  rintro e w1 ⟨rfl, hb1⟩
  have hz1 := hb1.size
  simp only [World.size_alloc] at hz1
  have hy1 : w.heap.size < w1.heap.size := by omega
  have qa : w1.cell? ⟨w.heap.size, 0, none⟩ = some (.int .i64 k) := cell_later hb1 (by go_simp)
  have qb : w1.cell? ⟨w.heap.size, 1, none⟩ = some (.int .i64 n) := cell_later hb1 (by go_simp)
  have qc : w1.cell? ⟨w.heap.size, 2, none⟩ = some (.string s) := cell_later hb1 (by go_simp)
  have bel1 : Below w.heap.size w w1 := by repeat (first | (with_reducible exact Below.refl _ _) | (with_reducible refine Below.drew ?_) | (with_reducible refine Below.alloc ?_ ?hh _; case hh => first | (simp; done) | (simp; omega) | omega) | (with_reducible refine Below.setCell ?_ ?hh _; case hh => first | (simp; done) | (simp; omega) | omega) | refine bstep (by assumption) (by first | (simp; done) | (simp; omega) | omega) ?_)
  clear hb1
  by_cases hneg : z < 0
  · go_wp2_with fail
    go_returns
    exact ⟨rfl, bel1⟩
  go_wp2_with fail
  refine (toValue_any k n s _).mono ?_
  rintro e w2 ⟨rfl, hb2⟩
  have ra : w2.cell? ⟨w.heap.size, 0, none⟩ = some (.int .i64 k) := cell_later hb2 qa
  have rb : w2.cell? ⟨w.heap.size, 1, none⟩ = some (.int .i64 n) := cell_later hb2 qb
  have rc : w2.cell? ⟨w.heap.size, 2, none⟩ = some (.string s) := cell_later hb2 qc
  have bel2 : Below w.heap.size w w2 := bel1.trans (hb2.mono bel1.size)
  clear hb2 qa qb qc
  go_wp2_with fail
  refine (hS.out _).mono ?_
  rintro e w3 ⟨rfl, hb3⟩
  have qa : w3.cell? ⟨w.heap.size, 0, none⟩ = some (.int .i64 k) := cell_later hb3 ra
  have qb : w3.cell? ⟨w.heap.size, 1, none⟩ = some (.int .i64 n) := cell_later hb3 rb
  have qc : w3.cell? ⟨w.heap.size, 2, none⟩ = some (.string s) := cell_later hb3 rc
  have bel3 : Below w.heap.size w w3 := bel2.trans (hb3.mono bel2.size)
  clear hb3 ra rb rc
  go_wp2_with fail
  refine (toValue_any k n s _).mono ?_
  rintro e w4 ⟨rfl, hb4⟩
  have bel4 : Below w.heap.size w w4 := bel3.trans (hb4.mono bel3.size)
  clear hb4 qa qb qc
  go_wp2_with fail
  refine (hI.out _ bel4).mono ?_
  rintro e w5 ⟨rfl, hb5⟩
  have bel5 : Below w.heap.size w w5 := bel4.trans (hb5.mono bel4.size)
  clear hb5 hI hS
  go_wp2_with fail
  go_returns
  exact ⟨rfl, bel5⟩
end Go.Proofs.YtajlmgacmhimgaaDoor.fnExactValueText
