/- Own text. The walk of FnValue, of any bytes. -/
import Derived.Test.YtpapmmfcjoillaaDoorWFnValue
namespace Go.Proofs.YtpapmmfcjoillaaDoor.fnValue
open Go.RowKit Go.Deep
set_option linter.unusedVariables false
set_option maxHeartbeats 2000000 in
theorem big_wide (a : Option Addr) (l c : Nat) (w : World) (hl : l ≤ 9223372036854775807) : Calls Tryd.prog 4 #[.slice a l c] w fun e w' => e = .returned (.bool (decide ((1048576 : Int) < l))) ∧ w' = w := by
  go_enter Tryd.func4, Tryd.ntmps4
  go_wp2
  go_returns
  exact ⟨rfl, rfl⟩
set_option maxHeartbeats 2000000 in
set_option maxRecDepth 100000 in
theorem walk (v : Value) (w : World) (h : ∃ (a : Option Addr) (l c : Nat), v = .slice a l c ∧ l ≤ c ∧ c ≤ maxLen ∧ ∀ j, j < l → ∃ b o, a = some ⟨b, o, none⟩ ∧ b < w.heap.size ∧ ∃ x : Int, 0 ≤ x ∧ x ≤ 255 ∧ w.cell? ⟨b, o + j, none⟩ = some (.int .u8 x)) (hE : Env w) :
    Calls Tryd.prog 3 #[v] w fun x w' => x = .returned (.bool true) ∧ Below w.heap.size w w' := by
  obtain ⟨a, l, c, rfl, hlc, hc, hb⟩ := h
  by_cases hl : l ≤ 1048576
  · exact walk_small a l c w ⟨a, c, rfl, hlc, hl, hb⟩ hE
  have hd : decide ((1048576 : Int) < l) = true := by simp; omega
  unfold maxLen at hc
  clear hE hb
  go_enter Tryd.func3, Tryd.ntmps3
  go_wp2_with fail
  refine (big_wide a l c _ (by omega)).mono ?_
  rintro x w ⟨rfl, rfl⟩
  rw [hd]
  clear hd
  go_wp2
  go_returns
  exact ⟨rfl, Below.refl _ _⟩
end Go.Proofs.YtpapmmfcjoillaaDoor.fnValue
