/- Own text. The walk of FnReckon, of any bytes. -/
import Derived.Test.YtlakhcmbalcclaaWFnReckon
namespace Go.Proofs.Ytlakhcmbalcclaa.fnReckon
open Go.RowKit Go.Deep
set_option linter.unusedVariables false
set_option maxHeartbeats 2000000 in
theorem big_wide (a : Option Addr) (l c : Nat) (w : World) (hl : l ≤ 9223372036854775807) : Calls Try.prog 4 #[.slice a l c] w fun e w' => e = .returned (.bool (decide ((1048576 : Int) < l))) ∧ w' = w := by
  go_enter Try.func4, Try.ntmps4
  go_wp2
  go_returns
  exact ⟨rfl, rfl⟩
set_option maxHeartbeats 2000000 in
set_option maxRecDepth 100000 in
theorem walk (v : Value) (m : Int) (w : World) (h : ∃ (a : Option Addr) (l c : Nat), v = .slice a l c ∧ l ≤ c ∧ c ≤ maxLen ∧ ∀ j, j < l → ∃ b o, a = some ⟨b, o, none⟩ ∧ b < w.heap.size ∧ ∃ x : Int, 0 ≤ x ∧ x ≤ 255 ∧ w.cell? ⟨b, o + j, none⟩ = some (.int .u8 x)) (hm : w.cell? ⟨0, 0, none⟩ = some (.int .i64 m)) :
    Calls Try.prog 3 #[v] w fun x w' => x = .returned (.bool true) ∧ Below w.heap.size w w' := by
  obtain ⟨a, l, c, rfl, hlc, hc, hb⟩ := h
  by_cases hl : l ≤ 1048576
  · exact walk_small a l c m w ⟨a, c, rfl, hlc, hl, hb⟩ hm
  have hd : decide ((1048576 : Int) < l) = true := by simp; omega
  unfold maxLen at hc
  clear hm hb
  go_enter Try.func3, Try.ntmps3
  go_wp2_with fail
  refine (big_wide a l c _ (by omega)).mono ?_
  rintro x w ⟨rfl, rfl⟩
  rw [hd]
  clear hd
  go_wp2
  go_returns
  exact ⟨rfl, Below.refl _ _⟩
end Go.Proofs.Ytlakhcmbalcclaa.fnReckon
