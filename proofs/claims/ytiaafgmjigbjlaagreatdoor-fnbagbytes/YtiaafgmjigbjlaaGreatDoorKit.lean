/- Own text. Small helps for the walks: a world that lies below another one keeps the older cells; the plain functions that the contracts of the values name. -/
import Derived.Test.YtiaafgmjigbjlaaGreatDoorProg
import Derived.WalkKit
import Derived.WalkSpells
import Derived.WalkLawsBesides
import Derived.Below
namespace Go.Proofs.YtiaafgmjigbjlaaGreatDoor
open Go.RowKit
set_option linter.unusedVariables false
theorem bcell {W w1 : World} (hb : Below W.heap.size W w1) : (∀ b o, b < W.heap.size → w1.cell? ⟨b, o, none⟩ = W.cell? ⟨b, o, none⟩) ∧ (∀ b o, b < W.heap.size → w1.frozen? ⟨b, o, none⟩ = W.frozen? ⟨b, o, none⟩) :=
  ⟨fun b o h => hb.cell (p := ⟨b, o, none⟩) h, fun b o h => hb.frozen (p := ⟨b, o, none⟩) h⟩
theorem bstep {w a b : World} (h : Below a.heap.size a b) (hw : w.heap.size ≤ a.heap.size) (g : Below w.heap.size w a) : Below w.heap.size w b := g.trans (h.mono hw)
/-- what szValue makes of what is left. -/
def szV (s : ByteArray) (left : Int) : Int := if left - s.size < 0 then -1 else left - s.size
theorem szV_bd (s : ByteArray) (left : Int) (h0 : -1 ≤ left) (h1 : left ≤ 1048576) : -1 ≤ szV s left ∧ szV s left ≤ 1048576 := by unfold szV; split <;> omega
theorem szV_small (s : ByteArray) (left : Int) (h : 0 ≤ szV s left) : (s.size : Int) ≤ left := by unfold szV at h; split at h <;> omega
theorem ret_int {a b : Int} (h : a = b) : Ending.returned (.int .i64 a) = .returned (.int .i64 b) := by rw [h]
theorem ret_bool {a b : Bool} (h : a = b) : Ending.returned (.bool a) = .returned (.bool b) := by rw [h]
theorem wrap64_byte (c : UInt8) : wrap64 (c.toNat : Int) = c.toNat := by have := c.toNat_lt; unfold wrap64; omega
/-- the number of a bool. -/
def bn (b : Bool) : Int := if b then 1 else 0
end Go.Proofs.YtiaafgmjigbjlaaGreatDoor
