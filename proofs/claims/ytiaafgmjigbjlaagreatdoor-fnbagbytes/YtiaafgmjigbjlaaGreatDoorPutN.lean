/- Own text. The bytes of a number (numL), and the contract of numberBytes: what it answers owns them, in new memory. -/
import Derived.Test.YtiaafgmjigbjlaaGreatDoorKit
import Derived.Handy
import Derived.Laws.Bits64b
import Derived.OwnWalk
import Derived.Lib.SmallJoins
namespace Go.Proofs.YtiaafgmjigbjlaaGreatDoor
open Go.RowKit
set_option linter.unusedVariables false
theorem info5 : (Tryz.prog.info? 5).map (fun i => (i.zero, i.size, i.bytes)) = some (some (.int .u8 0), 1, 1) := by kernel_rfl
/-- the byte at place j of the eight of a number. -/
def numB (n : Int) (j : Nat) : Int := IntKind.u64.wrap n / 2 ^ (8 * (7 - j)) % 256
/-- the first j of them, behind the kind. -/
def numL (n : Int) (j : Nat) : List Int := 1 :: (List.range j).map (numB n)
theorem numL_len (n : Int) (j : Nat) : (numL n j).length = 1 + j := by simp [numL]; omega
theorem numL_succ (n : Int) (j : Nat) : numL n (j + 1) = numL n j ++ [numB n j] := by simp [numL, List.range_succ]
theorem own_start (w : World) (x : Int) : (w.alloc (Obj.cells #[Value.int .u8 x] 5)).ownsRow w.heap.size 5 1 (.slice (some ⟨w.heap.size, 0, none⟩) 1 1) 1 ([x].map (Value.int .u8)) := by
  refine ⟨rfl, .inr ⟨w.heap.size, 1, #[Value.int .u8 x], rfl, Nat.le_refl _, heap_alloc_new w _, Nat.le_refl _, by unfold maxLen; decide, rfl, rfl⟩⟩
theorem own_grow {w wr w1 : World} {v : Value} {o : Obj} {B n : Nat} {xs : List Value} (hown : wr.ownsRow B 5 1 v n xs) (hbel : Below B w wr) (hB : B ≤ wr.heap.size) (hg : (wr.alloc o).grownBy w1 v.ownBlock) : Below B w w1 := by
  refine Below.grown (hbel.alloc hB o) hg (by simp; omega) ?_
  intro k hk
  rcases hown.2 with ⟨hv, _⟩ | ⟨g, cap, cur, hv, hb, _⟩
  · rw [hv] at hk; simp [Value.ownBlock] at hk
  · rw [hv] at hk; simp [Value.ownBlock] at hk; omega
set_option maxHeartbeats 2000000 in
set_option maxRecDepth 100000 in
theorem numberBytes_any (n : Int) (w : World)  :
    Calls Tryz.prog 18 #[.int .i64 n] w fun e w' => ∃ v, e = .returned v ∧ w'.ownsRow w.heap.size 5 1 v 9 ((numL n 8).map (Value.int .u8)) ∧ Below w.heap.size w w' := by
  obtain ⟨i0, hi, hz0, hz1, hz2⟩ := info_parts info5
  go_enter Tryz.func18, Tryz.ntmps18
  go_wp2
  go_loopw [3, 4] (fun v i wr => ∃ j : Nat, j ≤ 8 ∧ i = .int .i64 (7 - (j : Int)) ∧ wr.ownsRow w.heap.size 5 1 v (1 + j) ((numL n j).map (Value.int .u8)) ∧ Below w.heap.size w wr) (fun _ i _ => (intOf i + 1).toNat)
  case atStart => exact ⟨0, by omega, rfl, own_start w 1, (Below.refl _ _).alloc (Nat.le_refl _) _⟩
  case round =>
    obtain ⟨j, hj, rfl, hown, hbel⟩ := hrel
    have hB := hbel.size
    by_cases hlt : j < 8
    · go_wp2_with (at_builtin; refine wpList_append_own _ rfl _ _ 22 rfl w.heap.size 5 i0 (.int .u8 0) 1 1 Tryz.underlying22 hi hz0 hz1 hz2 rfl (by decide) _ _ _ rfl (hown.alloc _) ⟨wr.heap.size, 0, none⟩ 1 1 [.int .u8 (IntKind.u64.wrap n / 2 ^ (8 * (7 - j)) % 256)] rfl rfl ?c1 ?c2 ?c3 ?c4 ?c5 ?_)
      case c1 =>
        intro q u hq
        match q, hq with
        | 0, hq => simp at hq; subst hq; simp [Addr.add]
      case c2 => intro u hu; simp at hu; subst hu; rfl
      case c3 => unfold maxLen; omega
      case c4 => omega
      case c5 => simp; omega
      · intro v' w1 hown' hgrow _
        have R1 : w1.ownsRow w.heap.size 5 1 v' (1 + (j + 1)) ((numL n (j + 1)).map (Value.int .u8)) := by
          rw [numL_succ, List.map_append]; exact hown'
        have R2 := own_grow hown hbel hB hgrow
        clear hown' hgrow hown
        go_wp2
        go_roundw
        case rel => exact ⟨j + 1, by omega, by go_num, R1, R2⟩
        case measure => simp [intOf]; omega
    · have hj8 : j = 8 := by omega
      subst hj8
      go_wp2
      go_returns
      exact ⟨_, rfl, hown, hbel⟩
end Go.Proofs.YtiaafgmjigbjlaaGreatDoor
