/- Own texts, joined: contracts that the law's proof goes by. -/
import Derived.Test.YtdkbhoichmcodaaMa1
import Derived.Handy
import Derived.Laws.Bits64b
import Derived.OwnWalk
import Derived.Lib.SmallJoins
import Derived.Test.YtdkbhoichmcodaaProg
import Derived.KernelRfl
import Derived.Deep.RegionWith
import Derived.Deep.RegionHeld3
import Derived.Lib.AppendStr
import Derived.Laws.BytesArg
import Derived.Laws.OwnMore
import Derived.Deep.AppendLies
/- Own text. The bytes of a number (numL), and the contract of numberBytes: what it answers owns them, in new memory. -/
namespace Go.Proofs.Ytdkbhoichmcodaa
open Go.RowKit
set_option linter.unusedVariables false
theorem info5 : (Try.prog.info? 5).map (fun i => (i.zero, i.size, i.bytes)) = some (some (.int .u8 0), 1, 1) := by kernel_rfl
/-- the byte at place j of the eight of a number. -/
def numB (n : Int) (j : Nat) : Int := IntKind.u64.wrap n / 2 ^ (8 * (7 - j)) % 256
/-- the first j of them, behind the kind. -/
def numL (n : Int) (j : Nat) : List Int := 1 :: (List.range j).map (numB n)
theorem numL_len (n : Int) (j : Nat) : (numL n j).length = 1 + j := by simp [numL]; omega
theorem numL_succ (n : Int) (j : Nat) : numL n (j + 1) = numL n j ++ [numB n j] := by simp [numL, List.range_succ]
theorem own_start (w : World) (x : Int) : (w.alloc (Obj.cells #[Value.int .u8 x] 5)).ownsRow w.heap.size 5 1 (.slice (some ⟨w.heap.size, 0, none⟩) 1 1) 1 ([x].map (Value.int .u8)) := by
  refine ⟨rfl, .inr ⟨w.heap.size, 1, #[Value.int .u8 x], rfl, Nat.le_refl _, heap_alloc_new w _, Nat.le_refl _, by unfold maxLen; decide, rfl, rfl⟩⟩
theorem own_grow {w wr w1 : World} {v : Value} {o : Obj} {B n : Nat} {xs : List Value} (hown : wr.ownsRow B 5 1 v n xs) (hbel : Below B w wr) (hB : B ≤ wr.heap.size) (hg : (wr.alloc o).grownBy w1 v.ownBlock) : Below B w w1 := by
  refine Below.grown (hbel.alloc hB o) hg (by simp; omega) ?_
  intro k hk
  rcases hown.2 with ⟨hv, _⟩ | ⟨g, cap, cur, hv, hb, _⟩
  · rw [hv] at hk; simp [Value.ownBlock] at hk
  · rw [hv] at hk; simp [Value.ownBlock] at hk; omega
set_option maxHeartbeats 2000000 in
set_option maxRecDepth 100000 in
theorem numberBytes_any (n : Int) (w : World)  :
    Calls Try.prog 117 #[.int .i64 n] w fun e w' => ∃ v, e = .returned v ∧ w'.ownsRow w.heap.size 5 1 v 9 ((numL n 8).map (Value.int .u8)) ∧ Below w.heap.size w w' := by
  obtain ⟨i0, hi, hz0, hz1, hz2⟩ := info_parts info5
  go_enter Try.func117, Try.ntmps117
  go_wp2
  go_loopw [3, 4] (fun v i wr => ∃ j : Nat, j ≤ 8 ∧ i = .int .i64 (7 - (j : Int)) ∧ wr.ownsRow w.heap.size 5 1 v (1 + j) ((numL n j).map (Value.int .u8)) ∧ Below w.heap.size w wr) (fun _ i _ => (intOf i + 1).toNat)
  case atStart => exact ⟨0, by omega, rfl, own_start w 1, (Below.refl _ _).alloc (Nat.le_refl _) _⟩
  case round =>
    obtain ⟨j, hj, rfl, hown, hbel⟩ := hrel
    have hB := hbel.size
    by_cases hlt : j < 8
    · go_wp2_with (at_builtin; refine wpList_append_own _ rfl _ _ 105 rfl w.heap.size 5 i0 (.int .u8 0) 1 1 Try.underlying105 hi hz0 hz1 hz2 rfl (by decide) _ _ _ rfl (hown.alloc _) ⟨wr.heap.size, 0, none⟩ 1 1 [.int .u8 (IntKind.u64.wrap n / 2 ^ (8 * (7 - j)) % 256)] rfl rfl ?c1 ?c2 ?c3 ?c4 ?c5 ?_)
      case c1 =>
        intro q u hq
        match q, hq with
        | 0, hq => simp at hq; subst hq; simp [Addr.add]
      case c2 => intro u hu; simp at hu; subst hu; rfl
      case c3 => unfold maxLen; omega
      case c4 => omega
      case c5 => simp; omega
      · intro v' w1 hown' hgrow _
        have R1 : w1.ownsRow w.heap.size 5 1 v' (1 + (j + 1)) ((numL n (j + 1)).map (Value.int .u8)) := by
          rw [numL_succ, List.map_append]; exact hown'
        have R2 := own_grow hown hbel hB hgrow
        clear hown' hgrow hown
        go_wp2
        go_roundw
        case rel => exact ⟨j + 1, by omega, by go_num, R1, R2⟩
        case measure => simp [intOf]; omega
    · have hj8 : j = 8 := by omega
      subst hj8
      go_wp2
      go_returns
      exact ⟨_, rfl, hown, hbel⟩
end Go.Proofs.Ytdkbhoichmcodaa
/- Own text. What a type assertion with two values answers at each form of a value, and at none. -/
namespace Go.Proofs.Ytdkbhoichmcodaa
theorem ta_nullForm_nullForm (w : World) : (Instr.typeAssert (.iface 203 (.agg #[])) 170 203 true).run Try.prog w = .ok (.tuple #[.agg #[], .bool true]) w := by kernel_rfl
theorem ta_nullForm_intForm (w : World) : (Instr.typeAssert (.iface 203 (.agg #[])) 170 205 true).run Try.prog w = .ok (.tuple #[.agg #[.int .i64 0], .bool false]) w := by kernel_rfl
theorem ta_nullForm_boolForm (w : World) : (Instr.typeAssert (.iface 203 (.agg #[])) 170 206 true).run Try.prog w = .ok (.tuple #[.agg #[.int .i64 0], .bool false]) w := by kernel_rfl
theorem ta_nullForm_textForm (w : World) : (Instr.typeAssert (.iface 203 (.agg #[])) 170 208 true).run Try.prog w = .ok (.tuple #[.agg #[.string ⟨#[]⟩], .bool false]) w := by kernel_rfl
theorem ta_intForm_nullForm (n : Int) (w : World) : (Instr.typeAssert (.iface 205 (.agg #[.int .i64 n])) 170 203 true).run Try.prog w = .ok (.tuple #[.agg #[], .bool false]) w := by kernel_rfl
theorem ta_intForm_intForm (n : Int) (w : World) : (Instr.typeAssert (.iface 205 (.agg #[.int .i64 n])) 170 205 true).run Try.prog w = .ok (.tuple #[.agg #[.int .i64 n], .bool true]) w := by kernel_rfl
theorem ta_intForm_boolForm (n : Int) (w : World) : (Instr.typeAssert (.iface 205 (.agg #[.int .i64 n])) 170 206 true).run Try.prog w = .ok (.tuple #[.agg #[.int .i64 0], .bool false]) w := by kernel_rfl
theorem ta_intForm_textForm (n : Int) (w : World) : (Instr.typeAssert (.iface 205 (.agg #[.int .i64 n])) 170 208 true).run Try.prog w = .ok (.tuple #[.agg #[.string ⟨#[]⟩], .bool false]) w := by kernel_rfl
theorem ta_boolForm_nullForm (n : Int) (w : World) : (Instr.typeAssert (.iface 206 (.agg #[.int .i64 n])) 170 203 true).run Try.prog w = .ok (.tuple #[.agg #[], .bool false]) w := by kernel_rfl
theorem ta_boolForm_intForm (n : Int) (w : World) : (Instr.typeAssert (.iface 206 (.agg #[.int .i64 n])) 170 205 true).run Try.prog w = .ok (.tuple #[.agg #[.int .i64 0], .bool false]) w := by kernel_rfl
theorem ta_boolForm_boolForm (n : Int) (w : World) : (Instr.typeAssert (.iface 206 (.agg #[.int .i64 n])) 170 206 true).run Try.prog w = .ok (.tuple #[.agg #[.int .i64 n], .bool true]) w := by kernel_rfl
theorem ta_boolForm_textForm (n : Int) (w : World) : (Instr.typeAssert (.iface 206 (.agg #[.int .i64 n])) 170 208 true).run Try.prog w = .ok (.tuple #[.agg #[.string ⟨#[]⟩], .bool false]) w := by kernel_rfl
theorem ta_textForm_nullForm (s : ByteArray) (w : World) : (Instr.typeAssert (.iface 208 (.agg #[.string s])) 170 203 true).run Try.prog w = .ok (.tuple #[.agg #[], .bool false]) w := by kernel_rfl
theorem ta_textForm_intForm (s : ByteArray) (w : World) : (Instr.typeAssert (.iface 208 (.agg #[.string s])) 170 205 true).run Try.prog w = .ok (.tuple #[.agg #[.int .i64 0], .bool false]) w := by kernel_rfl
theorem ta_textForm_boolForm (s : ByteArray) (w : World) : (Instr.typeAssert (.iface 208 (.agg #[.string s])) 170 206 true).run Try.prog w = .ok (.tuple #[.agg #[.int .i64 0], .bool false]) w := by kernel_rfl
theorem ta_textForm_textForm (s : ByteArray) (w : World) : (Instr.typeAssert (.iface 208 (.agg #[.string s])) 170 208 true).run Try.prog w = .ok (.tuple #[.agg #[.string s], .bool true]) w := by kernel_rfl
theorem ta_nil_nullForm (w : World) : (Instr.typeAssert .nilIface 170 203 true).run Try.prog w = .ok (.tuple #[.agg #[], .bool false]) w := by kernel_rfl
theorem ta_nil_intForm (w : World) : (Instr.typeAssert .nilIface 170 205 true).run Try.prog w = .ok (.tuple #[.agg #[.int .i64 0], .bool false]) w := by kernel_rfl
theorem ta_nil_boolForm (w : World) : (Instr.typeAssert .nilIface 170 206 true).run Try.prog w = .ok (.tuple #[.agg #[.int .i64 0], .bool false]) w := by kernel_rfl
theorem ta_nil_textForm (w : World) : (Instr.typeAssert .nilIface 170 208 true).run Try.prog w = .ok (.tuple #[.agg #[.string ⟨#[]⟩], .bool false]) w := by kernel_rfl
end Go.Proofs.Ytdkbhoichmcodaa
/- Own text. Two values held against each other. -/
namespace Go.Proofs.Ytdkbhoichmcodaa
open Go.RowKit
set_option linter.unusedVariables false
theorem eqV (k n k' n' : Int) (s s' : ByteArray) (w : World) : (binOp .eql 133 (.agg #[.int .i64 k, .int .i64 n, .string s]) (.agg #[.int .i64 k', .int .i64 n', .string s'])).run Try.prog w = .ok (.bool (k == k' && (n == n' && s.toList == s'.toList))) w := by
  have u3 := Try.underlying3
  have a3 := Try.isAgg3
  have z3 := Try.sizeOf3
  have u9 := Try.underlying9
  have a9 := Try.isAgg9
  have z9 := Try.sizeOf9
  have hS : Try.prog.underlying 133 = some (.struct (Try.prog.fieldsOf 133)) := by kernel_rfl
  have hp : Try.prog.stoodInHeld 133 = false := by kernel_rfl
  rw [run_eql_struct, show (10000 : Nat) = 9999 + 1 from rfl, run_equalIn_agg w 9999 133 _ _ hS hp]
  simp only [Program.fieldsOf, Try.underlying133]
  go_simp
  by_cases h1 : k = k' <;> by_cases h2 : n = n' <;> by_cases h3 : s.toList = s'.toList <;> simp [h1, h2, h3]
end Go.Proofs.Ytdkbhoichmcodaa
/- Own text. When a value is one (okB); two values held against each other; the contracts of formOf and valueOf at each kind. -/
namespace Go.Proofs.Ytdkbhoichmcodaa
open Go.RowKit
set_option linter.unusedVariables false
attribute [local go_sem] ta_nullForm_nullForm ta_nullForm_intForm ta_nullForm_boolForm ta_nullForm_textForm ta_intForm_nullForm ta_intForm_intForm ta_intForm_boolForm ta_intForm_textForm ta_boolForm_nullForm ta_boolForm_intForm ta_boolForm_boolForm ta_boolForm_textForm ta_textForm_nullForm ta_textForm_intForm ta_textForm_boolForm ta_textForm_textForm ta_nil_nullForm ta_nil_intForm ta_nil_boolForm ta_nil_textForm
/-- whether a value is one. -/
def okB (k n : Int) (s : ByteArray) : Bool :=
  if k = 0 then n == 0 && s.toList == [] else if k = 1 then s.toList == [] else if k = 2 then (n == 0 || n == 1) && s.toList == [] else if k = 3 then n == 0 && decide (s.size ≤ 100) else false
theorem okB_0 (n : Int) (s : ByteArray) : okB 0 n s = (n == 0 && s.toList == []) := rfl
theorem okB_1 (n : Int) (s : ByteArray) : okB 1 n s = (s.toList == []) := rfl
theorem okB_2 (n : Int) (s : ByteArray) : okB 2 n s = ((n == 0 || n == 1) && s.toList == []) := rfl
theorem okB_3 (n : Int) (s : ByteArray) : okB 3 n s = (n == 0 && decide (s.size ≤ 100)) := rfl
theorem okB_x (k n : Int) (s : ByteArray) (h0 : ¬ k = 0) (h1 : ¬ k = 1) (h2 : ¬ k = 2) (h3 : ¬ k = 3) : okB k n s = false := by simp [okB, h0, h1, h2, h3]
set_option maxHeartbeats 400000 in
theorem formOf_0 (n : Int) (s : ByteArray) (w : World) :
    Calls Try.prog 129 #[(.agg #[.int .i64 0, .int .i64 n, .string s])] w fun e w' => e = .returned (.iface 203 (.agg #[])) ∧ w' = w.alloc (.cells #[.int .i64 0, .int .i64 n, .string s] 133) := by
  go_enter Try.func129, Try.ntmps129
  go_wp2
  go_returns
  exact ⟨rfl, rfl⟩
set_option maxHeartbeats 400000 in
theorem formOf_1 (n : Int) (s : ByteArray) (w : World) :
    Calls Try.prog 129 #[(.agg #[.int .i64 1, .int .i64 n, .string s])] w fun e w' => e = .returned (.iface 205 (.agg #[.int .i64 n])) ∧ w' = w.alloc (.cells #[.int .i64 1, .int .i64 n, .string s] 133) := by
  go_enter Try.func129, Try.ntmps129
  go_wp2
  go_returns
  exact ⟨rfl, rfl⟩
set_option maxHeartbeats 400000 in
theorem formOf_2 (n : Int) (s : ByteArray) (w : World) :
    Calls Try.prog 129 #[(.agg #[.int .i64 2, .int .i64 n, .string s])] w fun e w' => e = .returned (.iface 206 (.agg #[.int .i64 n])) ∧ w' = w.alloc (.cells #[.int .i64 2, .int .i64 n, .string s] 133) := by
  go_enter Try.func129, Try.ntmps129
  go_wp2
  go_returns
  exact ⟨rfl, rfl⟩
set_option maxHeartbeats 400000 in
theorem formOf_3 (n : Int) (s : ByteArray) (w : World) :
    Calls Try.prog 129 #[(.agg #[.int .i64 3, .int .i64 n, .string s])] w fun e w' => e = .returned (.iface 208 (.agg #[.string s])) ∧ w' = w.alloc (.cells #[.int .i64 3, .int .i64 n, .string s] 133) := by
  go_enter Try.func129, Try.ntmps129
  go_wp2
  go_returns
  exact ⟨rfl, rfl⟩
set_option maxHeartbeats 400000 in
theorem formOf_x (k : Int) (n : Int) (s : ByteArray) (w : World) (h0 : (k == 0) = false) (h1 : (k == 1) = false) (h2 : (k == 2) = false) (h3 : (k == 3) = false) :
    Calls Try.prog 129 #[(.agg #[.int .i64 k, .int .i64 n, .string s])] w fun e w' => e = .returned (.nilIface) ∧ w' = w.alloc (.cells #[.int .i64 k, .int .i64 n, .string s] 133) := by
  go_enter Try.func129, Try.ntmps129
  go_wp2
  go_returns
  exact ⟨rfl, rfl⟩
set_option maxHeartbeats 400000 in
theorem valueOf_0 (w : World) :
    Calls Try.prog 130 #[.iface 203 (.agg #[])] w fun e w' => e = .returned (.agg #[.int .i64 0, .int .i64 0, .string ⟨#[]⟩]) ∧ Below w.heap.size w w' := by
  go_enter Try.func130, Try.ntmps130
  go_wp2
  go_returns
  refine ⟨rfl, ?_⟩
  go_grown
set_option maxHeartbeats 400000 in
theorem valueOf_1 (n : Int) (w : World) :
    Calls Try.prog 130 #[.iface 205 (.agg #[.int .i64 n])] w fun e w' => e = .returned (.agg #[.int .i64 1, .int .i64 n, .string ⟨#[]⟩]) ∧ Below w.heap.size w w' := by
  go_enter Try.func130, Try.ntmps130
  go_wp2
  go_returns
  refine ⟨rfl, ?_⟩
  go_grown
set_option maxHeartbeats 400000 in
theorem valueOf_2 (n : Int) (w : World) :
    Calls Try.prog 130 #[.iface 206 (.agg #[.int .i64 n])] w fun e w' => e = .returned (.agg #[.int .i64 2, .int .i64 n, .string ⟨#[]⟩]) ∧ Below w.heap.size w w' := by
  go_enter Try.func130, Try.ntmps130
  go_wp2
  go_returns
  refine ⟨rfl, ?_⟩
  go_grown
set_option maxHeartbeats 400000 in
theorem valueOf_3 (s : ByteArray) (w : World) :
    Calls Try.prog 130 #[.iface 208 (.agg #[.string s])] w fun e w' => e = .returned (.agg #[.int .i64 3, .int .i64 0, .string s]) ∧ Below w.heap.size w w' := by
  go_enter Try.func130, Try.ntmps130
  go_wp2
  go_returns
  refine ⟨rfl, ?_⟩
  go_grown
set_option maxHeartbeats 400000 in
theorem valueOf_x (w : World) :
    Calls Try.prog 130 #[.nilIface] w fun e w' => e = .returned (.agg #[.int .i64 0, .int .i64 0, .string ⟨#[]⟩]) ∧ Below w.heap.size w w' := by
  go_enter Try.func130, Try.ntmps130
  go_wp2
  go_returns
  refine ⟨rfl, ?_⟩
  go_grown
set_option maxHeartbeats 400000 in
theorem inRange_2 (n : Int) (w : World) (h : n = 0 ∨ n = 1) :
    Calls Try.prog 205 #[.agg #[.int .i64 n]] w fun e w' => e = .returned (.bool true) ∧ Below w.heap.size w w' := by
  rcases h with rfl | rfl
  · go_enter Try.func205, Try.ntmps205
    go_wp2
    go_returns
    refine ⟨rfl, ?_⟩
    go_grown
  · go_enter Try.func205, Try.ntmps205
    go_wp2
    go_returns
    refine ⟨rfl, ?_⟩
    go_grown
set_option maxHeartbeats 400000 in
theorem inRange_2x (n : Int) (w : World) (h0 : (n == 0) = false) (h1 : (n == 1) = false) :
    Calls Try.prog 205 #[.agg #[.int .i64 n]] w fun e w' => e = .returned (.bool false) ∧ Below w.heap.size w w' := by
  go_enter Try.func205, Try.ntmps205
  go_wp2
  go_returns
  refine ⟨rfl, ?_⟩
  go_grown
set_option maxHeartbeats 400000 in
theorem inRange_3 (s : ByteArray) (w : World) (hs : s.size ≤ maxLen) (h : (s.size : Int) ≤ 100) :
    Calls Try.prog 206 #[.agg #[.string s]] w fun e w' => e = .returned (.bool true) ∧ Below w.heap.size w w' := by
  unfold maxLen at hs
  go_enter Try.func206, Try.ntmps206
  go_wp2
  go_returns
  refine ⟨ret_bool (by first | (simp; done) | (simp; omega)), ?_⟩
  go_grown
set_option maxHeartbeats 400000 in
theorem inRange_3x (s : ByteArray) (w : World) (hs : s.size ≤ maxLen) (h : 100 < (s.size : Int)) :
    Calls Try.prog 206 #[.agg #[.string s]] w fun e w' => e = .returned (.bool false) ∧ Below w.heap.size w w' := by
  unfold maxLen at hs
  have hd : decide ((s.size : Int) ≤ 100) = false := by simp; omega
  go_enter Try.func206, Try.ntmps206
  go_wp2
  go_returns
  refine ⟨rfl, ?_⟩
  go_grown
theorem beq0 (n : Int) : ((0 : Int) == n) = (n == 0) := by rw [Bool.eq_iff_iff, beq_iff_eq, beq_iff_eq]; exact eq_comm
theorem nilbeq (l : List UInt8) : (([] : List UInt8) == l) = (l == []) := by cases l <;> rfl
end Go.Proofs.Ytdkbhoichmcodaa
/- Own text. The contracts of the program's ValueOk: it answers okB, and writes nothing that was there. -/
namespace Go.Proofs.Ytdkbhoichmcodaa
open Go.RowKit
set_option linter.unusedVariables false
attribute [local go_sem] ta_nullForm_nullForm ta_nullForm_intForm ta_nullForm_boolForm ta_nullForm_textForm ta_intForm_nullForm ta_intForm_intForm ta_intForm_boolForm ta_intForm_textForm ta_boolForm_nullForm ta_boolForm_intForm ta_boolForm_boolForm ta_boolForm_textForm ta_textForm_nullForm ta_textForm_intForm ta_textForm_boolForm ta_textForm_textForm ta_nil_nullForm ta_nil_intForm ta_nil_boolForm ta_nil_textForm
set_option maxHeartbeats 1000000 in
set_option maxRecDepth 100000 in
theorem implValueOk_0 (n : Int) (s : ByteArray) (w : World) :
    Calls Try.prog 96 #[(.agg #[.int .i64 0, .int .i64 n, .string s])] w fun e w' => e = .returned (.bool (okB 0 n s)) ∧ Below w.heap.size w w' := by
  have hq := eqV
  go_enter Try.func96, Try.ntmps96
  go_wp2_with (first | (go_at_call 129; refine (formOf_0 _ _ _).mono ?_; rintro e w1 ⟨rfl, rfl⟩))
  first | go_region_calls | fail
  all_goals (go_wp2; go_returns; refine ⟨ret_bool ?_, ?_⟩)
  all_goals first | (go_grown; done) | ((repeat (first | exact Below.refl _ _ | refine Below.drew ?_ | refine Below.alloc ?_ (by first | (simp; done) | (simp; omega) | omega) _ | refine bstep (by assumption) (by first | (simp; done) | (simp; omega) | omega) ?_)); done) | (clear hq; rw [okB_0]; simp [beq0])
set_option maxHeartbeats 1000000 in
set_option maxRecDepth 100000 in
theorem implValueOk_1 (n : Int) (s : ByteArray) (w : World) :
    Calls Try.prog 96 #[(.agg #[.int .i64 1, .int .i64 n, .string s])] w fun e w' => e = .returned (.bool (okB 1 n s)) ∧ Below w.heap.size w w' := by
  have hq := eqV
  go_enter Try.func96, Try.ntmps96
  go_wp2_with (first | (go_at_call 129; refine (formOf_1 _ _ _).mono ?_; rintro e w1 ⟨rfl, rfl⟩))
  first | go_region_calls | fail
  all_goals (go_wp2; go_returns; refine ⟨ret_bool ?_, ?_⟩)
  all_goals first | (go_grown; done) | ((repeat (first | exact Below.refl _ _ | refine Below.drew ?_ | refine Below.alloc ?_ (by first | (simp; done) | (simp; omega) | omega) _ | refine bstep (by assumption) (by first | (simp; done) | (simp; omega) | omega) ?_)); done) | (clear hq; rw [okB_1]; simp)
set_option maxHeartbeats 1000000 in
set_option maxRecDepth 100000 in
theorem implValueOk_2 (n : Int) (s : ByteArray) (w : World) :
    Calls Try.prog 96 #[(.agg #[.int .i64 2, .int .i64 n, .string s])] w fun e w' => e = .returned (.bool (okB 2 n s)) ∧ Below w.heap.size w w' := by
  have hq := eqV
  by_cases hc : n = 0 ∨ n = 1
  · go_enter Try.func96, Try.ntmps96
    go_wp2_with (first | (go_at_call 129; refine (formOf_2 _ _ _).mono ?_; rintro e w1 ⟨rfl, rfl⟩))
    first | go_region_held3 (fun w' => w'.cell? ⟨w.heap.size, 0, none⟩ = some (.int .i64 2) ∧ w'.cell? ⟨w.heap.size, 1, none⟩ = some (.int .i64 n) ∧ w'.cell? ⟨w.heap.size, 2, none⟩ = some (.string s)) (refine ⟨?_, ?_, ?_⟩ <;> first | (go_simp; done) | (exact cell_later (by assumption) (by go_simp))) (first | (go_at_call 205; refine (inRange_2 _ _ hc).mono ?_; rintro e w1 ⟨rfl, hb1⟩; have hz1 := hb1.size; (try simp at hz1); have hy1 : w.heap.size < w1.heap.size := (by omega)) | (go_at_call 130; refine (valueOf_2 _ _).mono ?_; rintro e w2 ⟨rfl, hb2⟩; have hz2 := hb2.size; (try simp at hz2); have hy2 : w.heap.size < w2.heap.size := (by omega))) | fail
    all_goals (go_wp2; go_returns; refine ⟨ret_bool ?_, ?_⟩)
    all_goals first | (go_grown; done) | ((repeat (first | exact Below.refl _ _ | refine Below.drew ?_ | refine Below.alloc ?_ (by first | (simp; done) | (simp; omega) | omega) _ | refine bstep (by assumption) (by first | (simp; done) | (simp; omega) | omega) ?_)); done) | (clear hq; rw [okB_2]; rcases hc with rfl | rfl <;> simp)
  have hx0 : (n == 0) = false := by simp; omega
  have hx1 : (n == 1) = false := by simp; omega
  go_enter Try.func96, Try.ntmps96
  go_wp2_with (first | (go_at_call 129; refine (formOf_2 _ _ _).mono ?_; rintro e w1 ⟨rfl, rfl⟩))
  first | go_region_with (first | (go_at_call 205; refine (inRange_2x _ _ hx0 hx1).mono ?_; rintro e w1 ⟨rfl, hb1⟩; have hz1 := hb1.size; (try simp at hz1); have hy1 : w.heap.size < w1.heap.size := (by omega))) | fail
  all_goals (go_wp2; go_returns; refine ⟨ret_bool ?_, ?_⟩)
  all_goals first | (go_grown; done) | ((repeat (first | exact Below.refl _ _ | refine Below.drew ?_ | refine Below.alloc ?_ (by first | (simp; done) | (simp; omega) | omega) _ | refine bstep (by assumption) (by first | (simp; done) | (simp; omega) | omega) ?_)); done) | (clear hq; rw [okB_2]; simp [hx0, hx1])
set_option maxHeartbeats 1000000 in
set_option maxRecDepth 100000 in
theorem implValueOk_3 (n : Int) (s : ByteArray) (w : World) (hs : s.size ≤ maxLen) :
    Calls Try.prog 96 #[(.agg #[.int .i64 3, .int .i64 n, .string s])] w fun e w' => e = .returned (.bool (okB 3 n s)) ∧ Below w.heap.size w w' := by
  have hq := eqV
  by_cases hc : (s.size : Int) ≤ 100
  · go_enter Try.func96, Try.ntmps96
    go_wp2_with (first | (go_at_call 129; refine (formOf_3 _ _ _).mono ?_; rintro e w1 ⟨rfl, rfl⟩))
    first | go_region_held3 (fun w' => w'.cell? ⟨w.heap.size, 0, none⟩ = some (.int .i64 3) ∧ w'.cell? ⟨w.heap.size, 1, none⟩ = some (.int .i64 n) ∧ w'.cell? ⟨w.heap.size, 2, none⟩ = some (.string s)) (refine ⟨?_, ?_, ?_⟩ <;> first | (go_simp; done) | (exact cell_later (by assumption) (by go_simp))) (first | (go_at_call 206; refine (inRange_3 _ _ hs hc).mono ?_; rintro e w1 ⟨rfl, hb1⟩; have hz1 := hb1.size; (try simp at hz1); have hy1 : w.heap.size < w1.heap.size := (by omega)) | (go_at_call 130; refine (valueOf_3 _ _).mono ?_; rintro e w2 ⟨rfl, hb2⟩; have hz2 := hb2.size; (try simp at hz2); have hy2 : w.heap.size < w2.heap.size := (by omega))) | fail
    all_goals (go_wp2; go_returns; refine ⟨ret_bool ?_, ?_⟩)
    all_goals first | (go_grown; done) | ((repeat (first | exact Below.refl _ _ | refine Below.drew ?_ | refine Below.alloc ?_ (by first | (simp; done) | (simp; omega) | omega) _ | refine bstep (by assumption) (by first | (simp; done) | (simp; omega) | omega) ?_)); done) | (clear hq; rw [okB_3]; have hc' : s.size ≤ 100 := (by omega); simp [beq0, hc'])
  · go_enter Try.func96, Try.ntmps96
    go_wp2_with (first | (go_at_call 129; refine (formOf_3 _ _ _).mono ?_; rintro e w1 ⟨rfl, rfl⟩))
    first | go_region_with (first | (go_at_call 206; refine (inRange_3x _ _ hs (by omega)).mono ?_; rintro e w1 ⟨rfl, hb1⟩; have hz1 := hb1.size; (try simp at hz1); have hy1 : w.heap.size < w1.heap.size := (by omega))) | fail
    all_goals (go_wp2; go_returns; refine ⟨ret_bool ?_, ?_⟩)
    all_goals first | (go_grown; done) | ((repeat (first | exact Below.refl _ _ | refine Below.drew ?_ | refine Below.alloc ?_ (by first | (simp; done) | (simp; omega) | omega) _ | refine bstep (by assumption) (by first | (simp; done) | (simp; omega) | omega) ?_)); done) | (clear hq; rw [okB_3]; have hc' : ¬ s.size ≤ 100 := (by omega); simp [hc'])
set_option maxHeartbeats 1000000 in
set_option maxRecDepth 100000 in
theorem implValueOk_x (k : Int) (n : Int) (s : ByteArray) (w : World) (h0 : (k == 0) = false) (h1 : (k == 1) = false) (h2 : (k == 2) = false) (h3 : (k == 3) = false) :
    Calls Try.prog 96 #[(.agg #[.int .i64 k, .int .i64 n, .string s])] w fun e w' => e = .returned (.bool (okB k n s)) ∧ Below w.heap.size w w' := by
  have hq := eqV
  go_enter Try.func96, Try.ntmps96
  go_wp2_with (first | (go_at_call 129; refine (formOf_x _ _ _ _ h0 h1 h2 h3).mono ?_; rintro e w1 ⟨rfl, rfl⟩))
  first | go_region_calls | fail
  all_goals (go_wp2; go_returns; refine ⟨ret_bool ?_, ?_⟩)
  all_goals first | (go_grown; done) | ((repeat (first | exact Below.refl _ _ | refine Below.drew ?_ | refine Below.alloc ?_ (by first | (simp; done) | (simp; omega) | omega) _ | refine bstep (by assumption) (by first | (simp; done) | (simp; omega) | omega) ?_)); done) | (clear hq; rw [okB_x k n s (by simpa using h0) (by simpa using h1) (by simpa using h2) (by simpa using h3)])
theorem implValueOk_any (k n : Int) (s : ByteArray) (w : World) (hs : s.size ≤ maxLen) :
    Calls Try.prog 96 #[(.agg #[.int .i64 k, .int .i64 n, .string s])] w fun e w' => e = .returned (.bool (okB k n s)) ∧ Below w.heap.size w w' := by
  by_cases h0 : k = 0
  · subst h0; exact implValueOk_0 n s w
  by_cases h1 : k = 1
  · subst h1; exact implValueOk_1 n s w
  by_cases h2 : k = 2
  · subst h2; exact implValueOk_2 n s w
  by_cases h3 : k = 3
  · subst h3; exact implValueOk_3 n s w hs
  exact implValueOk_x k n s w (by simp [h0]) (by simp [h1]) (by simp [h2]) (by simp [h3])
end Go.Proofs.Ytdkbhoichmcodaa
/- Own text. The bytes of a value (putS), the contracts of formBytes and of the program's PutValue. -/
namespace Go.Proofs.Ytdkbhoichmcodaa
open Go.RowKit
set_option linter.unusedVariables false
attribute [local go_sem] ta_nullForm_nullForm ta_nullForm_intForm ta_nullForm_boolForm ta_nullForm_textForm ta_intForm_nullForm ta_intForm_intForm ta_intForm_boolForm ta_intForm_textForm ta_boolForm_nullForm ta_boolForm_intForm ta_boolForm_boolForm ta_boolForm_textForm ta_textForm_nullForm ta_textForm_intForm ta_textForm_boolForm ta_textForm_textForm ta_nil_nullForm ta_nil_intForm ta_nil_boolForm ta_nil_textForm
theorem ta_text1 (s : ByteArray) (w : World) : (Instr.typeAssert (.iface 208 (.agg #[.string s])) 170 208 false).run Try.prog w = .ok (.agg #[.string s]) w := by kernel_rfl
theorem fld_text (s : ByteArray) (w : World) : (Instr.field 208 (.agg #[.string s]) 0).run Try.prog w = .ok (.string s) w := by kernel_rfl
attribute [local go_sem] ta_text1 fld_text
/-- a literal of bytes owns them. -/
theorem own_lit (W : World) (B : Nat) (xs : List Int) (hB : B ≤ W.heap.size) (hl : xs.length ≤ 100) : (W.alloc (Obj.cells (xs.map (Value.int .u8)).toArray 5)).ownsRow B 5 1 (.slice (some ⟨W.heap.size, 0, none⟩) xs.length xs.length) xs.length (xs.map (Value.int .u8)) := by
  refine ⟨by simp, .inr ⟨W.heap.size, xs.length, (xs.map (Value.int .u8)).toArray, rfl, hB, heap_alloc_new W _, Nat.le_refl _, by unfold maxLen; omega, by simp, ?_⟩⟩
  rw [List.take_of_length_le (by simp)]
theorem own_litg (W : World) (B g : Nat) (xs : List Int) (hg : g = W.heap.size) (hB : B ≤ W.heap.size) (hl : xs.length ≤ 100) : (W.alloc (Obj.cells (xs.map (Value.int .u8)).toArray 5)).ownsRow B 5 1 (.slice (some ⟨g, 0, none⟩) xs.length xs.length) xs.length (xs.map (Value.int .u8)) := by
  subst hg; exact own_lit W B xs hB hl
theorem own_base {w : World} {B B' e size n : Nat} {v : Value} {xs : List Value} (h : w.ownsRow B e size v n xs) (hb : B' ≤ B) : w.ownsRow B' e size v n xs := by
  obtain ⟨h1, h2⟩ := h
  refine ⟨h1, ?_⟩
  rcases h2 with h2 | ⟨g, cap, cur, hv, hg, r⟩
  · exact .inl h2
  · exact .inr ⟨g, cap, cur, hv, Nat.le_trans hb hg, r⟩
/-- the text of bytes that a slice owns. -/
theorem conv_own {w : World} {B n : Nat} {v : Value} (xs : List Int) (h : w.ownsRow B 5 1 v n (xs.map (Value.int .u8))) (hn : 0 < n) : (convert 105 9 v).run Try.prog w = .ok (.string (strOfNums xs)) w := by
  have hlen : xs.length = n := by have := h.1; simpa using this
  obtain ⟨g, cap, rfl⟩ := Go.Joins.ownsRow_form h hn
  refine run_convert_bytes_arg w 105 5 Try.underlying105 Try.underlying5 g 0 n cap xs hlen ?_ 9 Try.underlying9
  intro i hi
  rw [Nat.zero_add, h.cellAt i (by omega)]
  have hi' : i < xs.length := by omega
  simp [List.getD, List.getElem?_eq_getElem hi']
set_option maxHeartbeats 1000000 in
set_option maxRecDepth 100000 in
theorem fb_0 (w : World) : Calls Try.prog 153 #[.iface 203 (.agg #[])] w fun e w' => ∃ v, e = .returned v ∧ w'.ownsRow w.heap.size 5 1 v 1 ([(0 : Int)].map (Value.int .u8)) ∧ Below w.heap.size w w' := by
  go_enter Try.func153, Try.ntmps153
  go_wp2
  go_returns
  refine ⟨_, rfl, own_litg _ _ _ [0] ?_ ?_ (by decide), ?_⟩
  · first | (simp; done) | (simp; omega)
  · first | (simp; done) | (simp; omega)
  · go_grown
set_option maxHeartbeats 1000000 in
set_option maxRecDepth 100000 in
theorem fb_1 (n : Int) (w : World) : Calls Try.prog 153 #[.iface 205 (.agg #[.int .i64 n])] w fun e w' => ∃ v, e = .returned v ∧ w'.ownsRow w.heap.size 5 1 v 9 ((numL n 8).map (Value.int .u8)) ∧ Below w.heap.size w w' := by
  go_enter Try.func153, Try.ntmps153
  go_wp2_with fail
  refine (numberBytes_any _ _).mono ?_
  rintro e w1 ⟨v, rfl, hown, hb1⟩
  have hz1 := hb1.size
  simp only [World.size_alloc] at hz1
  go_wp2_with fail
  go_returns
  refine ⟨_, rfl, own_base hown (by simp; omega), ?_⟩
  repeat (first | exact Below.refl _ _ | refine Below.drew ?_ | refine Below.alloc ?_ (by first | (simp; done) | (simp; omega) | omega) _ | refine Below.setCell ?_ (by first | (simp; done) | (simp; omega) | omega) _ | refine bstep (by assumption) (by first | (simp; done) | (simp; omega) | omega) ?_)
set_option maxHeartbeats 1000000 in
set_option maxRecDepth 100000 in
theorem fb_2 (n : Int) (w : World) (h : n = 0 ∨ n = 1) : Calls Try.prog 153 #[.iface 206 (.agg #[.int .i64 n])] w fun e w' => ∃ v, e = .returned v ∧ w'.ownsRow w.heap.size 5 1 v 2 ([(2 : Int), n].map (Value.int .u8)) ∧ Below w.heap.size w w' := by
  have hm : n % 256 = n := by omega
  go_enter Try.func153, Try.ntmps153
  go_wp2
  go_returns
  refine ⟨_, rfl, own_litg _ _ _ [2, n] ?_ ?_ (by simp), ?_⟩
  · first | (simp; done) | (simp; omega)
  · first | (simp; done) | (simp; omega)
  · go_grown
set_option maxHeartbeats 1000000 in
set_option maxRecDepth 100000 in
theorem fb_3 (s : ByteArray) (w : World) (h : s.size ≤ 100) : Calls Try.prog 153 #[.iface 208 (.agg #[.string s])] w fun e w' => ∃ v, e = .returned v ∧ w'.ownsRow w.heap.size 5 1 v (2 + s.size) (([(3 : Int), (s.size : Int)] ++ s.data.toList.map (fun b => (b.toNat : Int))).map (Value.int .u8)) ∧ Below w.heap.size w w' := by
  have hm : (s.size : Int) % 256 = s.size := by omega
  obtain ⟨i0, hi, hz0, hz1, hz2⟩ := info_parts info5
  go_enter Try.func153, Try.ntmps153
  go_wp2_with (at_builtin; refine Go.Lib.wpList_append_own_string _ rfl _ _ 105 9 rfl w.heap.size 5 i0 Try.underlying105 Try.underlying9 hi hz0 hz1 hz2 _ 2 ([(3 : Int), (s.size : Int)].map (Value.int .u8)) rfl (own_litg _ _ _ [3, (s.size : Int)] ?c0 ?c1 (by simp)) s rfl ?c2 ?c3 ?c4 ?_)
  case c0 => first | (simp; done) | (simp; omega)
  case c1 => first | (simp; done) | (simp; omega)
  case c2 => unfold maxLen; omega
  case c3 => omega
  case c4 => first | (simp; done) | (simp; omega)
  intro v' w1 hown hgrow _
  go_wp2_with fail
  go_returns
  refine ⟨_, rfl, ?_, ?_⟩
  · simp only [List.map_cons, List.map_map]; exact hown
  · refine Below.grown ?_ hgrow (by simp; omega) ?_
    · go_grown
    · intro k hk; simp [Value.ownBlock] at hk; omega
end Go.Proofs.Ytdkbhoichmcodaa
/- Own text. The bytes of a value as a text (putS), and the contract of the program's PutValue. -/
namespace Go.Proofs.Ytdkbhoichmcodaa
open Go.RowKit
set_option linter.unusedVariables false
/-- the bytes of a value; the empty text where it is none. -/
def putS (k n : Int) (s : ByteArray) : ByteArray :=
  if okB k n s = true then (if k = 0 then strOfNums [0] else if k = 1 then strOfNums (numL n 8) else if k = 2 then strOfNums [2, n] else strOfNums [3, (s.size : Int)] ++ s) else ⟨#[]⟩
theorem putS_no (k n : Int) (s : ByteArray) (h : okB k n s = false) : putS k n s = ⟨#[]⟩ := by rw [putS, h]; rfl
theorem putS_0 (n : Int) (s : ByteArray) (h : okB 0 n s = true) : putS 0 n s = strOfNums [0] := by rw [putS, if_pos h]; rfl
theorem putS_1 (n : Int) (s : ByteArray) (h : okB 1 n s = true) : putS 1 n s = strOfNums (numL n 8) := by rw [putS, if_pos h]; rfl
theorem putS_2 (n : Int) (s : ByteArray) (h : okB 2 n s = true) : putS 2 n s = strOfNums [2, n] := by rw [putS, if_pos h]; rfl
theorem putS_3 (n : Int) (s : ByteArray) (h : okB 3 n s = true) : putS 3 n s = strOfNums [3, (s.size : Int)] ++ s := by rw [putS, if_pos h]; rfl
theorem nums_append (xs : List Int) (s : ByteArray) : strOfNums (xs ++ s.data.toList.map (fun b => (b.toNat : Int))) = strOfNums xs ++ s := by
  apply ByteArray.ext
  apply Array.toList_inj.1
  rw [ByteArray.data_append, Array.toList_append]
  have e : ((fun n : Int => UInt8.ofNat n.toNat) ∘ fun b : UInt8 => (b.toNat : Int)) = id := by funext b; simp
  simp only [strOfNums, List.map_append, List.map_map, e, List.map_id]
theorem nums_size (xs : List Int) : (strOfNums xs).size = xs.length := by
  show (xs.map fun n => UInt8.ofNat n.toNat).toArray.size = _
  simp
theorem ret_str {a b : ByteArray} (h : a = b) : Ending.returned (.string a) = .returned (.string b) := by rw [h]
theorem okB_3s (n : Int) (s : ByteArray) (h : okB 3 n s = true) : s.size ≤ 100 := by rw [okB_3] at h; simp at h; exact h.2
theorem okB_2n (n : Int) (s : ByteArray) (h : okB 2 n s = true) : n = 0 ∨ n = 1 := by rw [okB_2] at h; simp at h; exact h.1
set_option maxHeartbeats 1000000 in
set_option maxRecDepth 100000 in
theorem implPut_no (k n : Int) (s : ByteArray) (w : World) (hs : s.size ≤ maxLen) (hok : okB k n s = false) :
    Calls Try.prog 132 #[(.agg #[.int .i64 k, .int .i64 n, .string s])] w fun e w' => e = .returned (.string (putS k n s)) ∧ Below w.heap.size w w' := by
  have hp : Hid (putS k n s = ⟨#[]⟩) := putS_no k n s hok
  go_enter Try.func132, Try.ntmps132
  go_wp2_with fail
  refine (implValueOk_any _ _ _ _ hs).mono ?_
  rintro e w1 ⟨rfl, hb1⟩
  rw [hok]
  go_wp2_with fail
  go_returns
  refine ⟨ret_str hp.out.symm, ?_⟩
  repeat (first | exact Below.refl _ _ | refine Below.drew ?_ | refine Below.alloc ?_ (by first | (simp; done) | (simp; omega) | omega) _ | refine Below.setCell ?_ (by first | (simp; done) | (simp; omega) | omega) _ | refine bstep (by assumption) (by first | (simp; done) | (simp; omega) | omega) ?_)
set_option maxHeartbeats 1000000 in
set_option maxRecDepth 100000 in
theorem implPut_0 (n : Int) (s : ByteArray) (w : World) (hs : s.size ≤ maxLen) (hok : okB 0 n s = true) :
    Calls Try.prog 132 #[(.agg #[.int .i64 0, .int .i64 n, .string s])] w fun e w' => e = .returned (.string (putS 0 n s)) ∧ Below w.heap.size w w' := by
  have hp : Hid (putS 0 n s = _) := putS_0 n s hok
  have hok0 : Hid (okB 0 n s = true) := hok
  go_enter Try.func132, Try.ntmps132
  go_wp2_with fail
  refine (implValueOk_any _ _ _ _ hs).mono ?_
  rintro e w1 ⟨rfl, hb1⟩
  rw [hok]
  clear hok
  have hz1 := hb1.size
  simp only [World.size_alloc] at hz1
  have hy1 : w.heap.size < w1.heap.size := by omega
  have qa : w1.cell? ⟨w.heap.size, 0, none⟩ = some (.int .i64 0) := cell_later hb1 (by go_simp)
  have qb : w1.cell? ⟨w.heap.size, 1, none⟩ = some (.int .i64 n) := cell_later hb1 (by go_simp)
  have qc : w1.cell? ⟨w.heap.size, 2, none⟩ = some (.string s) := cell_later hb1 (by go_simp)
  go_wp2_with fail
  refine (formOf_0 _ _ _).mono ?_
  rintro e w2 ⟨rfl, rfl⟩
  go_wp2_with fail
  refine (fb_0 _).mono ?_
  rintro e w3 ⟨v, rfl, hown, hb3⟩
  have hz3 := hb3.size
  simp only [World.size_alloc] at hz3
  have hcv := conv_own _ hown (by omega)
  clear hown
  go_wp2_with fail
  go_returns
  refine ⟨ret_str (hp.out.symm), ?_⟩
  repeat (first | exact Below.refl _ _ | refine Below.drew ?_ | refine Below.alloc ?_ (by first | (simp; done) | (simp; omega) | omega) _ | refine Below.setCell ?_ (by first | (simp; done) | (simp; omega) | omega) _ | refine bstep (by assumption) (by first | (simp; done) | (simp; omega) | omega) ?_)
set_option maxHeartbeats 1000000 in
set_option maxRecDepth 100000 in
theorem implPut_1 (n : Int) (s : ByteArray) (w : World) (hs : s.size ≤ maxLen) (hok : okB 1 n s = true) :
    Calls Try.prog 132 #[(.agg #[.int .i64 1, .int .i64 n, .string s])] w fun e w' => e = .returned (.string (putS 1 n s)) ∧ Below w.heap.size w w' := by
  have hp : Hid (putS 1 n s = _) := putS_1 n s hok
  have hok0 : Hid (okB 1 n s = true) := hok
  go_enter Try.func132, Try.ntmps132
  go_wp2_with fail
  refine (implValueOk_any _ _ _ _ hs).mono ?_
  rintro e w1 ⟨rfl, hb1⟩
  rw [hok]
  clear hok
  have hz1 := hb1.size
  simp only [World.size_alloc] at hz1
  have hy1 : w.heap.size < w1.heap.size := by omega
  have qa : w1.cell? ⟨w.heap.size, 0, none⟩ = some (.int .i64 1) := cell_later hb1 (by go_simp)
  have qb : w1.cell? ⟨w.heap.size, 1, none⟩ = some (.int .i64 n) := cell_later hb1 (by go_simp)
  have qc : w1.cell? ⟨w.heap.size, 2, none⟩ = some (.string s) := cell_later hb1 (by go_simp)
  go_wp2_with fail
  refine (formOf_1 _ _ _).mono ?_
  rintro e w2 ⟨rfl, rfl⟩
  go_wp2_with fail
  refine (fb_1 _ _).mono ?_
  rintro e w3 ⟨v, rfl, hown, hb3⟩
  have hz3 := hb3.size
  simp only [World.size_alloc] at hz3
  have hcv := conv_own _ hown (by omega)
  clear hown
  go_wp2_with fail
  go_returns
  refine ⟨ret_str (hp.out.symm), ?_⟩
  repeat (first | exact Below.refl _ _ | refine Below.drew ?_ | refine Below.alloc ?_ (by first | (simp; done) | (simp; omega) | omega) _ | refine Below.setCell ?_ (by first | (simp; done) | (simp; omega) | omega) _ | refine bstep (by assumption) (by first | (simp; done) | (simp; omega) | omega) ?_)
set_option maxHeartbeats 1000000 in
set_option maxRecDepth 100000 in
theorem implPut_2 (n : Int) (s : ByteArray) (w : World) (hs : s.size ≤ maxLen) (hok : okB 2 n s = true) :
    Calls Try.prog 132 #[(.agg #[.int .i64 2, .int .i64 n, .string s])] w fun e w' => e = .returned (.string (putS 2 n s)) ∧ Below w.heap.size w w' := by
  have hp : Hid (putS 2 n s = _) := putS_2 n s hok
  have hok0 : Hid (okB 2 n s = true) := hok
  go_enter Try.func132, Try.ntmps132
  go_wp2_with fail
  refine (implValueOk_any _ _ _ _ hs).mono ?_
  rintro e w1 ⟨rfl, hb1⟩
  rw [hok]
  clear hok
  have hz1 := hb1.size
  simp only [World.size_alloc] at hz1
  have hy1 : w.heap.size < w1.heap.size := by omega
  have qa : w1.cell? ⟨w.heap.size, 0, none⟩ = some (.int .i64 2) := cell_later hb1 (by go_simp)
  have qb : w1.cell? ⟨w.heap.size, 1, none⟩ = some (.int .i64 n) := cell_later hb1 (by go_simp)
  have qc : w1.cell? ⟨w.heap.size, 2, none⟩ = some (.string s) := cell_later hb1 (by go_simp)
  go_wp2_with fail
  refine (formOf_2 _ _ _).mono ?_
  rintro e w2 ⟨rfl, rfl⟩
  go_wp2_with fail
  refine (fb_2 _ _ (okB_2n n s hok0.out)).mono ?_
  rintro e w3 ⟨v, rfl, hown, hb3⟩
  have hz3 := hb3.size
  simp only [World.size_alloc] at hz3
  have hcv := conv_own _ hown (by omega)
  clear hown
  go_wp2_with fail
  go_returns
  refine ⟨ret_str (hp.out.symm), ?_⟩
  repeat (first | exact Below.refl _ _ | refine Below.drew ?_ | refine Below.alloc ?_ (by first | (simp; done) | (simp; omega) | omega) _ | refine Below.setCell ?_ (by first | (simp; done) | (simp; omega) | omega) _ | refine bstep (by assumption) (by first | (simp; done) | (simp; omega) | omega) ?_)
set_option maxHeartbeats 1000000 in
set_option maxRecDepth 100000 in
theorem implPut_3 (n : Int) (s : ByteArray) (w : World) (hs : s.size ≤ maxLen) (hok : okB 3 n s = true) :
    Calls Try.prog 132 #[(.agg #[.int .i64 3, .int .i64 n, .string s])] w fun e w' => e = .returned (.string (putS 3 n s)) ∧ Below w.heap.size w w' := by
  have hp : Hid (putS 3 n s = _) := putS_3 n s hok
  have hok0 : Hid (okB 3 n s = true) := hok
  go_enter Try.func132, Try.ntmps132
  go_wp2_with fail
  refine (implValueOk_any _ _ _ _ hs).mono ?_
  rintro e w1 ⟨rfl, hb1⟩
  rw [hok]
  clear hok
  have hz1 := hb1.size
  simp only [World.size_alloc] at hz1
  have hy1 : w.heap.size < w1.heap.size := by omega
  have qa : w1.cell? ⟨w.heap.size, 0, none⟩ = some (.int .i64 3) := cell_later hb1 (by go_simp)
  have qb : w1.cell? ⟨w.heap.size, 1, none⟩ = some (.int .i64 n) := cell_later hb1 (by go_simp)
  have qc : w1.cell? ⟨w.heap.size, 2, none⟩ = some (.string s) := cell_later hb1 (by go_simp)
  go_wp2_with fail
  refine (formOf_3 _ _ _).mono ?_
  rintro e w2 ⟨rfl, rfl⟩
  go_wp2_with fail
  refine (fb_3 _ _ (okB_3s n s hok0.out)).mono ?_
  rintro e w3 ⟨v, rfl, hown, hb3⟩
  have hz3 := hb3.size
  simp only [World.size_alloc] at hz3
  have hcv := conv_own _ hown (by omega)
  clear hown
  go_wp2_with fail
  go_returns
  refine ⟨ret_str ((nums_append [3, (s.size : Int)] s).trans hp.out.symm), ?_⟩
  repeat (first | exact Below.refl _ _ | refine Below.drew ?_ | refine Below.alloc ?_ (by first | (simp; done) | (simp; omega) | omega) _ | refine Below.setCell ?_ (by first | (simp; done) | (simp; omega) | omega) _ | refine bstep (by assumption) (by first | (simp; done) | (simp; omega) | omega) ?_)
theorem implPut_any (k n : Int) (s : ByteArray) (w : World) (hs : s.size ≤ maxLen) :
    Calls Try.prog 132 #[(.agg #[.int .i64 k, .int .i64 n, .string s])] w fun e w' => e = .returned (.string (putS k n s)) ∧ Below w.heap.size w w' := by
  by_cases hok : okB k n s = true
  · by_cases h0 : k = 0
    · subst h0; exact implPut_0 n s w hs hok
    by_cases h1 : k = 1
    · subst h1; exact implPut_1 n s w hs hok
    by_cases h2 : k = 2
    · subst h2; exact implPut_2 n s w hs hok
    by_cases h3 : k = 3
    · subst h3; exact implPut_3 n s w hs hok
    · rw [okB_x k n s h0 h1 h2 h3] at hok; cases hok
  · exact implPut_no k n s w hs (by simpa using hok)
end Go.Proofs.Ytdkbhoichmcodaa
/- Own text. The contract of the specification's ValueOk: it answers okB, and writes nothing that was there. -/
namespace Go.Proofs.Ytdkbhoichmcodaa
open Go.RowKit
set_option linter.unusedVariables false
theorem okB_of {b : Bool} {k n : Int} {s : ByteArray} (h : b = okB k n s) : Ending.returned (.bool b) = .returned (.bool (okB k n s)) := by rw [h]
set_option maxHeartbeats 1000000 in
set_option maxRecDepth 100000 in
theorem specValueOk_any (k n : Int) (s : ByteArray) (w : World) (hs : s.size ≤ maxLen) :
    Calls Try.prog 139 #[(.agg #[.int .i64 k, .int .i64 n, .string s])] w fun e w' => e = .returned (.bool (okB k n s)) ∧ Below w.heap.size w w' := by
  unfold maxLen at hs
  go_enter Try.func139, Try.ntmps139
  go_wp2
  all_goals (go_returns; refine ⟨okB_of ?_, ?_⟩)
  all_goals first | (go_grown; done) | (simp_all [okB]; done) | (simp_all [okB]; omega)
end Go.Proofs.Ytdkbhoichmcodaa
/- Own text. The contract of the specification's PutValue: it answers putS. -/
namespace Go.Proofs.Ytdkbhoichmcodaa
open Go.RowKit
set_option linter.unusedVariables false
/-- 256 to the power 7 - j. -/
def pw (j : Nat) : Int := 72057594037927936 / 256 ^ j
theorem pw_facts : ∀ j : Nat, j < 8 → 0 < pw j ∧ pw j ≤ 72057594037927936 ∧ (2 : Int) ^ (8 * (7 - j)) = pw j ∧ pw j / 256 = pw (j + 1) := by
  intro j hj
  match j, hj with
  | 0, _ => decide +kernel
  | 1, _ => decide +kernel
  | 2, _ => decide +kernel
  | 3, _ => decide +kernel
  | 4, _ => decide +kernel
  | 5, _ => decide +kernel
  | 6, _ => decide +kernel
  | 7, _ => decide +kernel
theorem numB_eq (n : Int) (j : Nat) (hj : j < 8) : (IntKind.u64.wrap ((IntKind.u64.wrap n).tdiv (pw j))).tmod 256 % 256 = numB n j := by
  obtain ⟨h0, h1, h2, _⟩ := pw_facts j hj
  rw [numB, h2]
  have hu : 0 ≤ IntKind.u64.wrap n ∧ IntKind.u64.wrap n < 18446744073709551616 := by rw [IntKind.wrap_u64]; omega
  generalize IntKind.u64.wrap n = u at hu ⊢
  rw [Int.tdiv_eq_ediv_of_nonneg hu.1]
  have hq : 0 ≤ u / pw j := Int.ediv_nonneg hu.1 (by omega)
  have hq2 : u / pw j ≤ u := Int.ediv_le_self _ hu.1
  rw [IntKind.wrap_u64, Int.emod_eq_of_lt hq (by omega), Int.tmod_eq_emod_of_nonneg hq]
  omega
theorem far_cell {wr w1 : World} {v : Value} {o : Obj} {B n b f : Nat} {xs : List Value} {u : Value} (hown : wr.ownsRow B 5 1 v n xs) (hb : b < B) (hc : wr.cell? ⟨b, f, none⟩ = some u) (hg : (wr.alloc o).grownBy w1 v.ownBlock) : w1.cell? ⟨b, f, none⟩ = some u := by
  have hlt := World.block_lt_of_cell? wr ⟨b, f, none⟩ hc
  simp only at hlt
  rw [hg.cell_far ⟨b, f, none⟩ (by simp; omega) ?_, World.cell?_alloc_lt _ _ _ hlt]
  · exact hc
  · intro he
    rcases hown.2 with ⟨hv, _⟩ | ⟨g, cap, cur, hv, hb', _⟩
    · rw [hv] at he; simp [Value.ownBlock] at he
    · rw [hv] at he; simp [Value.ownBlock] at he; omega
theorem nil_of (s : ByteArray) (h : s.toList = []) : s = ⟨#[]⟩ := by
  rw [ByteArray.toList_eq] at h
  apply ByteArray.ext
  apply Array.toList_inj.1
  rw [h]
theorem append_nil' (a : ByteArray) : a ++ ⟨#[]⟩ = a := by
  apply ByteArray.ext
  rw [ByteArray.data_append]
  simp
set_option maxHeartbeats 1000000 in
theorem specPut_no (k n : Int) (s : ByteArray) (w : World) (hs : s.size ≤ maxLen) (hok : okB k n s = false) :
    Calls Try.prog 115 #[(.agg #[.int .i64 k, .int .i64 n, .string s])] w fun e w' => e = .returned (.string ⟨#[]⟩) ∧ Below w.heap.size w w' := by
  go_enter Try.func115, Try.ntmps115
  go_wp2_with fail
  refine (specValueOk_any _ _ _ _ hs).mono ?_
  rintro e w1 ⟨rfl, hb1⟩
  rw [hok]
  go_wp2_with fail
  go_returns
  refine ⟨rfl, ?_⟩
  repeat (first | exact Below.refl _ _ | refine Below.drew ?_ | refine Below.alloc ?_ (by first | (simp; done) | (simp; omega) | omega) _ | refine Below.setCell ?_ (by first | (simp; done) | (simp; omega) | omega) _ | refine bstep (by assumption) (by first | (simp; done) | (simp; omega) | omega) ?_)
set_option maxHeartbeats 2000000 in
set_option maxRecDepth 100000 in
theorem specPut_0 (w : World) (hok : okB 0 0 ⟨#[]⟩ = true) :
    Calls Try.prog 115 #[(.agg #[.int .i64 0, .int .i64 0, .string ⟨#[]⟩])] w fun e w' => e = .returned (.string (strOfNums [0])) ∧ Below w.heap.size w w' := by
  go_enter Try.func115, Try.ntmps115
  go_wp2_with fail
  refine (specValueOk_any _ _ _ _ (by unfold maxLen; decide)).mono ?_
  rintro e w1 ⟨rfl, hb1⟩
  rw [hok]
  clear hok
  have hz1 := hb1.size
  simp only [World.size_alloc] at hz1
  have hy1 : w.heap.size < w1.heap.size := by omega
  have hB1 : w.heap.size + 1 ≤ w1.heap.size := by omega
  have bel1 : Below w.heap.size w w1 := bstep hb1 (by simp) ((Below.refl _ _).alloc (Nat.le_refl _) _)
  have qa : w1.cell? ⟨w.heap.size, 0, none⟩ = some (.int .i64 0) := cell_later hb1 (by go_simp)
  have qb : w1.cell? ⟨w.heap.size, 1, none⟩ = some (.int .i64 0) := cell_later hb1 (by go_simp)
  have qc : w1.cell? ⟨w.heap.size, 2, none⟩ = some (.string ⟨#[]⟩) := cell_later hb1 (by go_simp)
  have hcv := fun (o : World) (h : o.ownsRow (w.heap.size + 1) 5 1 (.slice (some ⟨w1.heap.size, 0, none⟩) 1 1) 1 ([(0 : Int)].map (Value.int .u8))) => conv_own [0] h (by omega)
  have hcv0 := hcv _ (own_litg w1 (w.heap.size + 1) w1.heap.size [0] rfl hB1 (by decide))
  clear hcv
  have hsz : ((strOfNums [0]).size : Int) ≤ 200 := by rw [nums_size]; simp
  simp only [List.map_cons, List.map_nil] at hcv0
  go_wp2_with fail
  go_returns
  refine ⟨ret_str (append_nil' _), ?_⟩
  repeat (first | exact Below.refl _ _ | refine Below.drew ?_ | refine Below.alloc ?_ (by first | (simp; done) | (simp; omega) | omega) _ | refine Below.setCell ?_ (by first | (simp; done) | (simp; omega) | omega) _ | refine bstep (by assumption) (by first | (simp; done) | (simp; omega) | omega) ?_)
set_option maxHeartbeats 2000000 in
set_option maxRecDepth 100000 in
theorem specPut_1 (n : Int) (w : World) (hok : okB 1 n ⟨#[]⟩ = true) :
    Calls Try.prog 115 #[(.agg #[.int .i64 1, .int .i64 n, .string ⟨#[]⟩])] w fun e w' => e = .returned (.string (strOfNums (numL n 8))) ∧ Below w.heap.size w w' := by
  obtain ⟨i0, hi, hi0, hi1, hi2⟩ := info_parts info5
  go_enter Try.func115, Try.ntmps115
  go_wp2_with fail
  refine (specValueOk_any _ _ _ _ (by unfold maxLen; decide)).mono ?_
  rintro e w1 ⟨rfl, hb1⟩
  rw [hok]
  clear hok
  have hz1 := hb1.size
  simp only [World.size_alloc] at hz1
  have hy1 : w.heap.size < w1.heap.size := by omega
  have hB1 : w.heap.size + 1 ≤ w1.heap.size := by omega
  have bel1 : Below w.heap.size w w1 := bstep hb1 (by simp) ((Below.refl _ _).alloc (Nat.le_refl _) _)
  have qa : w1.cell? ⟨w.heap.size, 0, none⟩ = some (.int .i64 1) := cell_later hb1 (by go_simp)
  have qb : w1.cell? ⟨w.heap.size, 1, none⟩ = some (.int .i64 n) := cell_later hb1 (by go_simp)
  have qc : w1.cell? ⟨w.heap.size, 2, none⟩ = some (.string ⟨#[]⟩) := cell_later hb1 (by go_simp)
  go_wp2_with fail
  go_loopw [3, 5, 6] (fun v p i wr => ∃ j : Nat, j ≤ 8 ∧ i = .int .i64 j ∧ p = .int .u64 (pw j) ∧ wr.ownsRow (w.heap.size + 1) 5 1 v (1 + j) ((numL n j).map (Value.int .u8)) ∧ Below w.heap.size w wr ∧ w.heap.size + 1 ≤ wr.heap.size ∧ wr.cell? ⟨w.heap.size, 2, none⟩ = some (.string ⟨#[]⟩)) (fun _ _ i _ => 8 - (intOf i).toNat)
  case atStart => exact ⟨0, by omega, rfl, rfl, own_litg w1 _ _ [1] rfl hB1 (by decide), bel1.alloc (by omega) _, by simp; omega, by go_simp⟩
  case round =>
    obtain ⟨j, hj, rfl, rfl, hown, hbel, hB, hcs⟩ := hrel
    by_cases hlt : j < 8
    · obtain ⟨hpos, hup, _, hst0⟩ := pw_facts j hlt
      have hst : Hid (pw j / 256 = pw (j + 1)) := hst0
      have hnb : Hid ((IntKind.u64.wrap ((IntKind.u64.wrap n).tdiv (pw j))).tmod 256 % 256 = numB n j) := numB_eq n j hlt
      clear hst0
      go_wp2_with (at_builtin; refine wpList_append_own _ rfl _ _ 105 rfl (w.heap.size + 1) 5 i0 (.int .u8 0) 1 1 Try.underlying105 hi hi0 hi1 hi2 rfl (by decide) _ _ _ rfl (hown.alloc _) ⟨wr.heap.size, 0, none⟩ 1 1 [.int .u8 ((IntKind.u64.wrap ((IntKind.u64.wrap n).tdiv (pw j))).tmod 256 % 256)] rfl rfl ?c1 ?c2 ?c3 ?c4 ?c5 ?_)
      case c1 =>
        intro q u hq
        match q, hq with
        | 0, hq => simp at hq; subst hq; simp [Addr.add]
      case c2 => intro u hu; simp at hu; subst hu; rfl
      case c3 => unfold maxLen; omega
      case c4 => omega
      case c5 => simp; omega
      · intro v' w2 hown' hgrow _
        have R1 : w2.ownsRow (w.heap.size + 1) 5 1 v' (1 + (j + 1)) ((numL n (j + 1)).map (Value.int .u8)) := by
          rw [numL_succ, List.map_append, ← hnb.out]; exact hown'
        have R2 : Below w.heap.size w w2 := own_grow (own_base hown (by omega)) hbel (by omega) hgrow
        have R3 := hgrow.size
        simp only [World.size_alloc] at R3
        have R4 := far_cell hown (by omega) hcs hgrow
        clear hown' hgrow hown hcs
        go_wp2_with fail
        go_roundw
        case rel => exact ⟨j + 1, by omega, by go_num, by rw [hst.out], R1, R2, by omega, R4⟩
        case measure => simp [intOf]; omega
    · have hj8 : j = 8 := by omega
      subst hj8
      have hcv := conv_own (numL n 8) hown (by omega)
      have hsz : ((strOfNums (numL n 8)).size : Int) ≤ 200 := by rw [nums_size, numL_len]; simp
      clear hown
      go_wp2_with fail
      go_returns
      exact ⟨ret_str (append_nil' _), hbel⟩
set_option maxHeartbeats 2000000 in
set_option maxRecDepth 100000 in
theorem specPut_2 (n : Int) (hn : n = 0 ∨ n = 1) (w : World) (hok : okB 2 n ⟨#[]⟩ = true) :
    Calls Try.prog 115 #[(.agg #[.int .i64 2, .int .i64 n, .string ⟨#[]⟩])] w fun e w' => e = .returned (.string (strOfNums [2, n])) ∧ Below w.heap.size w w' := by
  have hm : n % 256 = n := by omega
  obtain ⟨i0, hi, hi0, hi1, hi2⟩ := info_parts info5
  go_enter Try.func115, Try.ntmps115
  go_wp2_with fail
  refine (specValueOk_any _ _ _ _ (by unfold maxLen; decide)).mono ?_
  rintro e w1 ⟨rfl, hb1⟩
  rw [hok]
  clear hok
  have hz1 := hb1.size
  simp only [World.size_alloc] at hz1
  have hy1 : w.heap.size < w1.heap.size := by omega
  have hB1 : w.heap.size + 1 ≤ w1.heap.size := by omega
  have bel1 : Below w.heap.size w w1 := bstep hb1 (by simp) ((Below.refl _ _).alloc (Nat.le_refl _) _)
  have qa : w1.cell? ⟨w.heap.size, 0, none⟩ = some (.int .i64 2) := cell_later hb1 (by go_simp)
  have qb : w1.cell? ⟨w.heap.size, 1, none⟩ = some (.int .i64 n) := cell_later hb1 (by go_simp)
  have qc : w1.cell? ⟨w.heap.size, 2, none⟩ = some (.string ⟨#[]⟩) := cell_later hb1 (by go_simp)
  go_wp2_with (at_builtin; refine wpList_append_own _ rfl _ _ 105 rfl (w.heap.size + 1) 5 i0 (.int .u8 0) 1 1 Try.underlying105 hi hi0 hi1 hi2 rfl (by decide) _ 1 ([(2 : Int)].map (Value.int .u8)) rfl ((own_litg w1 (w.heap.size + 1) w1.heap.size [2] rfl hB1 (by decide)).alloc _) ⟨w1.heap.size + 1, 0, none⟩ 1 1 [.int .u8 n] rfl rfl ?c1 ?c2 ?c3 ?c4 ?c5 ?_)
  case c1 =>
    intro q u hq
    match q, hq with
    | 0, hq => simp at hq; subst hq; simp [Addr.add]
  case c2 => intro u hu; simp at hu; subst hu; rfl
  case c3 => unfold maxLen; omega
  case c4 => omega
  case c5 => simp; omega
  intro v' w2 hown' hgrow _
  have hcv := conv_own [2, n] hown' (by omega)
  have hsz : ((strOfNums [2, n]).size : Int) ≤ 200 := by rw [nums_size]; simp
  have R2 : Below w.heap.size w w2 := own_grow (own_base (own_litg w1 (w.heap.size + 1) w1.heap.size [2] rfl hB1 (by decide)) (by omega)) (bel1.alloc (by omega) _) (by simp; omega) hgrow
  have R4 : w2.cell? ⟨w.heap.size, 2, none⟩ = some (.string ⟨#[]⟩) := far_cell (own_litg w1 (w.heap.size + 1) w1.heap.size [2] rfl hB1 (by decide)) (by omega) (by go_simp) hgrow
  clear hown' hgrow
  go_wp2_with fail
  go_returns
  exact ⟨ret_str (append_nil' _), R2⟩
set_option maxHeartbeats 2000000 in
set_option maxRecDepth 100000 in
theorem specPut_3 (s : ByteArray) (hs : s.size ≤ 100) (w : World) (hok : okB 3 0 s = true) :
    Calls Try.prog 115 #[(.agg #[.int .i64 3, .int .i64 0, .string s])] w fun e w' => e = .returned (.string (strOfNums [3, (s.size : Int)] ++ s)) ∧ Below w.heap.size w w' := by
  have hm : (s.size : Int) % 256 = s.size := by omega
  obtain ⟨i0, hi, hi0, hi1, hi2⟩ := info_parts info5
  go_enter Try.func115, Try.ntmps115
  go_wp2_with fail
  refine (specValueOk_any _ _ _ _ (by unfold maxLen; omega)).mono ?_
  rintro e w1 ⟨rfl, hb1⟩
  rw [hok]
  clear hok
  have hz1 := hb1.size
  simp only [World.size_alloc] at hz1
  have hy1 : w.heap.size < w1.heap.size := by omega
  have hB1 : w.heap.size + 1 ≤ w1.heap.size := by omega
  have bel1 : Below w.heap.size w w1 := bstep hb1 (by simp) ((Below.refl _ _).alloc (Nat.le_refl _) _)
  have qa : w1.cell? ⟨w.heap.size, 0, none⟩ = some (.int .i64 3) := cell_later hb1 (by go_simp)
  have qb : w1.cell? ⟨w.heap.size, 1, none⟩ = some (.int .i64 0) := cell_later hb1 (by go_simp)
  have qc : w1.cell? ⟨w.heap.size, 2, none⟩ = some (.string s) := cell_later hb1 (by go_simp)
  go_wp2_with (at_builtin; refine wpList_append_own _ rfl _ _ 105 rfl (w.heap.size + 1) 5 i0 (.int .u8 0) 1 1 Try.underlying105 hi hi0 hi1 hi2 rfl (by decide) _ 1 ([(3 : Int)].map (Value.int .u8)) rfl ((own_litg w1 (w.heap.size + 1) w1.heap.size [3] rfl hB1 (by decide)).alloc _) ⟨w1.heap.size + 1, 0, none⟩ 1 1 [.int .u8 (s.size : Int)] rfl rfl ?c1 ?c2 ?c3 ?c4 ?c5 ?_)
  case c1 =>
    intro q u hq
    match q, hq with
    | 0, hq => simp at hq; subst hq; simp [Addr.add]
  case c2 => intro u hu; simp at hu; subst hu; rfl
  case c3 => unfold maxLen; omega
  case c4 => omega
  case c5 => simp; omega
  intro v' w2 hown' hgrow _
  have hcv := conv_own [3, (s.size : Int)] hown' (by omega)
  have hsz : ((strOfNums [3, (s.size : Int)]).size : Int) ≤ 200 := by rw [nums_size]; simp
  have R2 : Below w.heap.size w w2 := own_grow (own_base (own_litg w1 (w.heap.size + 1) w1.heap.size [3] rfl hB1 (by decide)) (by omega)) (bel1.alloc (by omega) _) (by simp; omega) hgrow
  have R4 : w2.cell? ⟨w.heap.size, 2, none⟩ = some (.string s) := far_cell (own_litg w1 (w.heap.size + 1) w1.heap.size [3] rfl hB1 (by decide)) (by omega) (by go_simp) hgrow
  clear hown' hgrow
  go_wp2_with fail
  go_returns
  exact ⟨rfl, R2⟩
theorem specPut_any (k n : Int) (s : ByteArray) (w : World) (hs : s.size ≤ maxLen) :
    Calls Try.prog 115 #[(.agg #[.int .i64 k, .int .i64 n, .string s])] w fun e w' => e = .returned (.string (putS k n s)) ∧ Below w.heap.size w w' := by
  by_cases hok : okB k n s = true
  · by_cases h0 : k = 0
    · subst h0
      rw [putS_0 n s hok]
      have h := hok
      rw [okB_0] at h
      simp at h
      obtain ⟨rfl, h⟩ := h
      obtain rfl := nil_of s h
      exact specPut_0 w hok
    by_cases h1 : k = 1
    · subst h1
      rw [putS_1 n s hok]
      have h := hok
      rw [okB_1] at h
      simp at h
      obtain rfl := nil_of s h
      exact specPut_1 n w hok
    by_cases h2 : k = 2
    · subst h2
      rw [putS_2 n s hok]
      have h := hok
      rw [okB_2] at h
      simp at h
      obtain ⟨hn, h⟩ := h
      obtain rfl := nil_of s h
      exact specPut_2 n hn w hok
    by_cases h3 : k = 3
    · subst h3
      rw [putS_3 n s hok]
      have h := hok
      rw [okB_3] at h
      simp at h
      obtain ⟨rfl, h⟩ := h
      exact specPut_3 s h w hok
    · rw [okB_x k n s h0 h1 h2 h3] at hok; cases hok
  · rw [putS_no k n s (by simpa using hok)]; exact specPut_no k n s w hs (by simpa using hok)
end Go.Proofs.Ytdkbhoichmcodaa
