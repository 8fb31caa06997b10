/- Own texts, joined: contracts that the law's proof goes by. -/
import Derived.Test.YtbmoimfimeiglaaGreatProg
import Derived.KernelRfl
import Derived.Test.YtbmoimfimeiglaaGreatGLFnLog1
import Derived.Test.YtbmoimfimeiglaaGreatGLFnLog9
import Derived.Handy
import Derived.Deep.RegionWith
import Derived.Deep.RegionHeld3
import Derived.Test.YtbmoimfimeiglaaGreatGLFnLog22
import Derived.Test.YtbmoimfimeiglaaGreatGLFnLog7
namespace Go.Proofs.YtbmoimfimeiglaaGreat
theorem ta_nullForm_nullForm (w : World) : (Instr.typeAssert (.iface 186 (.agg #[])) 170 186 true).run Tryz.prog w = .ok (.tuple #[.agg #[], .bool true]) w := by kernel_rfl
theorem ta_nullForm_intForm (w : World) : (Instr.typeAssert (.iface 186 (.agg #[])) 170 189 true).run Tryz.prog w = .ok (.tuple #[.agg #[.int .i64 0], .bool false]) w := by kernel_rfl
theorem ta_nullForm_boolForm (w : World) : (Instr.typeAssert (.iface 186 (.agg #[])) 170 191 true).run Tryz.prog w = .ok (.tuple #[.agg #[.int .i64 0], .bool false]) w := by kernel_rfl
theorem ta_nullForm_textForm (w : World) : (Instr.typeAssert (.iface 186 (.agg #[])) 170 194 true).run Tryz.prog w = .ok (.tuple #[.agg #[.string ⟨#[]⟩], .bool false]) w := by kernel_rfl
theorem ta_intForm_nullForm (n : Int) (w : World) : (Instr.typeAssert (.iface 189 (.agg #[.int .i64 n])) 170 186 true).run Tryz.prog w = .ok (.tuple #[.agg #[], .bool false]) w := by kernel_rfl
theorem ta_intForm_intForm (n : Int) (w : World) : (Instr.typeAssert (.iface 189 (.agg #[.int .i64 n])) 170 189 true).run Tryz.prog w = .ok (.tuple #[.agg #[.int .i64 n], .bool true]) w := by kernel_rfl
theorem ta_intForm_boolForm (n : Int) (w : World) : (Instr.typeAssert (.iface 189 (.agg #[.int .i64 n])) 170 191 true).run Tryz.prog w = .ok (.tuple #[.agg #[.int .i64 0], .bool false]) w := by kernel_rfl
theorem ta_intForm_textForm (n : Int) (w : World) : (Instr.typeAssert (.iface 189 (.agg #[.int .i64 n])) 170 194 true).run Tryz.prog w = .ok (.tuple #[.agg #[.string ⟨#[]⟩], .bool false]) w := by kernel_rfl
theorem ta_boolForm_nullForm (n : Int) (w : World) : (Instr.typeAssert (.iface 191 (.agg #[.int .i64 n])) 170 186 true).run Tryz.prog w = .ok (.tuple #[.agg #[], .bool false]) w := by kernel_rfl
theorem ta_boolForm_intForm (n : Int) (w : World) : (Instr.typeAssert (.iface 191 (.agg #[.int .i64 n])) 170 189 true).run Tryz.prog w = .ok (.tuple #[.agg #[.int .i64 0], .bool false]) w := by kernel_rfl
theorem ta_boolForm_boolForm (n : Int) (w : World) : (Instr.typeAssert (.iface 191 (.agg #[.int .i64 n])) 170 191 true).run Tryz.prog w = .ok (.tuple #[.agg #[.int .i64 n], .bool true]) w := by kernel_rfl
theorem ta_boolForm_textForm (n : Int) (w : World) : (Instr.typeAssert (.iface 191 (.agg #[.int .i64 n])) 170 194 true).run Tryz.prog w = .ok (.tuple #[.agg #[.string ⟨#[]⟩], .bool false]) w := by kernel_rfl
theorem ta_textForm_nullForm (s : ByteArray) (w : World) : (Instr.typeAssert (.iface 194 (.agg #[.string s])) 170 186 true).run Tryz.prog w = .ok (.tuple #[.agg #[], .bool false]) w := by kernel_rfl
theorem ta_textForm_intForm (s : ByteArray) (w : World) : (Instr.typeAssert (.iface 194 (.agg #[.string s])) 170 189 true).run Tryz.prog w = .ok (.tuple #[.agg #[.int .i64 0], .bool false]) w := by kernel_rfl
theorem ta_textForm_boolForm (s : ByteArray) (w : World) : (Instr.typeAssert (.iface 194 (.agg #[.string s])) 170 191 true).run Tryz.prog w = .ok (.tuple #[.agg #[.int .i64 0], .bool false]) w := by kernel_rfl
theorem ta_textForm_textForm (s : ByteArray) (w : World) : (Instr.typeAssert (.iface 194 (.agg #[.string s])) 170 194 true).run Tryz.prog w = .ok (.tuple #[.agg #[.string s], .bool true]) w := by kernel_rfl
theorem ta_nil_nullForm (w : World) : (Instr.typeAssert .nilIface 170 186 true).run Tryz.prog w = .ok (.tuple #[.agg #[], .bool false]) w := by kernel_rfl
theorem ta_nil_intForm (w : World) : (Instr.typeAssert .nilIface 170 189 true).run Tryz.prog w = .ok (.tuple #[.agg #[.int .i64 0], .bool false]) w := by kernel_rfl
theorem ta_nil_boolForm (w : World) : (Instr.typeAssert .nilIface 170 191 true).run Tryz.prog w = .ok (.tuple #[.agg #[.int .i64 0], .bool false]) w := by kernel_rfl
theorem ta_nil_textForm (w : World) : (Instr.typeAssert .nilIface 170 194 true).run Tryz.prog w = .ok (.tuple #[.agg #[.string ⟨#[]⟩], .bool false]) w := by kernel_rfl
end Go.Proofs.YtbmoimfimeiglaaGreat
namespace Go.Proofs.YtbmoimfimeiglaaGreat
open Go.RowKit
set_option linter.unusedVariables false
attribute [local go_sem] ta_nullForm_nullForm ta_nullForm_intForm ta_nullForm_boolForm ta_nullForm_textForm ta_intForm_nullForm ta_intForm_intForm ta_intForm_boolForm ta_intForm_textForm ta_boolForm_nullForm ta_boolForm_intForm ta_boolForm_boolForm ta_boolForm_textForm ta_textForm_nullForm ta_textForm_intForm ta_textForm_boolForm ta_textForm_textForm ta_nil_nullForm ta_nil_intForm ta_nil_boolForm ta_nil_textForm
def okB (k n : Int) (s : ByteArray) : Bool :=
  if k = 0 then n == 0 && s.toList == [] else if k = 1 then s.toList == [] else if k = 2 then (n == 0 || n == 1) && s.toList == [] else if k = 3 then n == 0 && decide (s.size ≤ 100) else false
theorem okB_0 (n : Int) (s : ByteArray) : okB 0 n s = (n == 0 && s.toList == []) := rfl
theorem okB_1 (n : Int) (s : ByteArray) : okB 1 n s = (s.toList == []) := rfl
theorem okB_2 (n : Int) (s : ByteArray) : okB 2 n s = ((n == 0 || n == 1) && s.toList == []) := rfl
theorem okB_3 (n : Int) (s : ByteArray) : okB 3 n s = (n == 0 && decide (s.size ≤ 100)) := rfl
theorem okB_x (k n : Int) (s : ByteArray) (h0 : ¬ k = 0) (h1 : ¬ k = 1) (h2 : ¬ k = 2) (h3 : ¬ k = 3) : okB k n s = false := by simp [okB, h0, h1, h2, h3]
set_option maxHeartbeats 400000 in
theorem formOf_0 (n : Int) (s : ByteArray) (w : World) :
    Calls Tryz.prog 115 #[(.agg #[.int .i64 0, .int .i64 n, .string s])] w fun e w' => e = .returned (.iface 186 (.agg #[])) ∧ w' = w.alloc (.cells #[.int .i64 0, .int .i64 n, .string s] 119) := by
  go_enter Tryz.func115, Tryz.ntmps115
  go_wp2
  go_returns
  exact ⟨rfl, rfl⟩
set_option maxHeartbeats 400000 in
theorem formOf_1 (n : Int) (s : ByteArray) (w : World) :
    Calls Tryz.prog 115 #[(.agg #[.int .i64 1, .int .i64 n, .string s])] w fun e w' => e = .returned (.iface 189 (.agg #[.int .i64 n])) ∧ w' = w.alloc (.cells #[.int .i64 1, .int .i64 n, .string s] 119) := by
  go_enter Tryz.func115, Tryz.ntmps115
  go_wp2
  go_returns
  exact ⟨rfl, rfl⟩
set_option maxHeartbeats 400000 in
theorem formOf_2 (n : Int) (s : ByteArray) (w : World) :
    Calls Tryz.prog 115 #[(.agg #[.int .i64 2, .int .i64 n, .string s])] w fun e w' => e = .returned (.iface 191 (.agg #[.int .i64 n])) ∧ w' = w.alloc (.cells #[.int .i64 2, .int .i64 n, .string s] 119) := by
  go_enter Tryz.func115, Tryz.ntmps115
  go_wp2
  go_returns
  exact ⟨rfl, rfl⟩
set_option maxHeartbeats 400000 in
theorem formOf_3 (n : Int) (s : ByteArray) (w : World) :
    Calls Tryz.prog 115 #[(.agg #[.int .i64 3, .int .i64 n, .string s])] w fun e w' => e = .returned (.iface 194 (.agg #[.string s])) ∧ w' = w.alloc (.cells #[.int .i64 3, .int .i64 n, .string s] 119) := by
  go_enter Tryz.func115, Tryz.ntmps115
  go_wp2
  go_returns
  exact ⟨rfl, rfl⟩
set_option maxHeartbeats 400000 in
theorem formOf_x (k : Int) (n : Int) (s : ByteArray) (w : World) (h0 : (k == 0) = false) (h1 : (k == 1) = false) (h2 : (k == 2) = false) (h3 : (k == 3) = false) :
    Calls Tryz.prog 115 #[(.agg #[.int .i64 k, .int .i64 n, .string s])] w fun e w' => e = .returned (.nilIface) ∧ w' = w.alloc (.cells #[.int .i64 k, .int .i64 n, .string s] 119) := by
  go_enter Tryz.func115, Tryz.ntmps115
  go_wp2
  go_returns
  exact ⟨rfl, rfl⟩
set_option maxHeartbeats 400000 in
theorem valueOf_0 (w : World) :
    Calls Tryz.prog 120 #[.iface 186 (.agg #[])] w fun e w' => e = .returned (.agg #[.int .i64 0, .int .i64 0, .string ⟨#[]⟩]) ∧ Below w.heap.size w w' := by
  go_enter Tryz.func120, Tryz.ntmps120
  go_wp2
  go_returns
  refine ⟨rfl, ?_⟩
  go_grown
set_option maxHeartbeats 400000 in
theorem valueOf_1 (n : Int) (w : World) :
    Calls Tryz.prog 120 #[.iface 189 (.agg #[.int .i64 n])] w fun e w' => e = .returned (.agg #[.int .i64 1, .int .i64 n, .string ⟨#[]⟩]) ∧ Below w.heap.size w w' := by
  go_enter Tryz.func120, Tryz.ntmps120
  go_wp2
  go_returns
  refine ⟨rfl, ?_⟩
  go_grown
set_option maxHeartbeats 400000 in
theorem valueOf_2 (n : Int) (w : World) :
    Calls Tryz.prog 120 #[.iface 191 (.agg #[.int .i64 n])] w fun e w' => e = .returned (.agg #[.int .i64 2, .int .i64 n, .string ⟨#[]⟩]) ∧ Below w.heap.size w w' := by
  go_enter Tryz.func120, Tryz.ntmps120
  go_wp2
  go_returns
  refine ⟨rfl, ?_⟩
  go_grown
set_option maxHeartbeats 400000 in
theorem valueOf_3 (s : ByteArray) (w : World) :
    Calls Tryz.prog 120 #[.iface 194 (.agg #[.string s])] w fun e w' => e = .returned (.agg #[.int .i64 3, .int .i64 0, .string s]) ∧ Below w.heap.size w w' := by
  go_enter Tryz.func120, Tryz.ntmps120
  go_wp2
  go_returns
  refine ⟨rfl, ?_⟩
  go_grown
set_option maxHeartbeats 400000 in
theorem inRange_2 (n : Int) (w : World) (h : n = 0 ∨ n = 1) :
    Calls Tryz.prog 147 #[.agg #[.int .i64 n]] w fun e w' => e = .returned (.bool true) ∧ Below w.heap.size w w' := by
  rcases h with rfl | rfl
  · go_enter Tryz.func147, Tryz.ntmps147
    go_wp2
    go_returns
    refine ⟨rfl, ?_⟩
    go_grown
  · go_enter Tryz.func147, Tryz.ntmps147
    go_wp2
    go_returns
    refine ⟨rfl, ?_⟩
    go_grown
set_option maxHeartbeats 400000 in
theorem inRange_2x (n : Int) (w : World) (h0 : (n == 0) = false) (h1 : (n == 1) = false) :
    Calls Tryz.prog 147 #[.agg #[.int .i64 n]] w fun e w' => e = .returned (.bool false) ∧ Below w.heap.size w w' := by
  go_enter Tryz.func147, Tryz.ntmps147
  go_wp2
  go_returns
  refine ⟨rfl, ?_⟩
  go_grown
set_option maxHeartbeats 400000 in
theorem inRange_3 (s : ByteArray) (w : World) (hs : s.size ≤ maxLen) (h : (s.size : Int) ≤ 100) :
    Calls Tryz.prog 148 #[.agg #[.string s]] w fun e w' => e = .returned (.bool true) ∧ Below w.heap.size w w' := by
  unfold maxLen at hs
  go_enter Tryz.func148, Tryz.ntmps148
  go_wp2
  go_returns
  refine ⟨ret_bool (by first | (simp; done) | (simp; omega)), ?_⟩
  go_grown
set_option maxHeartbeats 400000 in
theorem inRange_3x (s : ByteArray) (w : World) (hs : s.size ≤ maxLen) (h : 100 < (s.size : Int)) :
    Calls Tryz.prog 148 #[.agg #[.string s]] w fun e w' => e = .returned (.bool false) ∧ Below w.heap.size w w' := by
  unfold maxLen at hs
  have hd : decide ((s.size : Int) ≤ 100) = false := by simp; omega
  go_enter Tryz.func148, Tryz.ntmps148
  go_wp2
  go_returns
  refine ⟨rfl, ?_⟩
  go_grown
theorem beq0 (n : Int) : ((0 : Int) == n) = (n == 0) := by rw [Bool.eq_iff_iff, beq_iff_eq, beq_iff_eq]; exact eq_comm
end Go.Proofs.YtbmoimfimeiglaaGreat
namespace Go.Proofs.YtbmoimfimeiglaaGreat
open Go.RowKit
set_option linter.unusedVariables false
def getN (s : ByteArray) (i : Nat) : Int × Int × ByteArray × Int :=
  if bAt s i = 0 then (0, 0, ⟨#[]⟩, (i : Int) + 1)
  else if bAt s i = 1 ∧ i + 9 ≤ s.size then (1, numAt s (i + 1), ⟨#[]⟩, (i : Int) + 9)
  else if bAt s i = 2 ∧ i + 2 ≤ s.size ∧ bAt s (i + 1) ≤ 1 then (2, (bAt s (i + 1) : Int), ⟨#[]⟩, (i : Int) + 2)
  else if bAt s i = 3 ∧ i + 2 ≤ s.size ∧ i + 2 + bAt s (i + 1) ≤ s.size ∧ bAt s (i + 1) ≤ 100 then (3, 0, s.extract (i + 2) (i + 2 + bAt s (i + 1)), (i : Int) + (2 + (bAt s (i + 1) : Int)))
  else (0, 0, ⟨#[]⟩, -1)
def getT (s : ByteArray) (i : Int) : Int × Int × ByteArray × Int := if 0 ≤ i ∧ i < s.size then getN s i.toNat else (0, 0, ⟨#[]⟩, -1)
theorem getT_out (s : ByteArray) (i : Int) (h : ¬ (0 ≤ i ∧ i < s.size)) : getT s i = (0, 0, ⟨#[]⟩, -1) := if_neg h
theorem getT_in (s : ByteArray) (i : Nat) (h : i < s.size) : getT s i = getN s i := by rw [getT, if_pos (by omega), Int.toNat_natCast]
theorem getN_0 (s : ByteArray) (i : Nat) (h : bAt s i = 0) : getN s i = (0, 0, ⟨#[]⟩, (i : Int) + 1) := if_pos h
theorem getN_1 (s : ByteArray) (i : Nat) (h : bAt s i = 1) (h9 : i + 9 ≤ s.size) : getN s i = (1, numAt s (i + 1), ⟨#[]⟩, (i : Int) + 9) := by rw [getN, if_neg (by omega), if_pos ⟨h, h9⟩]
theorem getN_2 (s : ByteArray) (i : Nat) (h : bAt s i = 2) (h2 : i + 2 ≤ s.size) (hm : bAt s (i + 1) ≤ 1) : getN s i = (2, (bAt s (i + 1) : Int), ⟨#[]⟩, (i : Int) + 2) := by rw [getN, if_neg (by omega), if_neg (by omega), if_pos ⟨h, h2, hm⟩]
theorem getN_3 (s : ByteArray) (i : Nat) (h : bAt s i = 3) (h2 : i + 2 ≤ s.size) (hn : i + 2 + bAt s (i + 1) ≤ s.size) (hm : bAt s (i + 1) ≤ 100) : getN s i = (3, 0, s.extract (i + 2) (i + 2 + bAt s (i + 1)), (i : Int) + (2 + (bAt s (i + 1) : Int))) := by
  rw [getN, if_neg (by omega), if_neg (by omega), if_neg (by omega), if_pos ⟨h, h2, hn, hm⟩]
theorem getN_x (s : ByteArray) (i : Nat) (h0 : bAt s i ≠ 0) (h1 : ¬ (bAt s i = 1 ∧ i + 9 ≤ s.size)) (h2 : ¬ (bAt s i = 2 ∧ i + 2 ≤ s.size ∧ bAt s (i + 1) ≤ 1)) (h3 : ¬ (bAt s i = 3 ∧ i + 2 ≤ s.size ∧ i + 2 + bAt s (i + 1) ≤ s.size ∧ bAt s (i + 1) ≤ 100)) : getN s i = (0, 0, ⟨#[]⟩, -1) := by
  rw [getN, if_neg h0, if_neg h1, if_neg h2, if_neg h3]
theorem numAt_extract (s : ByteArray) (i : Nat) (h : i + 9 ≤ s.size) : numAt (s.extract i s.size) 1 = numAt s (i + 1) := by
  rw [numAt, numAt, extract_list, List.drop_take, List.drop_drop, List.take_take, show min 8 (s.size - i - 1) = 8 from by omega]
set_option maxHeartbeats 2000000 in
set_option maxRecDepth 100000 in
theorem get_0 (s : ByteArray) (i : Nat) (m : Nat) (w : World) (hi : i < s.size) (hs : s.size ≤ 1048576) (hc : bAt s i = 0) :
    Calls Tryz.prog 125 #[.string s, .int .i64 i] w fun e w' => e = .returned (.tuple #[.agg #[.int .i64 0, .int .i64 0, .string ⟨#[]⟩], .int .i64 ((i : Int) + 1)]) ∧ Below w.heap.size w w' := by
  have hl1 : (i : Int) < s.size := by omega
  have hl2 : (i : Int) ≤ s.size := by omega
  have hz : Hid ((s.extract i s.size).size = s.size - i) := extract_size s i s.size (by omega) (by omega)
  have ha0 : Hid (bAt (s.extract i s.size) 0 = bAt s i) := bAt_extract s i s.size 0 (by omega)
  go_enter Tryz.func125, Tryz.ntmps125
  go_wp2_with (first | (go_at_call 128; refine (ff_0 _ _ (by rw [hz.out]; omega) (by rw [hz.out]; omega) (by rw [ha0.out, hc])).mono ?_; rintro e w1 ⟨rfl, hb1⟩; have hf1 := (bcell hb1).2; have hz1 := hb1.size; (try simp at hz1); have hy1 : w.heap.size < w1.heap.size := (by omega); have qa1 : w1.cell? ⟨w.heap.size, 0, none⟩ = some (.int .i64 0) := cell_later hb1 (by go_simp); have qb1 : w1.cell? ⟨w.heap.size, 1, none⟩ = some (.int .i64 0) := cell_later hb1 (by go_simp); have qc1 : w1.cell? ⟨w.heap.size, 2, none⟩ = some (.string ⟨#[]⟩) := cell_later hb1 (by go_simp)) | (go_at_call 120; refine (valueOf_0 _).mono ?_; rintro e w3 ⟨rfl, hb3⟩; have hf3 := (bcell hb3).2; have hz3 := hb3.size; (try simp at hz3); have hy3 : w.heap.size < w3.heap.size := (by omega); have qa3 : w3.cell? ⟨w.heap.size, 0, none⟩ = some (.int .i64 0) := cell_later hb3 (by go_simp); have qb3 : w3.cell? ⟨w.heap.size, 1, none⟩ = some (.int .i64 0) := cell_later hb3 (by go_simp); have qc3 : w3.cell? ⟨w.heap.size, 2, none⟩ = some (.string ⟨#[]⟩) := cell_later hb3 (by go_simp)) | go_in)
  refine bodyPost_ret (v := .tuple #[.agg #[.int .i64 0, .int .i64 0, .string ⟨#[]⟩], .int .i64 ((i : Int) + 1)]) (by simp [results, Tryz.results125, go_sem, *]) rfl ⟨rfl, ?_⟩
  exact bela
set_option maxHeartbeats 2000000 in
set_option maxRecDepth 100000 in
theorem get_1 (s : ByteArray) (i : Nat) (m : Nat) (w : World) (hi : i < s.size) (hs : s.size ≤ 1048576) (hc : bAt s i = 1) (h9 : i + 9 ≤ s.size) :
    Calls Tryz.prog 125 #[.string s, .int .i64 i] w fun e w' => e = .returned (.tuple #[.agg #[.int .i64 1, .int .i64 (numAt (s.extract i s.size) 1), .string ⟨#[]⟩], .int .i64 ((i : Int) + 9)]) ∧ Below w.heap.size w w' := by
  have hl1 : (i : Int) < s.size := by omega
  have hl2 : (i : Int) ≤ s.size := by omega
  have hz : Hid ((s.extract i s.size).size = s.size - i) := extract_size s i s.size (by omega) (by omega)
  have ha0 : Hid (bAt (s.extract i s.size) 0 = bAt s i) := bAt_extract s i s.size 0 (by omega)
  go_enter Tryz.func125, Tryz.ntmps125
  go_wp2_with (first | (go_at_call 128; refine (ff_1 _ _ (by rw [hz.out]; omega) (by rw [hz.out]; omega) (by rw [ha0.out, hc]) (by rw [hz.out]; omega)).mono ?_; rintro e w1 ⟨rfl, hb1⟩; have hf1 := (bcell hb1).2; have hz1 := hb1.size; (try simp at hz1); have hy1 : w.heap.size < w1.heap.size := (by omega); have qa1 : w1.cell? ⟨w.heap.size, 0, none⟩ = some (.int .i64 0) := cell_later hb1 (by go_simp); have qb1 : w1.cell? ⟨w.heap.size, 1, none⟩ = some (.int .i64 0) := cell_later hb1 (by go_simp); have qc1 : w1.cell? ⟨w.heap.size, 2, none⟩ = some (.string ⟨#[]⟩) := cell_later hb1 (by go_simp)) | (go_at_call 120; refine (valueOf_1 _ _).mono ?_; rintro e w3 ⟨rfl, hb3⟩; have hf3 := (bcell hb3).2; have hz3 := hb3.size; (try simp at hz3); have hy3 : w.heap.size < w3.heap.size := (by omega); have qa3 : w3.cell? ⟨w.heap.size, 0, none⟩ = some (.int .i64 0) := cell_later hb3 (by go_simp); have qb3 : w3.cell? ⟨w.heap.size, 1, none⟩ = some (.int .i64 0) := cell_later hb3 (by go_simp); have qc3 : w3.cell? ⟨w.heap.size, 2, none⟩ = some (.string ⟨#[]⟩) := cell_later hb3 (by go_simp)) | go_in)
  refine bodyPost_ret (v := .tuple #[.agg #[.int .i64 1, .int .i64 (numAt (s.extract i s.size) 1), .string ⟨#[]⟩], .int .i64 ((i : Int) + 9)]) (by simp [results, Tryz.results125, go_sem, *]) rfl ⟨rfl, ?_⟩
  exact bela
set_option maxHeartbeats 2000000 in
set_option maxRecDepth 100000 in
theorem get_2 (s : ByteArray) (i : Nat) (m : Nat) (w : World) (hi : i < s.size) (hs : s.size ≤ 1048576) (hc : bAt s i = 2) (h2 : i + 2 ≤ s.size) (hm : bAt s (i + 1) = m) (hg : m = 0 ∨ m = 1) :
    Calls Tryz.prog 125 #[.string s, .int .i64 i] w fun e w' => e = .returned (.tuple #[.agg #[.int .i64 2, .int .i64 (m : Int), .string ⟨#[]⟩], .int .i64 ((i : Int) + 2)]) ∧ Below w.heap.size w w' := by
  have hl1 : (i : Int) < s.size := by omega
  have hl2 : (i : Int) ≤ s.size := by omega
  have hz : Hid ((s.extract i s.size).size = s.size - i) := extract_size s i s.size (by omega) (by omega)
  have ha0 : Hid (bAt (s.extract i s.size) 0 = bAt s i) := bAt_extract s i s.size 0 (by omega)
  go_enter Tryz.func125, Tryz.ntmps125
  go_wp2_with (first | (go_at_call 128; refine (ff_2 _ m _ (by rw [hz.out]; omega) (by rw [hz.out]; omega) (by rw [ha0.out, hc]) (by rw [hz.out]; omega) (by rw [bAt_extract s i s.size 1 (by omega)]; exact hm)).mono ?_; rintro e w1 ⟨rfl, hb1⟩; have hf1 := (bcell hb1).2; have hz1 := hb1.size; (try simp at hz1); have hy1 : w.heap.size < w1.heap.size := (by omega); have qa1 : w1.cell? ⟨w.heap.size, 0, none⟩ = some (.int .i64 0) := cell_later hb1 (by go_simp); have qb1 : w1.cell? ⟨w.heap.size, 1, none⟩ = some (.int .i64 0) := cell_later hb1 (by go_simp); have qc1 : w1.cell? ⟨w.heap.size, 2, none⟩ = some (.string ⟨#[]⟩) := cell_later hb1 (by go_simp)) | (go_at_call 147; refine (inRange_2 _ _ (by omega)).mono ?_; rintro e w2 ⟨rfl, hb2⟩; have hf2 := (bcell hb2).2; have hz2 := hb2.size; (try simp at hz2); have hy2 : w.heap.size < w2.heap.size := (by omega); have qa2 : w2.cell? ⟨w.heap.size, 0, none⟩ = some (.int .i64 0) := cell_later hb2 (by go_simp); have qb2 : w2.cell? ⟨w.heap.size, 1, none⟩ = some (.int .i64 0) := cell_later hb2 (by go_simp); have qc2 : w2.cell? ⟨w.heap.size, 2, none⟩ = some (.string ⟨#[]⟩) := cell_later hb2 (by go_simp)) | (go_at_call 120; refine (valueOf_2 _ _).mono ?_; rintro e w3 ⟨rfl, hb3⟩; have hf3 := (bcell hb3).2; have hz3 := hb3.size; (try simp at hz3); have hy3 : w.heap.size < w3.heap.size := (by omega); have qa3 : w3.cell? ⟨w.heap.size, 0, none⟩ = some (.int .i64 0) := cell_later hb3 (by go_simp); have qb3 : w3.cell? ⟨w.heap.size, 1, none⟩ = some (.int .i64 0) := cell_later hb3 (by go_simp); have qc3 : w3.cell? ⟨w.heap.size, 2, none⟩ = some (.string ⟨#[]⟩) := cell_later hb3 (by go_simp)) | go_in)
  refine bodyPost_ret (v := .tuple #[.agg #[.int .i64 2, .int .i64 (m : Int), .string ⟨#[]⟩], .int .i64 ((i : Int) + 2)]) (by simp [results, Tryz.results125, go_sem, *]) rfl ⟨rfl, ?_⟩
  exact bela
set_option maxHeartbeats 2000000 in
set_option maxRecDepth 100000 in
theorem get_2x (s : ByteArray) (i : Nat) (m : Nat) (w : World) (hi : i < s.size) (hs : s.size ≤ 1048576) (hc : bAt s i = 2) (h2 : i + 2 ≤ s.size) (hm : bAt s (i + 1) = m) (hg : 2 ≤ m) :
    Calls Tryz.prog 125 #[.string s, .int .i64 i] w fun e w' => e = .returned (.tuple #[.agg #[.int .i64 0, .int .i64 0, .string ⟨#[]⟩], .int .i64 (-1)]) ∧ Below w.heap.size w w' := by
  have hl1 : (i : Int) < s.size := by omega
  have hl2 : (i : Int) ≤ s.size := by omega
  have hz : Hid ((s.extract i s.size).size = s.size - i) := extract_size s i s.size (by omega) (by omega)
  have ha0 : Hid (bAt (s.extract i s.size) 0 = bAt s i) := bAt_extract s i s.size 0 (by omega)
  go_enter Tryz.func125, Tryz.ntmps125
  go_wp2_with (first | (go_at_call 128; refine (ff_2 _ m _ (by rw [hz.out]; omega) (by rw [hz.out]; omega) (by rw [ha0.out, hc]) (by rw [hz.out]; omega) (by rw [bAt_extract s i s.size 1 (by omega)]; exact hm)).mono ?_; rintro e w1 ⟨rfl, hb1⟩; have hf1 := (bcell hb1).2; have hz1 := hb1.size; (try simp at hz1); have hy1 : w.heap.size < w1.heap.size := (by omega); have qa1 : w1.cell? ⟨w.heap.size, 0, none⟩ = some (.int .i64 0) := cell_later hb1 (by go_simp); have qb1 : w1.cell? ⟨w.heap.size, 1, none⟩ = some (.int .i64 0) := cell_later hb1 (by go_simp); have qc1 : w1.cell? ⟨w.heap.size, 2, none⟩ = some (.string ⟨#[]⟩) := cell_later hb1 (by go_simp)) | (go_at_call 147; refine (inRange_2x _ _ (by simp; omega) (by simp; omega)).mono ?_; rintro e w2 ⟨rfl, hb2⟩; have hf2 := (bcell hb2).2; have hz2 := hb2.size; (try simp at hz2); have hy2 : w.heap.size < w2.heap.size := (by omega); have qa2 : w2.cell? ⟨w.heap.size, 0, none⟩ = some (.int .i64 0) := cell_later hb2 (by go_simp); have qb2 : w2.cell? ⟨w.heap.size, 1, none⟩ = some (.int .i64 0) := cell_later hb2 (by go_simp); have qc2 : w2.cell? ⟨w.heap.size, 2, none⟩ = some (.string ⟨#[]⟩) := cell_later hb2 (by go_simp)) | go_in)
  refine bodyPost_ret (v := .tuple #[.agg #[.int .i64 0, .int .i64 0, .string ⟨#[]⟩], .int .i64 (-1)]) (by simp [results, Tryz.results125, go_sem, *]) rfl ⟨rfl, ?_⟩
  exact bela
set_option maxHeartbeats 2000000 in
set_option maxRecDepth 100000 in
theorem get_3 (s : ByteArray) (i : Nat) (m : Nat) (w : World) (hi : i < s.size) (hs : s.size ≤ 1048576) (hc : bAt s i = 3) (h2 : i + 2 ≤ s.size) (hm : bAt s (i + 1) = m) (hn : i + 2 + m ≤ s.size) (hg : m ≤ 100) :
    Calls Tryz.prog 125 #[.string s, .int .i64 i] w fun e w' => e = .returned (.tuple #[.agg #[.int .i64 3, .int .i64 0, .string ((s.extract i s.size).extract 2 (2 + m))], .int .i64 ((i : Int) + (2 + (m : Int)))]) ∧ Below w.heap.size w w' := by
  have hl1 : (i : Int) < s.size := by omega
  have hl2 : (i : Int) ≤ s.size := by omega
  have hz : Hid ((s.extract i s.size).size = s.size - i) := extract_size s i s.size (by omega) (by omega)
  have ha0 : Hid (bAt (s.extract i s.size) 0 = bAt s i) := bAt_extract s i s.size 0 (by omega)
  go_enter Tryz.func125, Tryz.ntmps125
  go_wp2_with (first | (go_at_call 128; refine (ff_3 _ m _ (by rw [hz.out]; omega) (by rw [hz.out]; omega) (by rw [ha0.out, hc]) (by rw [hz.out]; omega) (by rw [bAt_extract s i s.size 1 (by omega)]; exact hm) (by rw [hz.out]; omega)).mono ?_; rintro e w1 ⟨rfl, hb1⟩; have hf1 := (bcell hb1).2; have hz1 := hb1.size; (try simp at hz1); have hy1 : w.heap.size < w1.heap.size := (by omega); have qa1 : w1.cell? ⟨w.heap.size, 0, none⟩ = some (.int .i64 0) := cell_later hb1 (by go_simp); have qb1 : w1.cell? ⟨w.heap.size, 1, none⟩ = some (.int .i64 0) := cell_later hb1 (by go_simp); have qc1 : w1.cell? ⟨w.heap.size, 2, none⟩ = some (.string ⟨#[]⟩) := cell_later hb1 (by go_simp)) | (go_at_call 148; refine (inRange_3 _ _ (by unfold maxLen; rw [extract_size _ 2 (2 + m) (by omega) (by rw [hz.out]; omega)]; omega) (by rw [extract_size _ 2 (2 + m) (by omega) (by rw [hz.out]; omega)]; omega)).mono ?_; rintro e w2 ⟨rfl, hb2⟩; have hf2 := (bcell hb2).2; have hz2 := hb2.size; (try simp at hz2); have hy2 : w.heap.size < w2.heap.size := (by omega); have qa2 : w2.cell? ⟨w.heap.size, 0, none⟩ = some (.int .i64 0) := cell_later hb2 (by go_simp); have qb2 : w2.cell? ⟨w.heap.size, 1, none⟩ = some (.int .i64 0) := cell_later hb2 (by go_simp); have qc2 : w2.cell? ⟨w.heap.size, 2, none⟩ = some (.string ⟨#[]⟩) := cell_later hb2 (by go_simp)) | (go_at_call 120; refine (valueOf_3 _ _).mono ?_; rintro e w3 ⟨rfl, hb3⟩; have hf3 := (bcell hb3).2; have hz3 := hb3.size; (try simp at hz3); have hy3 : w.heap.size < w3.heap.size := (by omega); have qa3 : w3.cell? ⟨w.heap.size, 0, none⟩ = some (.int .i64 0) := cell_later hb3 (by go_simp); have qb3 : w3.cell? ⟨w.heap.size, 1, none⟩ = some (.int .i64 0) := cell_later hb3 (by go_simp); have qc3 : w3.cell? ⟨w.heap.size, 2, none⟩ = some (.string ⟨#[]⟩) := cell_later hb3 (by go_simp)) | go_in)
  refine bodyPost_ret (v := .tuple #[.agg #[.int .i64 3, .int .i64 0, .string ((s.extract i s.size).extract 2 (2 + m))], .int .i64 ((i : Int) + (2 + (m : Int)))]) (by simp [results, Tryz.results125, go_sem, *]) rfl ⟨rfl, ?_⟩
  exact bela
set_option maxHeartbeats 2000000 in
set_option maxRecDepth 100000 in
theorem get_3x (s : ByteArray) (i : Nat) (m : Nat) (w : World) (hi : i < s.size) (hs : s.size ≤ 1048576) (hc : bAt s i = 3) (h2 : i + 2 ≤ s.size) (hm : bAt s (i + 1) = m) (hn : i + 2 + m ≤ s.size) (hg : 101 ≤ m) :
    Calls Tryz.prog 125 #[.string s, .int .i64 i] w fun e w' => e = .returned (.tuple #[.agg #[.int .i64 0, .int .i64 0, .string ⟨#[]⟩], .int .i64 (-1)]) ∧ Below w.heap.size w w' := by
  have hl1 : (i : Int) < s.size := by omega
  have hl2 : (i : Int) ≤ s.size := by omega
  have hz : Hid ((s.extract i s.size).size = s.size - i) := extract_size s i s.size (by omega) (by omega)
  have ha0 : Hid (bAt (s.extract i s.size) 0 = bAt s i) := bAt_extract s i s.size 0 (by omega)
  go_enter Tryz.func125, Tryz.ntmps125
  go_wp2_with (first | (go_at_call 128; refine (ff_3 _ m _ (by rw [hz.out]; omega) (by rw [hz.out]; omega) (by rw [ha0.out, hc]) (by rw [hz.out]; omega) (by rw [bAt_extract s i s.size 1 (by omega)]; exact hm) (by rw [hz.out]; omega)).mono ?_; rintro e w1 ⟨rfl, hb1⟩; have hf1 := (bcell hb1).2; have hz1 := hb1.size; (try simp at hz1); have hy1 : w.heap.size < w1.heap.size := (by omega); have qa1 : w1.cell? ⟨w.heap.size, 0, none⟩ = some (.int .i64 0) := cell_later hb1 (by go_simp); have qb1 : w1.cell? ⟨w.heap.size, 1, none⟩ = some (.int .i64 0) := cell_later hb1 (by go_simp); have qc1 : w1.cell? ⟨w.heap.size, 2, none⟩ = some (.string ⟨#[]⟩) := cell_later hb1 (by go_simp)) | (go_at_call 148; refine (inRange_3x _ _ (by unfold maxLen; rw [extract_size _ 2 (2 + m) (by omega) (by rw [hz.out]; omega)]; omega) (by rw [extract_size _ 2 (2 + m) (by omega) (by rw [hz.out]; omega)]; omega)).mono ?_; rintro e w2 ⟨rfl, hb2⟩; have hf2 := (bcell hb2).2; have hz2 := hb2.size; (try simp at hz2); have hy2 : w.heap.size < w2.heap.size := (by omega); have qa2 : w2.cell? ⟨w.heap.size, 0, none⟩ = some (.int .i64 0) := cell_later hb2 (by go_simp); have qb2 : w2.cell? ⟨w.heap.size, 1, none⟩ = some (.int .i64 0) := cell_later hb2 (by go_simp); have qc2 : w2.cell? ⟨w.heap.size, 2, none⟩ = some (.string ⟨#[]⟩) := cell_later hb2 (by go_simp)) | go_in)
  refine bodyPost_ret (v := .tuple #[.agg #[.int .i64 0, .int .i64 0, .string ⟨#[]⟩], .int .i64 (-1)]) (by simp [results, Tryz.results125, go_sem, *]) rfl ⟨rfl, ?_⟩
  exact bela
set_option maxHeartbeats 2000000 in
set_option maxRecDepth 100000 in
theorem get_1n (s : ByteArray) (i : Nat) (m : Nat) (w : World) (hi : i < s.size) (hs : s.size ≤ 1048576) (hc : bAt s i = 1) (h9 : s.size < i + 9) :
    Calls Tryz.prog 125 #[.string s, .int .i64 i] w fun e w' => e = .returned (.tuple #[.agg #[.int .i64 0, .int .i64 0, .string ⟨#[]⟩], .int .i64 (-1)]) ∧ Below w.heap.size w w' := by
  have hl1 : (i : Int) < s.size := by omega
  have hl2 : (i : Int) ≤ s.size := by omega
  have hz : Hid ((s.extract i s.size).size = s.size - i) := extract_size s i s.size (by omega) (by omega)
  have ha0 : Hid (bAt (s.extract i s.size) 0 = bAt s i) := bAt_extract s i s.size 0 (by omega)
  go_enter Tryz.func125, Tryz.ntmps125
  go_wp2_with (first | (go_at_call 128; refine (ff_1x _ _ (by rw [hz.out]; omega) (by rw [hz.out]; omega) (by rw [ha0.out, hc]) (by rw [hz.out]; omega)).mono ?_; rintro e w1 ⟨rfl, hb1⟩; have hf1 := (bcell hb1).2; have hz1 := hb1.size; (try simp at hz1); have hy1 : w.heap.size < w1.heap.size := (by omega); have qa1 : w1.cell? ⟨w.heap.size, 0, none⟩ = some (.int .i64 0) := cell_later hb1 (by go_simp); have qb1 : w1.cell? ⟨w.heap.size, 1, none⟩ = some (.int .i64 0) := cell_later hb1 (by go_simp); have qc1 : w1.cell? ⟨w.heap.size, 2, none⟩ = some (.string ⟨#[]⟩) := cell_later hb1 (by go_simp)) | go_in)
  refine bodyPost_ret (v := .tuple #[.agg #[.int .i64 0, .int .i64 0, .string ⟨#[]⟩], .int .i64 (-1)]) (by simp [results, Tryz.results125, go_sem, *]) rfl ⟨rfl, ?_⟩
  exact bela
set_option maxHeartbeats 2000000 in
set_option maxRecDepth 100000 in
theorem get_2n (s : ByteArray) (i : Nat) (m : Nat) (w : World) (hi : i < s.size) (hs : s.size ≤ 1048576) (hc : bAt s i = 2) (h2 : s.size < i + 2) :
    Calls Tryz.prog 125 #[.string s, .int .i64 i] w fun e w' => e = .returned (.tuple #[.agg #[.int .i64 0, .int .i64 0, .string ⟨#[]⟩], .int .i64 (-1)]) ∧ Below w.heap.size w w' := by
  have hl1 : (i : Int) < s.size := by omega
  have hl2 : (i : Int) ≤ s.size := by omega
  have hz : Hid ((s.extract i s.size).size = s.size - i) := extract_size s i s.size (by omega) (by omega)
  have ha0 : Hid (bAt (s.extract i s.size) 0 = bAt s i) := bAt_extract s i s.size 0 (by omega)
  go_enter Tryz.func125, Tryz.ntmps125
  go_wp2_with (first | (go_at_call 128; refine (ff_2x _ _ (by rw [hz.out]; omega) (by rw [hz.out]; omega) (by rw [ha0.out, hc]) (by rw [hz.out]; omega)).mono ?_; rintro e w1 ⟨rfl, hb1⟩; have hf1 := (bcell hb1).2; have hz1 := hb1.size; (try simp at hz1); have hy1 : w.heap.size < w1.heap.size := (by omega); have qa1 : w1.cell? ⟨w.heap.size, 0, none⟩ = some (.int .i64 0) := cell_later hb1 (by go_simp); have qb1 : w1.cell? ⟨w.heap.size, 1, none⟩ = some (.int .i64 0) := cell_later hb1 (by go_simp); have qc1 : w1.cell? ⟨w.heap.size, 2, none⟩ = some (.string ⟨#[]⟩) := cell_later hb1 (by go_simp)) | go_in)
  refine bodyPost_ret (v := .tuple #[.agg #[.int .i64 0, .int .i64 0, .string ⟨#[]⟩], .int .i64 (-1)]) (by simp [results, Tryz.results125, go_sem, *]) rfl ⟨rfl, ?_⟩
  exact bela
set_option maxHeartbeats 2000000 in
set_option maxRecDepth 100000 in
theorem get_3n (s : ByteArray) (i : Nat) (m : Nat) (w : World) (hi : i < s.size) (hs : s.size ≤ 1048576) (hc : bAt s i = 3) (h2 : s.size < i + 2) :
    Calls Tryz.prog 125 #[.string s, .int .i64 i] w fun e w' => e = .returned (.tuple #[.agg #[.int .i64 0, .int .i64 0, .string ⟨#[]⟩], .int .i64 (-1)]) ∧ Below w.heap.size w w' := by
  have hl1 : (i : Int) < s.size := by omega
  have hl2 : (i : Int) ≤ s.size := by omega
  have hz : Hid ((s.extract i s.size).size = s.size - i) := extract_size s i s.size (by omega) (by omega)
  have ha0 : Hid (bAt (s.extract i s.size) 0 = bAt s i) := bAt_extract s i s.size 0 (by omega)
  go_enter Tryz.func125, Tryz.ntmps125
  go_wp2_with (first | (go_at_call 128; refine (ff_3x _ _ (by rw [hz.out]; omega) (by rw [hz.out]; omega) (by rw [ha0.out, hc]) (by rw [hz.out]; omega)).mono ?_; rintro e w1 ⟨rfl, hb1⟩; have hf1 := (bcell hb1).2; have hz1 := hb1.size; (try simp at hz1); have hy1 : w.heap.size < w1.heap.size := (by omega); have qa1 : w1.cell? ⟨w.heap.size, 0, none⟩ = some (.int .i64 0) := cell_later hb1 (by go_simp); have qb1 : w1.cell? ⟨w.heap.size, 1, none⟩ = some (.int .i64 0) := cell_later hb1 (by go_simp); have qc1 : w1.cell? ⟨w.heap.size, 2, none⟩ = some (.string ⟨#[]⟩) := cell_later hb1 (by go_simp)) | go_in)
  refine bodyPost_ret (v := .tuple #[.agg #[.int .i64 0, .int .i64 0, .string ⟨#[]⟩], .int .i64 (-1)]) (by simp [results, Tryz.results125, go_sem, *]) rfl ⟨rfl, ?_⟩
  exact bela
set_option maxHeartbeats 2000000 in
set_option maxRecDepth 100000 in
theorem get_3m (s : ByteArray) (i : Nat) (m : Nat) (w : World) (hi : i < s.size) (hs : s.size ≤ 1048576) (hc : bAt s i = 3) (h2 : i + 2 ≤ s.size) (hm : bAt s (i + 1) = m) (hn : s.size < i + 2 + m) :
    Calls Tryz.prog 125 #[.string s, .int .i64 i] w fun e w' => e = .returned (.tuple #[.agg #[.int .i64 0, .int .i64 0, .string ⟨#[]⟩], .int .i64 (-1)]) ∧ Below w.heap.size w w' := by
  have hl1 : (i : Int) < s.size := by omega
  have hl2 : (i : Int) ≤ s.size := by omega
  have hz : Hid ((s.extract i s.size).size = s.size - i) := extract_size s i s.size (by omega) (by omega)
  have ha0 : Hid (bAt (s.extract i s.size) 0 = bAt s i) := bAt_extract s i s.size 0 (by omega)
  go_enter Tryz.func125, Tryz.ntmps125
  go_wp2_with (first | (go_at_call 128; refine (ff_3y _ m _ (by rw [hz.out]; omega) (by rw [hz.out]; omega) (by rw [ha0.out, hc]) (by rw [hz.out]; omega) (by rw [bAt_extract s i s.size 1 (by omega)]; exact hm) (by rw [hz.out]; omega)).mono ?_; rintro e w1 ⟨rfl, hb1⟩; have hf1 := (bcell hb1).2; have hz1 := hb1.size; (try simp at hz1); have hy1 : w.heap.size < w1.heap.size := (by omega); have qa1 : w1.cell? ⟨w.heap.size, 0, none⟩ = some (.int .i64 0) := cell_later hb1 (by go_simp); have qb1 : w1.cell? ⟨w.heap.size, 1, none⟩ = some (.int .i64 0) := cell_later hb1 (by go_simp); have qc1 : w1.cell? ⟨w.heap.size, 2, none⟩ = some (.string ⟨#[]⟩) := cell_later hb1 (by go_simp)) | go_in)
  refine bodyPost_ret (v := .tuple #[.agg #[.int .i64 0, .int .i64 0, .string ⟨#[]⟩], .int .i64 (-1)]) (by simp [results, Tryz.results125, go_sem, *]) rfl ⟨rfl, ?_⟩
  exact bela
set_option maxHeartbeats 2000000 in
set_option maxRecDepth 100000 in
theorem get_4 (s : ByteArray) (i : Nat) (m : Nat) (w : World) (hi : i < s.size) (hs : s.size ≤ 1048576) (hc : 4 ≤ bAt s i) :
    Calls Tryz.prog 125 #[.string s, .int .i64 i] w fun e w' => e = .returned (.tuple #[.agg #[.int .i64 0, .int .i64 0, .string ⟨#[]⟩], .int .i64 (-1)]) ∧ Below w.heap.size w w' := by
  have hl1 : (i : Int) < s.size := by omega
  have hl2 : (i : Int) ≤ s.size := by omega
  have hz : Hid ((s.extract i s.size).size = s.size - i) := extract_size s i s.size (by omega) (by omega)
  have ha0 : Hid (bAt (s.extract i s.size) 0 = bAt s i) := bAt_extract s i s.size 0 (by omega)
  go_enter Tryz.func125, Tryz.ntmps125
  go_wp2_with (first | (go_at_call 128; refine (ff_z _ _ (by rw [hz.out]; omega) (by rw [hz.out]; omega) (by rw [ha0.out]; exact hc)).mono ?_; rintro e w1 ⟨rfl, hb1⟩; have hf1 := (bcell hb1).2; have hz1 := hb1.size; (try simp at hz1); have hy1 : w.heap.size < w1.heap.size := (by omega); have qa1 : w1.cell? ⟨w.heap.size, 0, none⟩ = some (.int .i64 0) := cell_later hb1 (by go_simp); have qb1 : w1.cell? ⟨w.heap.size, 1, none⟩ = some (.int .i64 0) := cell_later hb1 (by go_simp); have qc1 : w1.cell? ⟨w.heap.size, 2, none⟩ = some (.string ⟨#[]⟩) := cell_later hb1 (by go_simp)) | go_in)
  refine bodyPost_ret (v := .tuple #[.agg #[.int .i64 0, .int .i64 0, .string ⟨#[]⟩], .int .i64 (-1)]) (by simp [results, Tryz.results125, go_sem, *]) rfl ⟨rfl, ?_⟩
  exact bela
end Go.Proofs.YtbmoimfimeiglaaGreat
