/- Own text. The contract of the specification's l01Arith at each sign. -/
import Derived.Test.YtlakhcmbalcclaaArithS
namespace Go.Proofs.Ytlakhcmbalcclaa
open Go.RowKit
set_option linter.unusedVariables false
theorem addO_0 (a : Int) (ha : -9223372036854775808 ≤ a ∧ a ≤ 9223372036854775807) : addO a 0 = some a := by
  have e : wrap64 a = a := by unfold wrap64; omega
  rw [addO, Int.add_zero, e, if_pos (by simp)]
theorem subO_0 (a : Int) (ha : -9223372036854775808 ≤ a ∧ a ≤ 9223372036854775807) : subO a 0 = some a := by
  have e : wrap64 a = a := by unfold wrap64; omega
  rw [subO, Int.sub_zero, e, if_pos (by simp)]
set_option maxHeartbeats 1000000 in
set_option maxRecDepth 100000 in
theorem arith_add (op : ByteArray) (a b : Int) (w : World) (ha : -9223372036854775808 ≤ a ∧ a ≤ 9223372036854775807) (hb : -9223372036854775808 ≤ b ∧ b ≤ 9223372036854775807) (hop : op.toList = [43]) :
    Calls Try.prog 28 #[.string op, .int .i64 a, .int .i64 b] w fun e w' => e = .returned (.agg #[.int .i64 (kO (addO a b)), .int .i64 (nO (addO a b)), .string ⟨#[]⟩]) ∧ Below w.heap.size w w' := by
  by_cases hb0 : b = 0
  · subst hb0
    have hm : Hid (addO a 0 = some a) := addO_0 a ha
    clear ha hb
    go_enter Try.func28, Try.ntmps28
    go_wp2_with (first | (go_at_call 43; refine (l01Int_any _ _).mono ?_; rintro e w1 ⟨rfl, hb1⟩; have hf1 := (bcell hb1).2; have hz1 := hb1.size; (try simp at hz1); have hy1 : w.heap.size < w1.heap.size := (by omega); have q1_0_0 : w1.cell? ⟨w.heap.size, 0, none⟩ = some (.int .i64 0) := cell_later hb1 (by go_simp); have q1_0_1 : w1.cell? ⟨w.heap.size, 1, none⟩ = some (.int .i64 0) := cell_later hb1 (by go_simp); have q1_0_2 : w1.cell? ⟨w.heap.size, 2, none⟩ = some (.string ⟨#[]⟩) := cell_later hb1 (by go_simp)))
    refine bodyPost_ret (v := (.agg #[.int .i64 1, .int .i64 a, .string ⟨#[]⟩])) (by simp [results, Try.results28, go_sem, *]) rfl ⟨?_, ?_⟩
    · exact retO_some hm.out
    · repeat (first | exact Below.refl _ _ | refine Below.drew ?_ | refine Below.alloc ?_ (by first | (simp; done) | (simp; omega) | omega) _ | refine Below.setCell ?_ (by first | (simp; done) | (simp; omega) | omega) _ | refine bstep (by assumption) (by first | (simp; done) | (simp; omega) | omega) ?_)
  have eb : (b == 0) = false := by simp [hb0]
  clear ha hb
  go_enter Try.func28, Try.ntmps28
  go_wp2_with (first | (go_at_call 44; refine (l01Sum_any _ _ _).mono ?_; rintro e w1 ⟨rfl, hb1⟩; have hf1 := (bcell hb1).2; have hz1 := hb1.size; (try simp at hz1); have hy1 : w.heap.size < w1.heap.size := (by omega); have q1_0_0 : w1.cell? ⟨w.heap.size, 0, none⟩ = some (.int .i64 0) := cell_later hb1 (by go_simp); have q1_0_1 : w1.cell? ⟨w.heap.size, 1, none⟩ = some (.int .i64 0) := cell_later hb1 (by go_simp); have q1_0_2 : w1.cell? ⟨w.heap.size, 2, none⟩ = some (.string ⟨#[]⟩) := cell_later hb1 (by go_simp)))
  refine bodyPost_ret (v := (.agg #[.int .i64 (kO (addO a b)), .int .i64 (nO (addO a b)), .string ⟨#[]⟩])) (by simp [results, Try.results28, go_sem, *]) rfl ⟨?_, ?_⟩
  · rfl
  · repeat (first | exact Below.refl _ _ | refine Below.drew ?_ | refine Below.alloc ?_ (by first | (simp; done) | (simp; omega) | omega) _ | refine Below.setCell ?_ (by first | (simp; done) | (simp; omega) | omega) _ | refine bstep (by assumption) (by first | (simp; done) | (simp; omega) | omega) ?_)
set_option maxHeartbeats 1000000 in
set_option maxRecDepth 100000 in
theorem arith_sub (op : ByteArray) (a b : Int) (w : World) (ha : -9223372036854775808 ≤ a ∧ a ≤ 9223372036854775807) (hb : -9223372036854775808 ≤ b ∧ b ≤ 9223372036854775807) (hop : op.toList = [45]) :
    Calls Try.prog 28 #[.string op, .int .i64 a, .int .i64 b] w fun e w' => e = .returned (.agg #[.int .i64 (kO (subO a b)), .int .i64 (nO (subO a b)), .string ⟨#[]⟩]) ∧ Below w.heap.size w w' := by
  by_cases hb0 : b = 0
  · subst hb0
    have hm : Hid (subO a 0 = some a) := subO_0 a ha
    have ew : wrap64 a = a := by unfold wrap64; omega
    clear ha hb
    go_enter Try.func28, Try.ntmps28
    go_wp2_with (first | (go_at_call 43; refine (l01Int_any _ _).mono ?_; rintro e w1 ⟨rfl, hb1⟩; have hf1 := (bcell hb1).2; have hz1 := hb1.size; (try simp at hz1); have hy1 : w.heap.size < w1.heap.size := (by omega); have q1_0_0 : w1.cell? ⟨w.heap.size, 0, none⟩ = some (.int .i64 0) := cell_later hb1 (by go_simp); have q1_0_1 : w1.cell? ⟨w.heap.size, 1, none⟩ = some (.int .i64 0) := cell_later hb1 (by go_simp); have q1_0_2 : w1.cell? ⟨w.heap.size, 2, none⟩ = some (.string ⟨#[]⟩) := cell_later hb1 (by go_simp)))
    refine bodyPost_ret (v := (.agg #[.int .i64 1, .int .i64 a, .string ⟨#[]⟩])) (by simp [results, Try.results28, go_sem, *]) rfl ⟨?_, ?_⟩
    · exact retO_some hm.out
    · repeat (first | exact Below.refl _ _ | refine Below.drew ?_ | refine Below.alloc ?_ (by first | (simp; done) | (simp; omega) | omega) _ | refine Below.setCell ?_ (by first | (simp; done) | (simp; omega) | omega) _ | refine bstep (by assumption) (by first | (simp; done) | (simp; omega) | omega) ?_)
  have eb : (b != 0) = true := by simp [hb0]
  clear ha hb
  by_cases h : (decide (wrap64 (a - b) < a) == decide (0 < b)) = true
  · have hm : Hid (subO a b = some (wrap64 (a - b))) := if_pos h
    go_enter Try.func28, Try.ntmps28
    go_wp2_with (first | (go_at_call 43; refine (l01Int_any _ _).mono ?_; rintro e w1 ⟨rfl, hb1⟩; have hf1 := (bcell hb1).2; have hz1 := hb1.size; (try simp at hz1); have hy1 : w.heap.size < w1.heap.size := (by omega); have q1_0_0 : w1.cell? ⟨w.heap.size, 0, none⟩ = some (.int .i64 0) := cell_later hb1 (by go_simp); have q1_0_1 : w1.cell? ⟨w.heap.size, 1, none⟩ = some (.int .i64 0) := cell_later hb1 (by go_simp); have q1_0_2 : w1.cell? ⟨w.heap.size, 2, none⟩ = some (.string ⟨#[]⟩) := cell_later hb1 (by go_simp)))
    refine bodyPost_ret (v := (.agg #[.int .i64 1, .int .i64 (wrap64 (a - b)), .string ⟨#[]⟩])) (by simp [results, Try.results28, go_sem, *]) rfl ⟨?_, ?_⟩
    · exact retO_some hm.out
    · repeat (first | exact Below.refl _ _ | refine Below.drew ?_ | refine Below.alloc ?_ (by first | (simp; done) | (simp; omega) | omega) _ | refine Below.setCell ?_ (by first | (simp; done) | (simp; omega) | omega) _ | refine bstep (by assumption) (by first | (simp; done) | (simp; omega) | omega) ?_)
  · have hm : Hid (subO a b = none) := if_neg h
    have h' : (decide (wrap64 (a - b) < a) == decide (0 < b)) = false := by simpa using h
    clear h
    go_enter Try.func28, Try.ntmps28
    go_wp2
    go_returns
    exact ⟨retO_none hm.out, by go_grown⟩
set_option maxHeartbeats 1000000 in
set_option maxRecDepth 100000 in
theorem arith_mul (op : ByteArray) (a b : Int) (w : World) (ha : -9223372036854775808 ≤ a ∧ a ≤ 9223372036854775807) (hb : -9223372036854775808 ≤ b ∧ b ≤ 9223372036854775807) (hop : op.toList = [42]) :
    Calls Try.prog 28 #[.string op, .int .i64 a, .int .i64 b] w fun e w' => e = .returned (.agg #[.int .i64 (kO (mulO a b)), .int .i64 (nO (mulO a b)), .string ⟨#[]⟩]) ∧ Below w.heap.size w w' := by
  go_enter Try.func28, Try.ntmps28
  go_wp2_with (first | (go_at_call 45; refine (l01Product_any _ _ _ ha hb).mono ?_; rintro e w1 ⟨rfl, hb1⟩; have hf1 := (bcell hb1).2; have hz1 := hb1.size; (try simp at hz1); have hy1 : w.heap.size < w1.heap.size := (by omega); have q1_0_0 : w1.cell? ⟨w.heap.size, 0, none⟩ = some (.int .i64 0) := cell_later hb1 (by go_simp); have q1_0_1 : w1.cell? ⟨w.heap.size, 1, none⟩ = some (.int .i64 0) := cell_later hb1 (by go_simp); have q1_0_2 : w1.cell? ⟨w.heap.size, 2, none⟩ = some (.string ⟨#[]⟩) := cell_later hb1 (by go_simp)))
  refine bodyPost_ret (v := (.agg #[.int .i64 (kO (mulO a b)), .int .i64 (nO (mulO a b)), .string ⟨#[]⟩])) (by simp [results, Try.results28, go_sem, *]) rfl ⟨?_, ?_⟩
  · rfl
  · repeat (first | exact Below.refl _ _ | refine Below.drew ?_ | refine Below.alloc ?_ (by first | (simp; done) | (simp; omega) | omega) _ | refine Below.setCell ?_ (by first | (simp; done) | (simp; omega) | omega) _ | refine bstep (by assumption) (by first | (simp; done) | (simp; omega) | omega) ?_)
set_option maxHeartbeats 1000000 in
set_option maxRecDepth 100000 in
theorem arith_div (op : ByteArray) (a b : Int) (w : World) (ha : -9223372036854775808 ≤ a ∧ a ≤ 9223372036854775807) (hb : -9223372036854775808 ≤ b ∧ b ≤ 9223372036854775807) (hop : op.toList = [47]) :
    Calls Try.prog 28 #[.string op, .int .i64 a, .int .i64 b] w fun e w' => e = .returned (.agg #[.int .i64 (kO (divO a b)), .int .i64 (nO (divO a b)), .string ⟨#[]⟩]) ∧ Below w.heap.size w w' := by
  go_enter Try.func28, Try.ntmps28
  go_wp2_with (first | (go_at_call 46; refine (l01Quotient_any _ _ _ ha).mono ?_; rintro e w1 ⟨rfl, hb1⟩; have hf1 := (bcell hb1).2; have hz1 := hb1.size; (try simp at hz1); have hy1 : w.heap.size < w1.heap.size := (by omega); have q1_0_0 : w1.cell? ⟨w.heap.size, 0, none⟩ = some (.int .i64 0) := cell_later hb1 (by go_simp); have q1_0_1 : w1.cell? ⟨w.heap.size, 1, none⟩ = some (.int .i64 0) := cell_later hb1 (by go_simp); have q1_0_2 : w1.cell? ⟨w.heap.size, 2, none⟩ = some (.string ⟨#[]⟩) := cell_later hb1 (by go_simp)))
  refine bodyPost_ret (v := (.agg #[.int .i64 (kO (divO a b)), .int .i64 (nO (divO a b)), .string ⟨#[]⟩])) (by simp [results, Try.results28, go_sem, *]) rfl ⟨?_, ?_⟩
  · rfl
  · repeat (first | exact Below.refl _ _ | refine Below.drew ?_ | refine Below.alloc ?_ (by first | (simp; done) | (simp; omega) | omega) _ | refine Below.setCell ?_ (by first | (simp; done) | (simp; omega) | omega) _ | refine bstep (by assumption) (by first | (simp; done) | (simp; omega) | omega) ?_)
set_option maxHeartbeats 1000000 in
set_option maxRecDepth 100000 in
theorem arith_x (op : ByteArray) (a b : Int) (w : World) (h1 : (op.toList == [43]) = false) (h2 : (op.toList == [45]) = false) (h3 : (op.toList == [42]) = false) (h4 : (op.toList == [47]) = false) :
    Calls Try.prog 28 #[.string op, .int .i64 a, .int .i64 b] w fun e w' => e = .returned (.agg #[.int .i64 0, .int .i64 0, .string ⟨#[]⟩]) ∧ Below w.heap.size w w' := by
  go_enter Try.func28, Try.ntmps28
  go_wp2
  go_returns
  exact ⟨rfl, by go_grown⟩
end Go.Proofs.Ytlakhcmbalcclaa
