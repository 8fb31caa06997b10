/- Own text. The contract of the program's Reckon at each sign. -/
import Derived.Test.YtlakhcmbalcclaaRChain
namespace Go.Proofs.Ytlakhcmbalcclaa
open Go.RowKit
set_option linter.unusedVariables false
set_option maxHeartbeats 2000000 in
set_option maxRecDepth 100000 in
theorem rI_add (op : ByteArray) (a b : Int) (s s' : ByteArray) (w : World) (hop : op.toList = [43]) :
    Calls Try.prog 6 #[.string op, (.agg #[.int .i64 1, .int .i64 a, .string s]), (.agg #[.int .i64 1, .int .i64 b, .string s'])] w fun e w' => e = .returned (.agg #[.int .i64 (kO (addO a b)), .int .i64 (nO (addO a b)), .string ⟨#[]⟩]) ∧ Below w.heap.size w w' := by
  go_enter Try.func6, Try.ntmps6
  go_wp2_with (first | (go_at_call 20; refine (ints_add _ _ _ _ _ _ hop).mono ?_; rintro e w1 ⟨rfl, hb1⟩; have hf1 := (bcell hb1).2; have hz1 := hb1.size; (try simp at hz1); have hy1 : w.heap.size + 1 + 1 < w1.heap.size := (by omega); have hy1_0 : w.heap.size < w1.heap.size := (by omega); have hy1_1 : w.heap.size + 1 < w1.heap.size := (by omega); have q1_2_0 : w1.cell? ⟨w.heap.size + 1 + 1, 0, none⟩ = some (.int .i64 0) := cell_later hb1 (by go_simp); have q1_2_1 : w1.cell? ⟨w.heap.size + 1 + 1, 1, none⟩ = some (.int .i64 0) := cell_later hb1 (by go_simp); have q1_2_2 : w1.cell? ⟨w.heap.size + 1 + 1, 2, none⟩ = some (.string ⟨#[]⟩) := cell_later hb1 (by go_simp)))
  refine bodyPost_ret (v := (.agg #[.int .i64 (kO (addO a b)), .int .i64 (nO (addO a b)), .string ⟨#[]⟩])) (by simp [results, Try.results6, go_sem, *]) rfl ⟨?_, ?_⟩
  · rfl
  · repeat (first | exact Below.refl _ _ | refine Below.drew ?_ | refine Below.alloc ?_ (by first | (simp; done) | (simp; omega) | omega) _ | refine Below.setCell ?_ (by first | (simp; done) | (simp; omega) | omega) _ | refine bstep (by assumption) (by first | (simp; done) | (simp; omega) | omega) ?_)
set_option maxHeartbeats 2000000 in
set_option maxRecDepth 100000 in
theorem rI_add_no (op : ByteArray) (k k' : Int) (a b : Int) (s s' : ByteArray) (w : World) (hop : op.toList = [43]) (h0 : ¬ (k = 1 ∧ k' = 1)) :
    Calls Try.prog 6 #[.string op, (.agg #[.int .i64 k, .int .i64 a, .string s]), (.agg #[.int .i64 k', .int .i64 b, .string s'])] w fun e w' => e = .returned (.agg #[.int .i64 0, .int .i64 0, .string ⟨#[]⟩]) ∧ Below w.heap.size w w' := by
  have h : Hid (¬ (k = 1 ∧ k' = 1)) := h0
  clear h0
  go_enter Try.func6, Try.ntmps6
  go_wp2_with (first | (go_at_call 20; refine (ints_no _ _ _ _ _ _ _ _ h.out).mono ?_; rintro e w1 ⟨rfl, hb1⟩; have hf1 := (bcell hb1).2; have hz1 := hb1.size; (try simp at hz1); have hy1 : w.heap.size + 1 + 1 < w1.heap.size := (by omega); have hy1_0 : w.heap.size < w1.heap.size := (by omega); have hy1_1 : w.heap.size + 1 < w1.heap.size := (by omega); have q1_2_0 : w1.cell? ⟨w.heap.size + 1 + 1, 0, none⟩ = some (.int .i64 0) := cell_later hb1 (by go_simp); have q1_2_1 : w1.cell? ⟨w.heap.size + 1 + 1, 1, none⟩ = some (.int .i64 0) := cell_later hb1 (by go_simp); have q1_2_2 : w1.cell? ⟨w.heap.size + 1 + 1, 2, none⟩ = some (.string ⟨#[]⟩) := cell_later hb1 (by go_simp)))
  refine bodyPost_ret (v := (.agg #[.int .i64 0, .int .i64 0, .string ⟨#[]⟩])) (by simp [results, Try.results6, go_sem, *]) rfl ⟨?_, ?_⟩
  · rfl
  · repeat (first | exact Below.refl _ _ | refine Below.drew ?_ | refine Below.alloc ?_ (by first | (simp; done) | (simp; omega) | omega) _ | refine Below.setCell ?_ (by first | (simp; done) | (simp; omega) | omega) _ | refine bstep (by assumption) (by first | (simp; done) | (simp; omega) | omega) ?_)
set_option maxHeartbeats 2000000 in
set_option maxRecDepth 100000 in
theorem rI_sub (op : ByteArray) (a b : Int) (s s' : ByteArray) (w : World) (hop : op.toList = [45]) :
    Calls Try.prog 6 #[.string op, (.agg #[.int .i64 1, .int .i64 a, .string s]), (.agg #[.int .i64 1, .int .i64 b, .string s'])] w fun e w' => e = .returned (.agg #[.int .i64 (kO (subO a b)), .int .i64 (nO (subO a b)), .string ⟨#[]⟩]) ∧ Below w.heap.size w w' := by
  go_enter Try.func6, Try.ntmps6
  go_wp2_with (first | (go_at_call 20; refine (ints_sub _ _ _ _ _ _ hop).mono ?_; rintro e w1 ⟨rfl, hb1⟩; have hf1 := (bcell hb1).2; have hz1 := hb1.size; (try simp at hz1); have hy1 : w.heap.size + 1 + 1 < w1.heap.size := (by omega); have hy1_0 : w.heap.size < w1.heap.size := (by omega); have hy1_1 : w.heap.size + 1 < w1.heap.size := (by omega); have q1_2_0 : w1.cell? ⟨w.heap.size + 1 + 1, 0, none⟩ = some (.int .i64 0) := cell_later hb1 (by go_simp); have q1_2_1 : w1.cell? ⟨w.heap.size + 1 + 1, 1, none⟩ = some (.int .i64 0) := cell_later hb1 (by go_simp); have q1_2_2 : w1.cell? ⟨w.heap.size + 1 + 1, 2, none⟩ = some (.string ⟨#[]⟩) := cell_later hb1 (by go_simp)))
  refine bodyPost_ret (v := (.agg #[.int .i64 (kO (subO a b)), .int .i64 (nO (subO a b)), .string ⟨#[]⟩])) (by simp [results, Try.results6, go_sem, *]) rfl ⟨?_, ?_⟩
  · rfl
  · repeat (first | exact Below.refl _ _ | refine Below.drew ?_ | refine Below.alloc ?_ (by first | (simp; done) | (simp; omega) | omega) _ | refine Below.setCell ?_ (by first | (simp; done) | (simp; omega) | omega) _ | refine bstep (by assumption) (by first | (simp; done) | (simp; omega) | omega) ?_)
set_option maxHeartbeats 2000000 in
set_option maxRecDepth 100000 in
theorem rI_sub_no (op : ByteArray) (k k' : Int) (a b : Int) (s s' : ByteArray) (w : World) (hop : op.toList = [45]) (h0 : ¬ (k = 1 ∧ k' = 1)) :
    Calls Try.prog 6 #[.string op, (.agg #[.int .i64 k, .int .i64 a, .string s]), (.agg #[.int .i64 k', .int .i64 b, .string s'])] w fun e w' => e = .returned (.agg #[.int .i64 0, .int .i64 0, .string ⟨#[]⟩]) ∧ Below w.heap.size w w' := by
  have h : Hid (¬ (k = 1 ∧ k' = 1)) := h0
  clear h0
  go_enter Try.func6, Try.ntmps6
  go_wp2_with (first | (go_at_call 20; refine (ints_no _ _ _ _ _ _ _ _ h.out).mono ?_; rintro e w1 ⟨rfl, hb1⟩; have hf1 := (bcell hb1).2; have hz1 := hb1.size; (try simp at hz1); have hy1 : w.heap.size + 1 + 1 < w1.heap.size := (by omega); have hy1_0 : w.heap.size < w1.heap.size := (by omega); have hy1_1 : w.heap.size + 1 < w1.heap.size := (by omega); have q1_2_0 : w1.cell? ⟨w.heap.size + 1 + 1, 0, none⟩ = some (.int .i64 0) := cell_later hb1 (by go_simp); have q1_2_1 : w1.cell? ⟨w.heap.size + 1 + 1, 1, none⟩ = some (.int .i64 0) := cell_later hb1 (by go_simp); have q1_2_2 : w1.cell? ⟨w.heap.size + 1 + 1, 2, none⟩ = some (.string ⟨#[]⟩) := cell_later hb1 (by go_simp)))
  refine bodyPost_ret (v := (.agg #[.int .i64 0, .int .i64 0, .string ⟨#[]⟩])) (by simp [results, Try.results6, go_sem, *]) rfl ⟨?_, ?_⟩
  · rfl
  · repeat (first | exact Below.refl _ _ | refine Below.drew ?_ | refine Below.alloc ?_ (by first | (simp; done) | (simp; omega) | omega) _ | refine Below.setCell ?_ (by first | (simp; done) | (simp; omega) | omega) _ | refine bstep (by assumption) (by first | (simp; done) | (simp; omega) | omega) ?_)
set_option maxHeartbeats 2000000 in
set_option maxRecDepth 100000 in
theorem rI_mul (op : ByteArray) (a b : Int) (s s' : ByteArray) (w : World) (hop : op.toList = [42]) :
    Calls Try.prog 6 #[.string op, (.agg #[.int .i64 1, .int .i64 a, .string s]), (.agg #[.int .i64 1, .int .i64 b, .string s'])] w fun e w' => e = .returned (.agg #[.int .i64 (kO (mulO a b)), .int .i64 (nO (mulO a b)), .string ⟨#[]⟩]) ∧ Below w.heap.size w w' := by
  go_enter Try.func6, Try.ntmps6
  go_wp2_with (first | (go_at_call 20; refine (ints_mul _ _ _ _ _ _ hop).mono ?_; rintro e w1 ⟨rfl, hb1⟩; have hf1 := (bcell hb1).2; have hz1 := hb1.size; (try simp at hz1); have hy1 : w.heap.size + 1 + 1 < w1.heap.size := (by omega); have hy1_0 : w.heap.size < w1.heap.size := (by omega); have hy1_1 : w.heap.size + 1 < w1.heap.size := (by omega); have q1_2_0 : w1.cell? ⟨w.heap.size + 1 + 1, 0, none⟩ = some (.int .i64 0) := cell_later hb1 (by go_simp); have q1_2_1 : w1.cell? ⟨w.heap.size + 1 + 1, 1, none⟩ = some (.int .i64 0) := cell_later hb1 (by go_simp); have q1_2_2 : w1.cell? ⟨w.heap.size + 1 + 1, 2, none⟩ = some (.string ⟨#[]⟩) := cell_later hb1 (by go_simp)))
  refine bodyPost_ret (v := (.agg #[.int .i64 (kO (mulO a b)), .int .i64 (nO (mulO a b)), .string ⟨#[]⟩])) (by simp [results, Try.results6, go_sem, *]) rfl ⟨?_, ?_⟩
  · rfl
  · repeat (first | exact Below.refl _ _ | refine Below.drew ?_ | refine Below.alloc ?_ (by first | (simp; done) | (simp; omega) | omega) _ | refine Below.setCell ?_ (by first | (simp; done) | (simp; omega) | omega) _ | refine bstep (by assumption) (by first | (simp; done) | (simp; omega) | omega) ?_)
set_option maxHeartbeats 2000000 in
set_option maxRecDepth 100000 in
theorem rI_mul_no (op : ByteArray) (k k' : Int) (a b : Int) (s s' : ByteArray) (w : World) (hop : op.toList = [42]) (h0 : ¬ (k = 1 ∧ k' = 1)) :
    Calls Try.prog 6 #[.string op, (.agg #[.int .i64 k, .int .i64 a, .string s]), (.agg #[.int .i64 k', .int .i64 b, .string s'])] w fun e w' => e = .returned (.agg #[.int .i64 0, .int .i64 0, .string ⟨#[]⟩]) ∧ Below w.heap.size w w' := by
  have h : Hid (¬ (k = 1 ∧ k' = 1)) := h0
  clear h0
  go_enter Try.func6, Try.ntmps6
  go_wp2_with (first | (go_at_call 20; refine (ints_no _ _ _ _ _ _ _ _ h.out).mono ?_; rintro e w1 ⟨rfl, hb1⟩; have hf1 := (bcell hb1).2; have hz1 := hb1.size; (try simp at hz1); have hy1 : w.heap.size + 1 + 1 < w1.heap.size := (by omega); have hy1_0 : w.heap.size < w1.heap.size := (by omega); have hy1_1 : w.heap.size + 1 < w1.heap.size := (by omega); have q1_2_0 : w1.cell? ⟨w.heap.size + 1 + 1, 0, none⟩ = some (.int .i64 0) := cell_later hb1 (by go_simp); have q1_2_1 : w1.cell? ⟨w.heap.size + 1 + 1, 1, none⟩ = some (.int .i64 0) := cell_later hb1 (by go_simp); have q1_2_2 : w1.cell? ⟨w.heap.size + 1 + 1, 2, none⟩ = some (.string ⟨#[]⟩) := cell_later hb1 (by go_simp)))
  refine bodyPost_ret (v := (.agg #[.int .i64 0, .int .i64 0, .string ⟨#[]⟩])) (by simp [results, Try.results6, go_sem, *]) rfl ⟨?_, ?_⟩
  · rfl
  · repeat (first | exact Below.refl _ _ | refine Below.drew ?_ | refine Below.alloc ?_ (by first | (simp; done) | (simp; omega) | omega) _ | refine Below.setCell ?_ (by first | (simp; done) | (simp; omega) | omega) _ | refine bstep (by assumption) (by first | (simp; done) | (simp; omega) | omega) ?_)
set_option maxHeartbeats 2000000 in
set_option maxRecDepth 100000 in
theorem rI_div (op : ByteArray) (a b : Int) (s s' : ByteArray) (w : World) (hop : op.toList = [47]) :
    Calls Try.prog 6 #[.string op, (.agg #[.int .i64 1, .int .i64 a, .string s]), (.agg #[.int .i64 1, .int .i64 b, .string s'])] w fun e w' => e = .returned (.agg #[.int .i64 (kO (divO a b)), .int .i64 (nO (divO a b)), .string ⟨#[]⟩]) ∧ Below w.heap.size w w' := by
  go_enter Try.func6, Try.ntmps6
  go_wp2_with (first | (go_at_call 20; refine (ints_div _ _ _ _ _ _ hop).mono ?_; rintro e w1 ⟨rfl, hb1⟩; have hf1 := (bcell hb1).2; have hz1 := hb1.size; (try simp at hz1); have hy1 : w.heap.size + 1 + 1 < w1.heap.size := (by omega); have hy1_0 : w.heap.size < w1.heap.size := (by omega); have hy1_1 : w.heap.size + 1 < w1.heap.size := (by omega); have q1_2_0 : w1.cell? ⟨w.heap.size + 1 + 1, 0, none⟩ = some (.int .i64 0) := cell_later hb1 (by go_simp); have q1_2_1 : w1.cell? ⟨w.heap.size + 1 + 1, 1, none⟩ = some (.int .i64 0) := cell_later hb1 (by go_simp); have q1_2_2 : w1.cell? ⟨w.heap.size + 1 + 1, 2, none⟩ = some (.string ⟨#[]⟩) := cell_later hb1 (by go_simp)))
  refine bodyPost_ret (v := (.agg #[.int .i64 (kO (divO a b)), .int .i64 (nO (divO a b)), .string ⟨#[]⟩])) (by simp [results, Try.results6, go_sem, *]) rfl ⟨?_, ?_⟩
  · rfl
  · repeat (first | exact Below.refl _ _ | refine Below.drew ?_ | refine Below.alloc ?_ (by first | (simp; done) | (simp; omega) | omega) _ | refine Below.setCell ?_ (by first | (simp; done) | (simp; omega) | omega) _ | refine bstep (by assumption) (by first | (simp; done) | (simp; omega) | omega) ?_)
set_option maxHeartbeats 2000000 in
set_option maxRecDepth 100000 in
theorem rI_div_no (op : ByteArray) (k k' : Int) (a b : Int) (s s' : ByteArray) (w : World) (hop : op.toList = [47]) (h0 : ¬ (k = 1 ∧ k' = 1)) :
    Calls Try.prog 6 #[.string op, (.agg #[.int .i64 k, .int .i64 a, .string s]), (.agg #[.int .i64 k', .int .i64 b, .string s'])] w fun e w' => e = .returned (.agg #[.int .i64 0, .int .i64 0, .string ⟨#[]⟩]) ∧ Below w.heap.size w w' := by
  have h : Hid (¬ (k = 1 ∧ k' = 1)) := h0
  clear h0
  go_enter Try.func6, Try.ntmps6
  go_wp2_with (first | (go_at_call 20; refine (ints_no _ _ _ _ _ _ _ _ h.out).mono ?_; rintro e w1 ⟨rfl, hb1⟩; have hf1 := (bcell hb1).2; have hz1 := hb1.size; (try simp at hz1); have hy1 : w.heap.size + 1 + 1 < w1.heap.size := (by omega); have hy1_0 : w.heap.size < w1.heap.size := (by omega); have hy1_1 : w.heap.size + 1 < w1.heap.size := (by omega); have q1_2_0 : w1.cell? ⟨w.heap.size + 1 + 1, 0, none⟩ = some (.int .i64 0) := cell_later hb1 (by go_simp); have q1_2_1 : w1.cell? ⟨w.heap.size + 1 + 1, 1, none⟩ = some (.int .i64 0) := cell_later hb1 (by go_simp); have q1_2_2 : w1.cell? ⟨w.heap.size + 1 + 1, 2, none⟩ = some (.string ⟨#[]⟩) := cell_later hb1 (by go_simp)))
  refine bodyPost_ret (v := (.agg #[.int .i64 0, .int .i64 0, .string ⟨#[]⟩])) (by simp [results, Try.results6, go_sem, *]) rfl ⟨?_, ?_⟩
  · rfl
  · repeat (first | exact Below.refl _ _ | refine Below.drew ?_ | refine Below.alloc ?_ (by first | (simp; done) | (simp; omega) | omega) _ | refine Below.setCell ?_ (by first | (simp; done) | (simp; omega) | omega) _ | refine bstep (by assumption) (by first | (simp; done) | (simp; omega) | omega) ?_)
set_option maxHeartbeats 2000000 in
set_option maxRecDepth 100000 in
theorem rI_eq (op : ByteArray) (k : Int) (a b : Int) (s s' : ByteArray) (w : World) (hop : op.toList = [61]) (h0 : (k == 0) = false) :
    Calls Try.prog 6 #[.string op, (.agg #[.int .i64 k, .int .i64 a, .string s]), (.agg #[.int .i64 k, .int .i64 b, .string s'])] w fun e w' => e = .returned (.agg #[.int .i64 2, .int .i64 (bn (cmpV k a s k b s' == 0)), .string ⟨#[]⟩]) ∧ Below w.heap.size w w' := by
  go_enter Try.func6, Try.ntmps6
  go_wp2_with (first | (go_at_call 21; refine (order_eq _ _ _ _ _ _ _ hop h0).mono ?_; rintro e w1 ⟨rfl, hb1⟩; have hf1 := (bcell hb1).2; have hz1 := hb1.size; (try simp at hz1); have hy1 : w.heap.size + 1 + 1 < w1.heap.size := (by omega); have hy1_0 : w.heap.size < w1.heap.size := (by omega); have hy1_1 : w.heap.size + 1 < w1.heap.size := (by omega); have q1_2_0 : w1.cell? ⟨w.heap.size + 1 + 1, 0, none⟩ = some (.int .i64 0) := cell_later hb1 (by go_simp); have q1_2_1 : w1.cell? ⟨w.heap.size + 1 + 1, 1, none⟩ = some (.int .i64 0) := cell_later hb1 (by go_simp); have q1_2_2 : w1.cell? ⟨w.heap.size + 1 + 1, 2, none⟩ = some (.string ⟨#[]⟩) := cell_later hb1 (by go_simp)))
  refine bodyPost_ret (v := (.agg #[.int .i64 2, .int .i64 (bn (cmpV k a s k b s' == 0)), .string ⟨#[]⟩])) (by simp [results, Try.results6, go_sem, *]) rfl ⟨?_, ?_⟩
  · rfl
  · repeat (first | exact Below.refl _ _ | refine Below.drew ?_ | refine Below.alloc ?_ (by first | (simp; done) | (simp; omega) | omega) _ | refine Below.setCell ?_ (by first | (simp; done) | (simp; omega) | omega) _ | refine bstep (by assumption) (by first | (simp; done) | (simp; omega) | omega) ?_)
set_option maxHeartbeats 2000000 in
set_option maxRecDepth 100000 in
theorem rI_eq_no (op : ByteArray) (k k' : Int) (a b : Int) (s s' : ByteArray) (w : World) (hop : op.toList = [61]) (h0 : ¬ (k = k' ∧ ¬ k = 0)) :
    Calls Try.prog 6 #[.string op, (.agg #[.int .i64 k, .int .i64 a, .string s]), (.agg #[.int .i64 k', .int .i64 b, .string s'])] w fun e w' => e = .returned (.agg #[.int .i64 0, .int .i64 0, .string ⟨#[]⟩]) ∧ Below w.heap.size w w' := by
  have h : Hid (¬ (k = k' ∧ ¬ k = 0)) := h0
  clear h0
  go_enter Try.func6, Try.ntmps6
  go_wp2_with (first | (go_at_call 21; refine (order_no _ _ _ _ _ _ _ _ h.out).mono ?_; rintro e w1 ⟨rfl, hb1⟩; have hf1 := (bcell hb1).2; have hz1 := hb1.size; (try simp at hz1); have hy1 : w.heap.size + 1 + 1 < w1.heap.size := (by omega); have hy1_0 : w.heap.size < w1.heap.size := (by omega); have hy1_1 : w.heap.size + 1 < w1.heap.size := (by omega); have q1_2_0 : w1.cell? ⟨w.heap.size + 1 + 1, 0, none⟩ = some (.int .i64 0) := cell_later hb1 (by go_simp); have q1_2_1 : w1.cell? ⟨w.heap.size + 1 + 1, 1, none⟩ = some (.int .i64 0) := cell_later hb1 (by go_simp); have q1_2_2 : w1.cell? ⟨w.heap.size + 1 + 1, 2, none⟩ = some (.string ⟨#[]⟩) := cell_later hb1 (by go_simp)))
  refine bodyPost_ret (v := (.agg #[.int .i64 0, .int .i64 0, .string ⟨#[]⟩])) (by simp [results, Try.results6, go_sem, *]) rfl ⟨?_, ?_⟩
  · rfl
  · repeat (first | exact Below.refl _ _ | refine Below.drew ?_ | refine Below.alloc ?_ (by first | (simp; done) | (simp; omega) | omega) _ | refine Below.setCell ?_ (by first | (simp; done) | (simp; omega) | omega) _ | refine bstep (by assumption) (by first | (simp; done) | (simp; omega) | omega) ?_)
set_option maxHeartbeats 2000000 in
set_option maxRecDepth 100000 in
theorem rI_lt (op : ByteArray) (k : Int) (a b : Int) (s s' : ByteArray) (w : World) (hop : op.toList = [60]) (h0 : (k == 0) = false) :
    Calls Try.prog 6 #[.string op, (.agg #[.int .i64 k, .int .i64 a, .string s]), (.agg #[.int .i64 k, .int .i64 b, .string s'])] w fun e w' => e = .returned (.agg #[.int .i64 2, .int .i64 (bn (decide (cmpV k a s k b s' < 0))), .string ⟨#[]⟩]) ∧ Below w.heap.size w w' := by
  go_enter Try.func6, Try.ntmps6
  go_wp2_with (first | (go_at_call 21; refine (order_lt _ _ _ _ _ _ _ hop h0).mono ?_; rintro e w1 ⟨rfl, hb1⟩; have hf1 := (bcell hb1).2; have hz1 := hb1.size; (try simp at hz1); have hy1 : w.heap.size + 1 + 1 < w1.heap.size := (by omega); have hy1_0 : w.heap.size < w1.heap.size := (by omega); have hy1_1 : w.heap.size + 1 < w1.heap.size := (by omega); have q1_2_0 : w1.cell? ⟨w.heap.size + 1 + 1, 0, none⟩ = some (.int .i64 0) := cell_later hb1 (by go_simp); have q1_2_1 : w1.cell? ⟨w.heap.size + 1 + 1, 1, none⟩ = some (.int .i64 0) := cell_later hb1 (by go_simp); have q1_2_2 : w1.cell? ⟨w.heap.size + 1 + 1, 2, none⟩ = some (.string ⟨#[]⟩) := cell_later hb1 (by go_simp)))
  refine bodyPost_ret (v := (.agg #[.int .i64 2, .int .i64 (bn (decide (cmpV k a s k b s' < 0))), .string ⟨#[]⟩])) (by simp [results, Try.results6, go_sem, *]) rfl ⟨?_, ?_⟩
  · rfl
  · repeat (first | exact Below.refl _ _ | refine Below.drew ?_ | refine Below.alloc ?_ (by first | (simp; done) | (simp; omega) | omega) _ | refine Below.setCell ?_ (by first | (simp; done) | (simp; omega) | omega) _ | refine bstep (by assumption) (by first | (simp; done) | (simp; omega) | omega) ?_)
set_option maxHeartbeats 2000000 in
set_option maxRecDepth 100000 in
theorem rI_lt_no (op : ByteArray) (k k' : Int) (a b : Int) (s s' : ByteArray) (w : World) (hop : op.toList = [60]) (h0 : ¬ (k = k' ∧ ¬ k = 0)) :
    Calls Try.prog 6 #[.string op, (.agg #[.int .i64 k, .int .i64 a, .string s]), (.agg #[.int .i64 k', .int .i64 b, .string s'])] w fun e w' => e = .returned (.agg #[.int .i64 0, .int .i64 0, .string ⟨#[]⟩]) ∧ Below w.heap.size w w' := by
  have h : Hid (¬ (k = k' ∧ ¬ k = 0)) := h0
  clear h0
  go_enter Try.func6, Try.ntmps6
  go_wp2_with (first | (go_at_call 21; refine (order_no _ _ _ _ _ _ _ _ h.out).mono ?_; rintro e w1 ⟨rfl, hb1⟩; have hf1 := (bcell hb1).2; have hz1 := hb1.size; (try simp at hz1); have hy1 : w.heap.size + 1 + 1 < w1.heap.size := (by omega); have hy1_0 : w.heap.size < w1.heap.size := (by omega); have hy1_1 : w.heap.size + 1 < w1.heap.size := (by omega); have q1_2_0 : w1.cell? ⟨w.heap.size + 1 + 1, 0, none⟩ = some (.int .i64 0) := cell_later hb1 (by go_simp); have q1_2_1 : w1.cell? ⟨w.heap.size + 1 + 1, 1, none⟩ = some (.int .i64 0) := cell_later hb1 (by go_simp); have q1_2_2 : w1.cell? ⟨w.heap.size + 1 + 1, 2, none⟩ = some (.string ⟨#[]⟩) := cell_later hb1 (by go_simp)))
  refine bodyPost_ret (v := (.agg #[.int .i64 0, .int .i64 0, .string ⟨#[]⟩])) (by simp [results, Try.results6, go_sem, *]) rfl ⟨?_, ?_⟩
  · rfl
  · repeat (first | exact Below.refl _ _ | refine Below.drew ?_ | refine Below.alloc ?_ (by first | (simp; done) | (simp; omega) | omega) _ | refine Below.setCell ?_ (by first | (simp; done) | (simp; omega) | omega) _ | refine bstep (by assumption) (by first | (simp; done) | (simp; omega) | omega) ?_)
set_option maxHeartbeats 2000000 in
set_option maxRecDepth 100000 in
theorem rI_hold (op : ByteArray) (a b : Int) (s s' : ByteArray) (cc : Bool) (hcc : Lib.contains s.data.toList s'.data.toList = cc) (m : Int) (w : World) (hs : s.size < 4294967281) (hm : w.cell? ⟨0, 0, none⟩ = some (.int .i64 m)) (hop : op.toList = [126]) :
    Calls Try.prog 6 #[.string op, (.agg #[.int .i64 3, .int .i64 a, .string s]), (.agg #[.int .i64 3, .int .i64 b, .string s'])] w fun e w' => e = .returned (.agg #[.int .i64 2, .int .i64 (bn cc), .string ⟨#[]⟩]) ∧ Below w.heap.size w w' := by
  have h0 : 0 < w.heap.size := World.block_lt_of_cell? w ⟨0, 0, none⟩ hm
  have Hcc : Hid (Lib.contains s.data.toList s'.data.toList = cc) := hcc
  clear hcc
  go_enter Try.func6, Try.ntmps6
  go_wp2_with fail
  refine Calls.mono (holds_33 _ _ _ _ m _ hs ?hmm) ?_
  case hmm => go_simp
  rw [Hcc.out]
  rintro e w1 ⟨rfl, hb1⟩
  have hf1 := (bcell hb1).2
  have hz1 := hb1.size
  (try simp at hz1)
  have hy1 : w.heap.size + 1 + 1 < w1.heap.size := (by omega)
  have hy1_0 : w.heap.size < w1.heap.size := (by omega)
  have hy1_1 : w.heap.size + 1 < w1.heap.size := (by omega)
  have q1_2_0 : w1.cell? ⟨w.heap.size + 1 + 1, 0, none⟩ = some (.int .i64 0) := cell_later hb1 (by go_simp)
  have q1_2_1 : w1.cell? ⟨w.heap.size + 1 + 1, 1, none⟩ = some (.int .i64 0) := cell_later hb1 (by go_simp)
  have q1_2_2 : w1.cell? ⟨w.heap.size + 1 + 1, 2, none⟩ = some (.string ⟨#[]⟩) := cell_later hb1 (by go_simp)
  go_wp2_with fail
  refine bodyPost_ret (v := (.agg #[.int .i64 2, .int .i64 (bn cc), .string ⟨#[]⟩])) (by simp [results, Try.results6, go_sem, *]) rfl ⟨?_, ?_⟩
  · rfl
  · repeat (first | exact Below.refl _ _ | refine Below.drew ?_ | refine Below.alloc ?_ (by first | (simp; done) | (simp; omega) | omega) _ | refine Below.setCell ?_ (by first | (simp; done) | (simp; omega) | omega) _ | refine bstep (by assumption) (by first | (simp; done) | (simp; omega) | omega) ?_)
set_option maxHeartbeats 2000000 in
set_option maxRecDepth 100000 in
theorem rI_hold_no (op : ByteArray) (k k' : Int) (a b : Int) (s s' : ByteArray) (w : World) (hop : op.toList = [126]) (h0 : ¬ (k = 3 ∧ k' = 3)) :
    Calls Try.prog 6 #[.string op, (.agg #[.int .i64 k, .int .i64 a, .string s]), (.agg #[.int .i64 k', .int .i64 b, .string s'])] w fun e w' => e = .returned (.agg #[.int .i64 0, .int .i64 0, .string ⟨#[]⟩]) ∧ Below w.heap.size w w' := by
  have h : Hid (¬ (k = 3 ∧ k' = 3)) := h0
  clear h0
  go_enter Try.func6, Try.ntmps6
  go_wp2_with (first | (go_at_call 22; refine (holds_no _ _ _ _ _ _ _ h.out).mono ?_; rintro e w1 ⟨rfl, hb1⟩; have hf1 := (bcell hb1).2; have hz1 := hb1.size; (try simp at hz1); have hy1 : w.heap.size + 1 + 1 < w1.heap.size := (by omega); have hy1_0 : w.heap.size < w1.heap.size := (by omega); have hy1_1 : w.heap.size + 1 < w1.heap.size := (by omega); have q1_2_0 : w1.cell? ⟨w.heap.size + 1 + 1, 0, none⟩ = some (.int .i64 0) := cell_later hb1 (by go_simp); have q1_2_1 : w1.cell? ⟨w.heap.size + 1 + 1, 1, none⟩ = some (.int .i64 0) := cell_later hb1 (by go_simp); have q1_2_2 : w1.cell? ⟨w.heap.size + 1 + 1, 2, none⟩ = some (.string ⟨#[]⟩) := cell_later hb1 (by go_simp)))
  refine bodyPost_ret (v := (.agg #[.int .i64 0, .int .i64 0, .string ⟨#[]⟩])) (by simp [results, Try.results6, go_sem, *]) rfl ⟨?_, ?_⟩
  · rfl
  · repeat (first | exact Below.refl _ _ | refine Below.drew ?_ | refine Below.alloc ?_ (by first | (simp; done) | (simp; omega) | omega) _ | refine Below.setCell ?_ (by first | (simp; done) | (simp; omega) | omega) _ | refine bstep (by assumption) (by first | (simp; done) | (simp; omega) | omega) ?_)
set_option maxHeartbeats 2000000 in
set_option maxRecDepth 100000 in
theorem rI_and (op : ByteArray) (k k' : Int) (a b : Int) (s s' : ByteArray) (p0 q0 p1 q1 : Bool) (h1 : is2 k a s 0 = p0) (h2 : is2 k' b s' 0 = q0) (h3 : is2 k a s 1 = p1) (h4 : is2 k' b s' 1 = q1) (w : World) (hop : op.toList = [97, 110, 100]) :
    Calls Try.prog 6 #[.string op, (.agg #[.int .i64 k, .int .i64 a, .string s]), (.agg #[.int .i64 k', .int .i64 b, .string s'])] w fun e w' => e = .returned (.agg #[.int .i64 (chK p0 q0 p1 q1), .int .i64 (chN 0 p0 q0 p1 q1), .string ⟨#[]⟩]) ∧ Below w.heap.size w w' := by
  have HC : Hid (∀ w : World, Calls Try.prog 23 #[(.agg #[.int .i64 k, .int .i64 a, .string s]), (.agg #[.int .i64 k', .int .i64 b, .string s']), .int .i64 0] w fun e w' => e = .returned (.agg #[.int .i64 (chK p0 q0 p1 q1), .int .i64 (chN 0 p0 q0 p1 q1), .string ⟨#[]⟩]) ∧ Below w.heap.size w w') := by
    subst h1 h2 h3 h4; exact fun w => chain_0 _ _ _ _ _ _ w
  clear h1 h2 h3 h4
  go_enter Try.func6, Try.ntmps6
  go_wp2_with (first | (go_at_call 23; refine (HC.out _).mono ?_; rintro e w1 ⟨rfl, hb1⟩; have hf1 := (bcell hb1).2; have hz1 := hb1.size; (try simp at hz1); have hy1 : w.heap.size + 1 + 1 < w1.heap.size := (by omega); have hy1_0 : w.heap.size < w1.heap.size := (by omega); have hy1_1 : w.heap.size + 1 < w1.heap.size := (by omega); have q1_2_0 : w1.cell? ⟨w.heap.size + 1 + 1, 0, none⟩ = some (.int .i64 0) := cell_later hb1 (by go_simp); have q1_2_1 : w1.cell? ⟨w.heap.size + 1 + 1, 1, none⟩ = some (.int .i64 0) := cell_later hb1 (by go_simp); have q1_2_2 : w1.cell? ⟨w.heap.size + 1 + 1, 2, none⟩ = some (.string ⟨#[]⟩) := cell_later hb1 (by go_simp)))
  refine bodyPost_ret (v := (.agg #[.int .i64 (chK p0 q0 p1 q1), .int .i64 (chN 0 p0 q0 p1 q1), .string ⟨#[]⟩])) (by simp [results, Try.results6, go_sem, *]) rfl ⟨?_, ?_⟩
  · rfl
  · repeat (first | exact Below.refl _ _ | refine Below.drew ?_ | refine Below.alloc ?_ (by first | (simp; done) | (simp; omega) | omega) _ | refine Below.setCell ?_ (by first | (simp; done) | (simp; omega) | omega) _ | refine bstep (by assumption) (by first | (simp; done) | (simp; omega) | omega) ?_)
set_option maxHeartbeats 2000000 in
set_option maxRecDepth 100000 in
theorem rI_or (op : ByteArray) (k k' : Int) (a b : Int) (s s' : ByteArray) (p0 q0 p1 q1 : Bool) (h1 : is2 k a s 1 = p0) (h2 : is2 k' b s' 1 = q0) (h3 : is2 k a s 0 = p1) (h4 : is2 k' b s' 0 = q1) (w : World) (hop : op.toList = [111, 114]) :
    Calls Try.prog 6 #[.string op, (.agg #[.int .i64 k, .int .i64 a, .string s]), (.agg #[.int .i64 k', .int .i64 b, .string s'])] w fun e w' => e = .returned (.agg #[.int .i64 (chK p0 q0 p1 q1), .int .i64 (chN 1 p0 q0 p1 q1), .string ⟨#[]⟩]) ∧ Below w.heap.size w w' := by
  have HC : Hid (∀ w : World, Calls Try.prog 23 #[(.agg #[.int .i64 k, .int .i64 a, .string s]), (.agg #[.int .i64 k', .int .i64 b, .string s']), .int .i64 1] w fun e w' => e = .returned (.agg #[.int .i64 (chK p0 q0 p1 q1), .int .i64 (chN 1 p0 q0 p1 q1), .string ⟨#[]⟩]) ∧ Below w.heap.size w w') := by
    subst h1 h2 h3 h4; exact fun w => chain_1 _ _ _ _ _ _ w
  clear h1 h2 h3 h4
  go_enter Try.func6, Try.ntmps6
  go_wp2_with (first | (go_at_call 23; refine (HC.out _).mono ?_; rintro e w1 ⟨rfl, hb1⟩; have hf1 := (bcell hb1).2; have hz1 := hb1.size; (try simp at hz1); have hy1 : w.heap.size + 1 + 1 < w1.heap.size := (by omega); have hy1_0 : w.heap.size < w1.heap.size := (by omega); have hy1_1 : w.heap.size + 1 < w1.heap.size := (by omega); have q1_2_0 : w1.cell? ⟨w.heap.size + 1 + 1, 0, none⟩ = some (.int .i64 0) := cell_later hb1 (by go_simp); have q1_2_1 : w1.cell? ⟨w.heap.size + 1 + 1, 1, none⟩ = some (.int .i64 0) := cell_later hb1 (by go_simp); have q1_2_2 : w1.cell? ⟨w.heap.size + 1 + 1, 2, none⟩ = some (.string ⟨#[]⟩) := cell_later hb1 (by go_simp)))
  refine bodyPost_ret (v := (.agg #[.int .i64 (chK p0 q0 p1 q1), .int .i64 (chN 1 p0 q0 p1 q1), .string ⟨#[]⟩])) (by simp [results, Try.results6, go_sem, *]) rfl ⟨?_, ?_⟩
  · rfl
  · repeat (first | exact Below.refl _ _ | refine Below.drew ?_ | refine Below.alloc ?_ (by first | (simp; done) | (simp; omega) | omega) _ | refine Below.setCell ?_ (by first | (simp; done) | (simp; omega) | omega) _ | refine bstep (by assumption) (by first | (simp; done) | (simp; omega) | omega) ?_)
set_option maxHeartbeats 2000000 in
set_option maxRecDepth 100000 in
theorem rI_x (op : ByteArray) (k k' : Int) (a b : Int) (s s' : ByteArray) (w : World) (x0 : (op.toList == [43]) = false) (x1 : (op.toList == [45]) = false) (x2 : (op.toList == [42]) = false) (x3 : (op.toList == [47]) = false) (x4 : (op.toList == [61]) = false) (x5 : (op.toList == [60]) = false) (x6 : (op.toList == [126]) = false) (x7 : (op.toList == [97, 110, 100]) = false) (x8 : (op.toList == [111, 114]) = false) :
    Calls Try.prog 6 #[.string op, (.agg #[.int .i64 k, .int .i64 a, .string s]), (.agg #[.int .i64 k', .int .i64 b, .string s'])] w fun e w' => e = .returned (.agg #[.int .i64 0, .int .i64 0, .string ⟨#[]⟩]) ∧ Below w.heap.size w w' := by
  go_enter Try.func6, Try.ntmps6
  go_wp2
  go_returns
  exact ⟨rfl, by go_grown⟩
end Go.Proofs.Ytlakhcmbalcclaa
