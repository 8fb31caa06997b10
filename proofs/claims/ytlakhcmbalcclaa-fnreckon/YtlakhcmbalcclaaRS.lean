/- Own text. The contract of the specification's Reckon at each sign. -/
import Derived.Test.YtlakhcmbalcclaaRChain
import Derived.Test.YtlakhcmbalcclaaRHolds
import Derived.Test.YtlakhcmbalcclaaArithJ
namespace Go.Proofs.Ytlakhcmbalcclaa
open Go.RowKit
set_option linter.unusedVariables false
set_option maxHeartbeats 2000000 in
set_option maxRecDepth 100000 in
theorem rS_add (op : ByteArray) (a b : Int) (s s' : ByteArray) (w : World) (ha : -9223372036854775808 ≤ a ∧ a ≤ 9223372036854775807) (hb : -9223372036854775808 ≤ b ∧ b ≤ 9223372036854775807) (hop : op.toList = [43]) :
    Calls Try.prog 8 #[.string op, (.agg #[.int .i64 1, .int .i64 a, .string s]), (.agg #[.int .i64 1, .int .i64 b, .string s'])] w fun e w' => e = .returned (.agg #[.int .i64 (kO (addO a b)), .int .i64 (nO (addO a b)), .string ⟨#[]⟩]) ∧ Below w.heap.size w w' := by
  go_enter Try.func8, Try.ntmps8
  go_wp2_with (first | (go_at_call 28; refine (arith_add _ _ _ _ ha hb hop).mono ?_; rintro e w1 ⟨rfl, hb1⟩; have hf1 := (bcell hb1).2; have hz1 := hb1.size; (try simp at hz1); have hy1 : w.heap.size + 1 + 1 < w1.heap.size := (by omega); have hy1_0 : w.heap.size < w1.heap.size := (by omega); have hy1_1 : w.heap.size + 1 < w1.heap.size := (by omega); have q1_2_0 : w1.cell? ⟨w.heap.size + 1 + 1, 0, none⟩ = some (.int .i64 0) := cell_later hb1 (by go_simp); have q1_2_1 : w1.cell? ⟨w.heap.size + 1 + 1, 1, none⟩ = some (.int .i64 0) := cell_later hb1 (by go_simp); have q1_2_2 : w1.cell? ⟨w.heap.size + 1 + 1, 2, none⟩ = some (.string ⟨#[]⟩) := cell_later hb1 (by go_simp)))
  refine bodyPost_ret (v := (.agg #[.int .i64 (kO (addO a b)), .int .i64 (nO (addO a b)), .string ⟨#[]⟩])) (by simp [results, Try.results8, go_sem, *]) rfl ⟨?_, ?_⟩
  · rfl
  · repeat (first | exact Below.refl _ _ | refine Below.drew ?_ | refine Below.alloc ?_ (by first | (simp; done) | (simp; omega) | omega) _ | refine Below.setCell ?_ (by first | (simp; done) | (simp; omega) | omega) _ | refine bstep (by assumption) (by first | (simp; done) | (simp; omega) | omega) ?_)
set_option maxHeartbeats 2000000 in
set_option maxRecDepth 100000 in
theorem rS_sub (op : ByteArray) (a b : Int) (s s' : ByteArray) (w : World) (ha : -9223372036854775808 ≤ a ∧ a ≤ 9223372036854775807) (hb : -9223372036854775808 ≤ b ∧ b ≤ 9223372036854775807) (hop : op.toList = [45]) :
    Calls Try.prog 8 #[.string op, (.agg #[.int .i64 1, .int .i64 a, .string s]), (.agg #[.int .i64 1, .int .i64 b, .string s'])] w fun e w' => e = .returned (.agg #[.int .i64 (kO (subO a b)), .int .i64 (nO (subO a b)), .string ⟨#[]⟩]) ∧ Below w.heap.size w w' := by
  go_enter Try.func8, Try.ntmps8
  go_wp2_with (first | (go_at_call 28; refine (arith_sub _ _ _ _ ha hb hop).mono ?_; rintro e w1 ⟨rfl, hb1⟩; have hf1 := (bcell hb1).2; have hz1 := hb1.size; (try simp at hz1); have hy1 : w.heap.size + 1 + 1 < w1.heap.size := (by omega); have hy1_0 : w.heap.size < w1.heap.size := (by omega); have hy1_1 : w.heap.size + 1 < w1.heap.size := (by omega); have q1_2_0 : w1.cell? ⟨w.heap.size + 1 + 1, 0, none⟩ = some (.int .i64 0) := cell_later hb1 (by go_simp); have q1_2_1 : w1.cell? ⟨w.heap.size + 1 + 1, 1, none⟩ = some (.int .i64 0) := cell_later hb1 (by go_simp); have q1_2_2 : w1.cell? ⟨w.heap.size + 1 + 1, 2, none⟩ = some (.string ⟨#[]⟩) := cell_later hb1 (by go_simp)))
  refine bodyPost_ret (v := (.agg #[.int .i64 (kO (subO a b)), .int .i64 (nO (subO a b)), .string ⟨#[]⟩])) (by simp [results, Try.results8, go_sem, *]) rfl ⟨?_, ?_⟩
  · rfl
  · repeat (first | exact Below.refl _ _ | refine Below.drew ?_ | refine Below.alloc ?_ (by first | (simp; done) | (simp; omega) | omega) _ | refine Below.setCell ?_ (by first | (simp; done) | (simp; omega) | omega) _ | refine bstep (by assumption) (by first | (simp; done) | (simp; omega) | omega) ?_)
set_option maxHeartbeats 2000000 in
set_option maxRecDepth 100000 in
theorem rS_mul (op : ByteArray) (a b : Int) (s s' : ByteArray) (w : World) (ha : -9223372036854775808 ≤ a ∧ a ≤ 9223372036854775807) (hb : -9223372036854775808 ≤ b ∧ b ≤ 9223372036854775807) (hop : op.toList = [42]) :
    Calls Try.prog 8 #[.string op, (.agg #[.int .i64 1, .int .i64 a, .string s]), (.agg #[.int .i64 1, .int .i64 b, .string s'])] w fun e w' => e = .returned (.agg #[.int .i64 (kO (mulO a b)), .int .i64 (nO (mulO a b)), .string ⟨#[]⟩]) ∧ Below w.heap.size w w' := by
  go_enter Try.func8, Try.ntmps8
  go_wp2_with (first | (go_at_call 28; refine (arith_mul _ _ _ _ ha hb hop).mono ?_; rintro e w1 ⟨rfl, hb1⟩; have hf1 := (bcell hb1).2; have hz1 := hb1.size; (try simp at hz1); have hy1 : w.heap.size + 1 + 1 < w1.heap.size := (by omega); have hy1_0 : w.heap.size < w1.heap.size := (by omega); have hy1_1 : w.heap.size + 1 < w1.heap.size := (by omega); have q1_2_0 : w1.cell? ⟨w.heap.size + 1 + 1, 0, none⟩ = some (.int .i64 0) := cell_later hb1 (by go_simp); have q1_2_1 : w1.cell? ⟨w.heap.size + 1 + 1, 1, none⟩ = some (.int .i64 0) := cell_later hb1 (by go_simp); have q1_2_2 : w1.cell? ⟨w.heap.size + 1 + 1, 2, none⟩ = some (.string ⟨#[]⟩) := cell_later hb1 (by go_simp)))
  refine bodyPost_ret (v := (.agg #[.int .i64 (kO (mulO a b)), .int .i64 (nO (mulO a b)), .string ⟨#[]⟩])) (by simp [results, Try.results8, go_sem, *]) rfl ⟨?_, ?_⟩
  · rfl
  · repeat (first | exact Below.refl _ _ | refine Below.drew ?_ | refine Below.alloc ?_ (by first | (simp; done) | (simp; omega) | omega) _ | refine Below.setCell ?_ (by first | (simp; done) | (simp; omega) | omega) _ | refine bstep (by assumption) (by first | (simp; done) | (simp; omega) | omega) ?_)
set_option maxHeartbeats 2000000 in
set_option maxRecDepth 100000 in
theorem rS_div (op : ByteArray) (a b : Int) (s s' : ByteArray) (w : World) (ha : -9223372036854775808 ≤ a ∧ a ≤ 9223372036854775807) (hb : -9223372036854775808 ≤ b ∧ b ≤ 9223372036854775807) (hop : op.toList = [47]) :
    Calls Try.prog 8 #[.string op, (.agg #[.int .i64 1, .int .i64 a, .string s]), (.agg #[.int .i64 1, .int .i64 b, .string s'])] w fun e w' => e = .returned (.agg #[.int .i64 (kO (divO a b)), .int .i64 (nO (divO a b)), .string ⟨#[]⟩]) ∧ Below w.heap.size w w' := by
  go_enter Try.func8, Try.ntmps8
  go_wp2_with (first | (go_at_call 28; refine (arith_div _ _ _ _ ha hb hop).mono ?_; rintro e w1 ⟨rfl, hb1⟩; have hf1 := (bcell hb1).2; have hz1 := hb1.size; (try simp at hz1); have hy1 : w.heap.size + 1 + 1 < w1.heap.size := (by omega); have hy1_0 : w.heap.size < w1.heap.size := (by omega); have hy1_1 : w.heap.size + 1 < w1.heap.size := (by omega); have q1_2_0 : w1.cell? ⟨w.heap.size + 1 + 1, 0, none⟩ = some (.int .i64 0) := cell_later hb1 (by go_simp); have q1_2_1 : w1.cell? ⟨w.heap.size + 1 + 1, 1, none⟩ = some (.int .i64 0) := cell_later hb1 (by go_simp); have q1_2_2 : w1.cell? ⟨w.heap.size + 1 + 1, 2, none⟩ = some (.string ⟨#[]⟩) := cell_later hb1 (by go_simp)))
  refine bodyPost_ret (v := (.agg #[.int .i64 (kO (divO a b)), .int .i64 (nO (divO a b)), .string ⟨#[]⟩])) (by simp [results, Try.results8, go_sem, *]) rfl ⟨?_, ?_⟩
  · rfl
  · repeat (first | exact Below.refl _ _ | refine Below.drew ?_ | refine Below.alloc ?_ (by first | (simp; done) | (simp; omega) | omega) _ | refine Below.setCell ?_ (by first | (simp; done) | (simp; omega) | omega) _ | refine bstep (by assumption) (by first | (simp; done) | (simp; omega) | omega) ?_)
set_option maxHeartbeats 2000000 in
set_option maxRecDepth 100000 in
theorem rS_ne (op : ByteArray) (k k' : Int) (a b : Int) (s s' : ByteArray) (w : World) (x7 : (op.toList == [97, 110, 100]) = false) (x8 : (op.toList == [111, 114]) = false) (hk : (k != k') = true) :
    Calls Try.prog 8 #[.string op, (.agg #[.int .i64 k, .int .i64 a, .string s]), (.agg #[.int .i64 k', .int .i64 b, .string s'])] w fun e w' => e = .returned (.agg #[.int .i64 0, .int .i64 0, .string ⟨#[]⟩]) ∧ Below w.heap.size w w' := by
  go_enter Try.func8, Try.ntmps8
  go_wp2
  go_returns
  exact ⟨rfl, by go_grown⟩
set_option maxHeartbeats 2000000 in
set_option maxRecDepth 100000 in
theorem rS_null (op : ByteArray) (a b : Int) (s s' : ByteArray) (w : World) (x7 : (op.toList == [97, 110, 100]) = false) (x8 : (op.toList == [111, 114]) = false) :
    Calls Try.prog 8 #[.string op, (.agg #[.int .i64 0, .int .i64 a, .string s]), (.agg #[.int .i64 0, .int .i64 b, .string s'])] w fun e w' => e = .returned (.agg #[.int .i64 0, .int .i64 0, .string ⟨#[]⟩]) ∧ Below w.heap.size w w' := by
  go_enter Try.func8, Try.ntmps8
  go_wp2
  go_returns
  exact ⟨rfl, by go_grown⟩
set_option maxHeartbeats 2000000 in
set_option maxRecDepth 100000 in
theorem rS_eq (op : ByteArray) (k : Int) (a b : Int) (s s' : ByteArray) (w : World) (hop : op.toList = [61]) (h0 : (k == 0) = false) :
    Calls Try.prog 8 #[.string op, (.agg #[.int .i64 k, .int .i64 a, .string s]), (.agg #[.int .i64 k, .int .i64 b, .string s'])] w fun e w' => e = .returned (.agg #[.int .i64 2, .int .i64 (bn (cmpV k a s k b s' == 0)), .string ⟨#[]⟩]) ∧ Below w.heap.size w w' := by
  have hn : (k != k) = false := by simp
  go_enter Try.func8, Try.ntmps8
  go_wp2_with (first | (go_at_call 26; refine (specCmp_any _ _ _ _ _ _ _).mono ?_; rintro e w1 ⟨rfl, hb1⟩; have hf1 := (bcell hb1).2; have hz1 := hb1.size; (try simp at hz1); have hy1 : w.heap.size + 1 + 1 < w1.heap.size := (by omega); have hy1_0 : w.heap.size < w1.heap.size := (by omega); have hy1_1 : w.heap.size + 1 < w1.heap.size := (by omega); have q1_2_0 : w1.cell? ⟨w.heap.size + 1 + 1, 0, none⟩ = some (.int .i64 0) := cell_later hb1 (by go_simp); have q1_2_1 : w1.cell? ⟨w.heap.size + 1 + 1, 1, none⟩ = some (.int .i64 0) := cell_later hb1 (by go_simp); have q1_2_2 : w1.cell? ⟨w.heap.size + 1 + 1, 2, none⟩ = some (.string ⟨#[]⟩) := cell_later hb1 (by go_simp)) | (go_at_call 25; refine (l01Bool_any _ _).mono ?_; rintro e w2 ⟨rfl, hb2⟩; have hf2 := (bcell hb2).2; have hz2 := hb2.size; (try simp at hz2); have hy2 : w.heap.size + 1 + 1 < w2.heap.size := (by omega); have hy2_0 : w.heap.size < w2.heap.size := (by omega); have hy2_1 : w.heap.size + 1 < w2.heap.size := (by omega); have q2_2_0 : w2.cell? ⟨w.heap.size + 1 + 1, 0, none⟩ = some (.int .i64 0) := cell_later hb2 (by go_simp); have q2_2_1 : w2.cell? ⟨w.heap.size + 1 + 1, 1, none⟩ = some (.int .i64 0) := cell_later hb2 (by go_simp); have q2_2_2 : w2.cell? ⟨w.heap.size + 1 + 1, 2, none⟩ = some (.string ⟨#[]⟩) := cell_later hb2 (by go_simp)))
  refine bodyPost_ret (v := (.agg #[.int .i64 2, .int .i64 (bn (cmpV k a s k b s' == 0)), .string ⟨#[]⟩])) (by simp [results, Try.results8, go_sem, *]) rfl ⟨?_, ?_⟩
  · rfl
  · repeat (first | exact Below.refl _ _ | refine Below.drew ?_ | refine Below.alloc ?_ (by first | (simp; done) | (simp; omega) | omega) _ | refine Below.setCell ?_ (by first | (simp; done) | (simp; omega) | omega) _ | refine bstep (by assumption) (by first | (simp; done) | (simp; omega) | omega) ?_)
set_option maxHeartbeats 2000000 in
set_option maxRecDepth 100000 in
theorem rS_lt (op : ByteArray) (k : Int) (a b : Int) (s s' : ByteArray) (w : World) (hop : op.toList = [60]) (h0 : (k == 0) = false) :
    Calls Try.prog 8 #[.string op, (.agg #[.int .i64 k, .int .i64 a, .string s]), (.agg #[.int .i64 k, .int .i64 b, .string s'])] w fun e w' => e = .returned (.agg #[.int .i64 2, .int .i64 (bn (decide (cmpV k a s k b s' < 0))), .string ⟨#[]⟩]) ∧ Below w.heap.size w w' := by
  have hn : (k != k) = false := by simp
  go_enter Try.func8, Try.ntmps8
  go_wp2_with (first | (go_at_call 26; refine (specCmp_any _ _ _ _ _ _ _).mono ?_; rintro e w1 ⟨rfl, hb1⟩; have hf1 := (bcell hb1).2; have hz1 := hb1.size; (try simp at hz1); have hy1 : w.heap.size + 1 + 1 < w1.heap.size := (by omega); have hy1_0 : w.heap.size < w1.heap.size := (by omega); have hy1_1 : w.heap.size + 1 < w1.heap.size := (by omega); have q1_2_0 : w1.cell? ⟨w.heap.size + 1 + 1, 0, none⟩ = some (.int .i64 0) := cell_later hb1 (by go_simp); have q1_2_1 : w1.cell? ⟨w.heap.size + 1 + 1, 1, none⟩ = some (.int .i64 0) := cell_later hb1 (by go_simp); have q1_2_2 : w1.cell? ⟨w.heap.size + 1 + 1, 2, none⟩ = some (.string ⟨#[]⟩) := cell_later hb1 (by go_simp)) | (go_at_call 25; refine (l01Bool_any _ _).mono ?_; rintro e w2 ⟨rfl, hb2⟩; have hf2 := (bcell hb2).2; have hz2 := hb2.size; (try simp at hz2); have hy2 : w.heap.size + 1 + 1 < w2.heap.size := (by omega); have hy2_0 : w.heap.size < w2.heap.size := (by omega); have hy2_1 : w.heap.size + 1 < w2.heap.size := (by omega); have q2_2_0 : w2.cell? ⟨w.heap.size + 1 + 1, 0, none⟩ = some (.int .i64 0) := cell_later hb2 (by go_simp); have q2_2_1 : w2.cell? ⟨w.heap.size + 1 + 1, 1, none⟩ = some (.int .i64 0) := cell_later hb2 (by go_simp); have q2_2_2 : w2.cell? ⟨w.heap.size + 1 + 1, 2, none⟩ = some (.string ⟨#[]⟩) := cell_later hb2 (by go_simp)))
  refine bodyPost_ret (v := (.agg #[.int .i64 2, .int .i64 (bn (decide (cmpV k a s k b s' < 0))), .string ⟨#[]⟩])) (by simp [results, Try.results8, go_sem, *]) rfl ⟨?_, ?_⟩
  · rfl
  · repeat (first | exact Below.refl _ _ | refine Below.drew ?_ | refine Below.alloc ?_ (by first | (simp; done) | (simp; omega) | omega) _ | refine Below.setCell ?_ (by first | (simp; done) | (simp; omega) | omega) _ | refine bstep (by assumption) (by first | (simp; done) | (simp; omega) | omega) ?_)
set_option maxHeartbeats 2000000 in
set_option maxRecDepth 100000 in
theorem rS_hold (op : ByteArray) (a b : Int) (s s' : ByteArray) (cc : Bool) (hcc : Lib.contains s.data.toList s'.data.toList = cc) (w : World) (hs : s.size ≤ 1048576) (hs' : s'.size ≤ 1048576) (hop : op.toList = [126]) :
    Calls Try.prog 8 #[.string op, (.agg #[.int .i64 3, .int .i64 a, .string s]), (.agg #[.int .i64 3, .int .i64 b, .string s'])] w fun e w' => e = .returned (.agg #[.int .i64 2, .int .i64 (bn cc), .string ⟨#[]⟩]) ∧ Below w.heap.size w w' := by
  have HC : Hid (∀ w : World, Calls Try.prog 27 #[.string s, .string s'] w fun e w' => e = .returned (.bool cc) ∧ w' = w) := by
    subst hcc; exact fun w => l01Holds_any s s' w hs hs'
  clear hcc
  go_enter Try.func8, Try.ntmps8
  go_wp2_with (first | (go_at_call 27; refine (HC.out _).mono ?_; rintro e w1 ⟨rfl, rfl⟩) | (go_at_call 25; refine (l01Bool_any _ _).mono ?_; rintro e w2 ⟨rfl, hb2⟩; have hf2 := (bcell hb2).2; have hz2 := hb2.size; (try simp at hz2); have hy2 : w.heap.size + 1 + 1 < w2.heap.size := (by omega); have hy2_0 : w.heap.size < w2.heap.size := (by omega); have hy2_1 : w.heap.size + 1 < w2.heap.size := (by omega); have q2_2_0 : w2.cell? ⟨w.heap.size + 1 + 1, 0, none⟩ = some (.int .i64 0) := cell_later hb2 (by go_simp); have q2_2_1 : w2.cell? ⟨w.heap.size + 1 + 1, 1, none⟩ = some (.int .i64 0) := cell_later hb2 (by go_simp); have q2_2_2 : w2.cell? ⟨w.heap.size + 1 + 1, 2, none⟩ = some (.string ⟨#[]⟩) := cell_later hb2 (by go_simp)))
  refine bodyPost_ret (v := (.agg #[.int .i64 2, .int .i64 (bn cc), .string ⟨#[]⟩])) (by simp [results, Try.results8, go_sem, *]) rfl ⟨?_, ?_⟩
  · rfl
  · repeat (first | exact Below.refl _ _ | refine Below.drew ?_ | refine Below.alloc ?_ (by first | (simp; done) | (simp; omega) | omega) _ | refine Below.setCell ?_ (by first | (simp; done) | (simp; omega) | omega) _ | refine bstep (by assumption) (by first | (simp; done) | (simp; omega) | omega) ?_)
set_option maxHeartbeats 2000000 in
set_option maxRecDepth 100000 in
theorem rS_and (op : ByteArray) (k k' : Int) (a b : Int) (s s' : ByteArray) (p0 q0 p1 q1 : Bool) (h1 : is2 k a s 0 = p0) (h2 : is2 k' b s' 0 = q0) (h3 : is2 k a s 1 = p1) (h4 : is2 k' b s' 1 = q1) (w : World) (hop : op.toList = [97, 110, 100]) :
    Calls Try.prog 8 #[.string op, (.agg #[.int .i64 k, .int .i64 a, .string s]), (.agg #[.int .i64 k', .int .i64 b, .string s'])] w fun e w' => e = .returned (.agg #[.int .i64 (chK p0 q0 p1 q1), .int .i64 (chN 0 p0 q0 p1 q1), .string ⟨#[]⟩]) ∧ Below w.heap.size w w' := by
  have HC : Hid (∀ w : World, Calls Try.prog 24 #[.string op, (.agg #[.int .i64 k, .int .i64 a, .string s]), (.agg #[.int .i64 k', .int .i64 b, .string s'])] w fun e w' => e = .returned (.agg #[.int .i64 (chK p0 q0 p1 q1), .int .i64 (chN 0 p0 q0 p1 q1), .string ⟨#[]⟩]) ∧ Below w.heap.size w w') := by
    subst h1 h2 h3 h4; exact fun w => logic_0 op _ _ _ _ _ _ w hop
  clear h1 h2 h3 h4
  go_enter Try.func8, Try.ntmps8
  go_wp2_with (first | (go_at_call 24; refine (HC.out _).mono ?_; rintro e w1 ⟨rfl, hb1⟩; have hf1 := (bcell hb1).2; have hz1 := hb1.size; (try simp at hz1); have hy1 : w.heap.size + 1 + 1 < w1.heap.size := (by omega); have hy1_0 : w.heap.size < w1.heap.size := (by omega); have hy1_1 : w.heap.size + 1 < w1.heap.size := (by omega); have q1_2_0 : w1.cell? ⟨w.heap.size + 1 + 1, 0, none⟩ = some (.int .i64 0) := cell_later hb1 (by go_simp); have q1_2_1 : w1.cell? ⟨w.heap.size + 1 + 1, 1, none⟩ = some (.int .i64 0) := cell_later hb1 (by go_simp); have q1_2_2 : w1.cell? ⟨w.heap.size + 1 + 1, 2, none⟩ = some (.string ⟨#[]⟩) := cell_later hb1 (by go_simp)))
  refine bodyPost_ret (v := (.agg #[.int .i64 (chK p0 q0 p1 q1), .int .i64 (chN 0 p0 q0 p1 q1), .string ⟨#[]⟩])) (by simp [results, Try.results8, go_sem, *]) rfl ⟨?_, ?_⟩
  · rfl
  · repeat (first | exact Below.refl _ _ | refine Below.drew ?_ | refine Below.alloc ?_ (by first | (simp; done) | (simp; omega) | omega) _ | refine Below.setCell ?_ (by first | (simp; done) | (simp; omega) | omega) _ | refine bstep (by assumption) (by first | (simp; done) | (simp; omega) | omega) ?_)
set_option maxHeartbeats 2000000 in
set_option maxRecDepth 100000 in
theorem rS_or (op : ByteArray) (k k' : Int) (a b : Int) (s s' : ByteArray) (p0 q0 p1 q1 : Bool) (h1 : is2 k a s 1 = p0) (h2 : is2 k' b s' 1 = q0) (h3 : is2 k a s 0 = p1) (h4 : is2 k' b s' 0 = q1) (w : World) (hop : op.toList = [111, 114]) :
    Calls Try.prog 8 #[.string op, (.agg #[.int .i64 k, .int .i64 a, .string s]), (.agg #[.int .i64 k', .int .i64 b, .string s'])] w fun e w' => e = .returned (.agg #[.int .i64 (chK p0 q0 p1 q1), .int .i64 (chN 1 p0 q0 p1 q1), .string ⟨#[]⟩]) ∧ Below w.heap.size w w' := by
  have HC : Hid (∀ w : World, Calls Try.prog 24 #[.string op, (.agg #[.int .i64 k, .int .i64 a, .string s]), (.agg #[.int .i64 k', .int .i64 b, .string s'])] w fun e w' => e = .returned (.agg #[.int .i64 (chK p0 q0 p1 q1), .int .i64 (chN 1 p0 q0 p1 q1), .string ⟨#[]⟩]) ∧ Below w.heap.size w w') := by
    subst h1 h2 h3 h4; exact fun w => logic_1 op _ _ _ _ _ _ w hop
  clear h1 h2 h3 h4
  go_enter Try.func8, Try.ntmps8
  go_wp2_with (first | (go_at_call 24; refine (HC.out _).mono ?_; rintro e w1 ⟨rfl, hb1⟩; have hf1 := (bcell hb1).2; have hz1 := hb1.size; (try simp at hz1); have hy1 : w.heap.size + 1 + 1 < w1.heap.size := (by omega); have hy1_0 : w.heap.size < w1.heap.size := (by omega); have hy1_1 : w.heap.size + 1 < w1.heap.size := (by omega); have q1_2_0 : w1.cell? ⟨w.heap.size + 1 + 1, 0, none⟩ = some (.int .i64 0) := cell_later hb1 (by go_simp); have q1_2_1 : w1.cell? ⟨w.heap.size + 1 + 1, 1, none⟩ = some (.int .i64 0) := cell_later hb1 (by go_simp); have q1_2_2 : w1.cell? ⟨w.heap.size + 1 + 1, 2, none⟩ = some (.string ⟨#[]⟩) := cell_later hb1 (by go_simp)))
  refine bodyPost_ret (v := (.agg #[.int .i64 (chK p0 q0 p1 q1), .int .i64 (chN 1 p0 q0 p1 q1), .string ⟨#[]⟩])) (by simp [results, Try.results8, go_sem, *]) rfl ⟨?_, ?_⟩
  · rfl
  · repeat (first | exact Below.refl _ _ | refine Below.drew ?_ | refine Below.alloc ?_ (by first | (simp; done) | (simp; omega) | omega) _ | refine Below.setCell ?_ (by first | (simp; done) | (simp; omega) | omega) _ | refine bstep (by assumption) (by first | (simp; done) | (simp; omega) | omega) ?_)
set_option maxHeartbeats 2000000 in
set_option maxRecDepth 100000 in
theorem rS_1x (op : ByteArray) (a b : Int) (s s' : ByteArray) (w : World) (x0 : (op.toList == [43]) = false) (x1 : (op.toList == [45]) = false) (x2 : (op.toList == [42]) = false) (x3 : (op.toList == [47]) = false) (x4 : (op.toList == [61]) = false) (x5 : (op.toList == [60]) = false) (x7 : (op.toList == [97, 110, 100]) = false) (x8 : (op.toList == [111, 114]) = false) (x6 : (op.toList == [126]) = false) :
    Calls Try.prog 8 #[.string op, (.agg #[.int .i64 1, .int .i64 a, .string s]), (.agg #[.int .i64 1, .int .i64 b, .string s'])] w fun e w' => e = .returned (.agg #[.int .i64 0, .int .i64 0, .string ⟨#[]⟩]) ∧ Below w.heap.size w w' := by
  go_enter Try.func8, Try.ntmps8
  go_wp2_with (first | (go_at_call 28; refine (arith_x _ _ _ _ x0 x1 x2 x3).mono ?_; rintro e w1 ⟨rfl, hb1⟩; have hf1 := (bcell hb1).2; have hz1 := hb1.size; (try simp at hz1); have hy1 : w.heap.size + 1 + 1 < w1.heap.size := (by omega); have hy1_0 : w.heap.size < w1.heap.size := (by omega); have hy1_1 : w.heap.size + 1 < w1.heap.size := (by omega); have q1_2_0 : w1.cell? ⟨w.heap.size + 1 + 1, 0, none⟩ = some (.int .i64 0) := cell_later hb1 (by go_simp); have q1_2_1 : w1.cell? ⟨w.heap.size + 1 + 1, 1, none⟩ = some (.int .i64 0) := cell_later hb1 (by go_simp); have q1_2_2 : w1.cell? ⟨w.heap.size + 1 + 1, 2, none⟩ = some (.string ⟨#[]⟩) := cell_later hb1 (by go_simp)))
  refine bodyPost_ret (v := (.agg #[.int .i64 0, .int .i64 0, .string ⟨#[]⟩])) (by simp [results, Try.results8, go_sem, *]) rfl ⟨?_, ?_⟩
  · rfl
  · repeat (first | exact Below.refl _ _ | refine Below.drew ?_ | refine Below.alloc ?_ (by first | (simp; done) | (simp; omega) | omega) _ | refine Below.setCell ?_ (by first | (simp; done) | (simp; omega) | omega) _ | refine bstep (by assumption) (by first | (simp; done) | (simp; omega) | omega) ?_)
set_option maxHeartbeats 2000000 in
set_option maxRecDepth 100000 in
theorem rS_1h (op : ByteArray) (a b : Int) (s s' : ByteArray) (w : World) (hop : op.toList = [126]) :
    Calls Try.prog 8 #[.string op, (.agg #[.int .i64 1, .int .i64 a, .string s]), (.agg #[.int .i64 1, .int .i64 b, .string s'])] w fun e w' => e = .returned (.agg #[.int .i64 0, .int .i64 0, .string ⟨#[]⟩]) ∧ Below w.heap.size w w' := by
  go_enter Try.func8, Try.ntmps8
  go_wp2_with (first | (go_at_call 28; refine (arith_x _ _ _ _ (by rw [hop]; rfl) (by rw [hop]; rfl) (by rw [hop]; rfl) (by rw [hop]; rfl)).mono ?_; rintro e w1 ⟨rfl, hb1⟩; have hf1 := (bcell hb1).2; have hz1 := hb1.size; (try simp at hz1); have hy1 : w.heap.size + 1 + 1 < w1.heap.size := (by omega); have hy1_0 : w.heap.size < w1.heap.size := (by omega); have hy1_1 : w.heap.size + 1 < w1.heap.size := (by omega); have q1_2_0 : w1.cell? ⟨w.heap.size + 1 + 1, 0, none⟩ = some (.int .i64 0) := cell_later hb1 (by go_simp); have q1_2_1 : w1.cell? ⟨w.heap.size + 1 + 1, 1, none⟩ = some (.int .i64 0) := cell_later hb1 (by go_simp); have q1_2_2 : w1.cell? ⟨w.heap.size + 1 + 1, 2, none⟩ = some (.string ⟨#[]⟩) := cell_later hb1 (by go_simp)))
  refine bodyPost_ret (v := (.agg #[.int .i64 0, .int .i64 0, .string ⟨#[]⟩])) (by simp [results, Try.results8, go_sem, *]) rfl ⟨?_, ?_⟩
  · rfl
  · repeat (first | exact Below.refl _ _ | refine Below.drew ?_ | refine Below.alloc ?_ (by first | (simp; done) | (simp; omega) | omega) _ | refine Below.setCell ?_ (by first | (simp; done) | (simp; omega) | omega) _ | refine bstep (by assumption) (by first | (simp; done) | (simp; omega) | omega) ?_)
set_option maxHeartbeats 2000000 in
set_option maxRecDepth 100000 in
theorem rS_kx (op : ByteArray) (k : Int) (a b : Int) (s s' : ByteArray) (w : World) (x4 : (op.toList == [61]) = false) (x5 : (op.toList == [60]) = false) (x7 : (op.toList == [97, 110, 100]) = false) (x8 : (op.toList == [111, 114]) = false) (x6 : (op.toList == [126]) = false) (h0 : (k == 0) = false) (h1 : (k == 1) = false) :
    Calls Try.prog 8 #[.string op, (.agg #[.int .i64 k, .int .i64 a, .string s]), (.agg #[.int .i64 k, .int .i64 b, .string s'])] w fun e w' => e = .returned (.agg #[.int .i64 0, .int .i64 0, .string ⟨#[]⟩]) ∧ Below w.heap.size w w' := by
  have hn : (k != k) = false := by simp
  go_enter Try.func8, Try.ntmps8
  go_wp2
  go_returns
  exact ⟨rfl, by go_grown⟩
set_option maxHeartbeats 2000000 in
set_option maxRecDepth 100000 in
theorem rS_kh (op : ByteArray) (k : Int) (a b : Int) (s s' : ByteArray) (w : World) (hop : op.toList = [126]) (h0 : (k == 0) = false) (h1 : (k == 1) = false) (h3 : (k == 3) = false) :
    Calls Try.prog 8 #[.string op, (.agg #[.int .i64 k, .int .i64 a, .string s]), (.agg #[.int .i64 k, .int .i64 b, .string s'])] w fun e w' => e = .returned (.agg #[.int .i64 0, .int .i64 0, .string ⟨#[]⟩]) ∧ Below w.heap.size w w' := by
  have hn : (k != k) = false := by simp
  go_enter Try.func8, Try.ntmps8
  go_wp2
  go_returns
  exact ⟨rfl, by go_grown⟩
end Go.Proofs.Ytlakhcmbalcclaa
