/- Own text. What and and or make of two values (chainK, chainN); the contracts of reckonChain and of l01Logic. -/
import Derived.Test.YtlakhcmbalcclaaROrd
namespace Go.Proofs.Ytlakhcmbalcclaa
open Go.RowKit
set_option linter.unusedVariables false
/-- whether a value is the bool of a number. -/
def is2 (k n : Int) (s : ByteArray) (c : Int) : Bool := k == 2 && (n == c && s.toList == (⟨#[]⟩ : ByteArray).toList)
theorem eqV2 (k n : Int) (s : ByteArray) (c : Int) (w : World) : (binOp .eql 25 (.agg #[.int .i64 k, .int .i64 n, .string s]) (.agg #[.int .i64 2, .int .i64 c, .string ⟨#[]⟩])).run Try.prog w = .ok (.bool (is2 k n s c)) w := eqV k n 2 c s ⟨#[]⟩ w
/-- the kind and the number of a chain of two values, by what they are. -/
def chK (p0 q0 p1 q1 : Bool) : Int := if (p0 || q0) = true then 2 else if (p1 && q1) = true then 2 else 0
def chN (st : Int) (p0 q0 p1 q1 : Bool) : Int := if (p0 || q0) = true then st else if (p1 && q1) = true then 1 - st else 0
set_option maxHeartbeats 2000000 in
set_option maxRecDepth 100000 in
theorem chain_0 (k n k' n' : Int) (s s' : ByteArray) (w : World) :
    Calls Try.prog 23 #[(.agg #[.int .i64 k, .int .i64 n, .string s]), (.agg #[.int .i64 k', .int .i64 n', .string s']), .int .i64 0] w fun e w' => e = .returned (.agg #[.int .i64 (chK (is2 k n s 0) (is2 k' n' s' 0) (is2 k n s 1) (is2 k' n' s' 1)), .int .i64 (chN 0 (is2 k n s 0) (is2 k' n' s' 0) (is2 k n s 1) (is2 k' n' s' 1)), .string ⟨#[]⟩]) ∧ Below w.heap.size w w' := by
  have hp0 := eqV2 k n s 0
  have hq0 := eqV2 k' n' s' 0
  have hp1 := eqV2 k n s 1
  have hq1 := eqV2 k' n' s' 1
  generalize is2 k n s 0 = p0 at *
  generalize is2 k' n' s' 0 = q0 at *
  generalize is2 k n s 1 = p1 at *
  generalize is2 k' n' s' 1 = q1 at *
  cases p0
  case true =>
    go_enter Try.func23, Try.ntmps23
    go_wp2
    go_returns
    exact ⟨rfl, by go_grown⟩
  cases q0
  case true =>
    go_enter Try.func23, Try.ntmps23
    go_wp2
    go_returns
    exact ⟨rfl, by go_grown⟩
  cases p1
  case false =>
    go_enter Try.func23, Try.ntmps23
    go_wp2
    go_returns
    exact ⟨rfl, by go_grown⟩
  cases q1
  case false =>
    go_enter Try.func23, Try.ntmps23
    go_wp2
    go_returns
    exact ⟨rfl, by go_grown⟩
  case true =>
    go_enter Try.func23, Try.ntmps23
    go_wp2
    go_returns
    exact ⟨rfl, by go_grown⟩
set_option maxHeartbeats 2000000 in
set_option maxRecDepth 100000 in
theorem chain_1 (k n k' n' : Int) (s s' : ByteArray) (w : World) :
    Calls Try.prog 23 #[(.agg #[.int .i64 k, .int .i64 n, .string s]), (.agg #[.int .i64 k', .int .i64 n', .string s']), .int .i64 1] w fun e w' => e = .returned (.agg #[.int .i64 (chK (is2 k n s 1) (is2 k' n' s' 1) (is2 k n s 0) (is2 k' n' s' 0)), .int .i64 (chN 1 (is2 k n s 1) (is2 k' n' s' 1) (is2 k n s 0) (is2 k' n' s' 0)), .string ⟨#[]⟩]) ∧ Below w.heap.size w w' := by
  have hp0 := eqV2 k n s 1
  have hq0 := eqV2 k' n' s' 1
  have hp1 := eqV2 k n s 0
  have hq1 := eqV2 k' n' s' 0
  generalize is2 k n s 1 = p0 at *
  generalize is2 k' n' s' 1 = q0 at *
  generalize is2 k n s 0 = p1 at *
  generalize is2 k' n' s' 0 = q1 at *
  cases p0
  case true =>
    go_enter Try.func23, Try.ntmps23
    go_wp2
    go_returns
    exact ⟨rfl, by go_grown⟩
  cases q0
  case true =>
    go_enter Try.func23, Try.ntmps23
    go_wp2
    go_returns
    exact ⟨rfl, by go_grown⟩
  cases p1
  case false =>
    go_enter Try.func23, Try.ntmps23
    go_wp2
    go_returns
    exact ⟨rfl, by go_grown⟩
  cases q1
  case false =>
    go_enter Try.func23, Try.ntmps23
    go_wp2
    go_returns
    exact ⟨rfl, by go_grown⟩
  case true =>
    go_enter Try.func23, Try.ntmps23
    go_wp2
    go_returns
    exact ⟨rfl, by go_grown⟩
set_option maxHeartbeats 2000000 in
set_option maxRecDepth 100000 in
theorem logic_0 (op : ByteArray) (k n k' n' : Int) (s s' : ByteArray) (w : World) (hop : op.toList = [97, 110, 100]) :
    Calls Try.prog 24 #[.string op, (.agg #[.int .i64 k, .int .i64 n, .string s]), (.agg #[.int .i64 k', .int .i64 n', .string s'])] w fun e w' => e = .returned (.agg #[.int .i64 (chK (is2 k n s 0) (is2 k' n' s' 0) (is2 k n s 1) (is2 k' n' s' 1)), .int .i64 (chN 0 (is2 k n s 0) (is2 k' n' s' 0) (is2 k n s 1) (is2 k' n' s' 1)), .string ⟨#[]⟩]) ∧ Below w.heap.size w w' := by
  have hp0 := eqV2 k n s 0
  have hq0 := eqV2 k' n' s' 0
  have hp1 := eqV2 k n s 1
  have hq1 := eqV2 k' n' s' 1
  generalize is2 k n s 0 = p0 at *
  generalize is2 k' n' s' 0 = q0 at *
  generalize is2 k n s 1 = p1 at *
  generalize is2 k' n' s' 1 = q1 at *
  cases p0
  case true =>
    go_enter Try.func24, Try.ntmps24
    go_wp2_with fail
    refine (l01Bool_false _).mono ?_
    rintro e w1 ⟨rfl, hb1⟩
    have hf1 := (bcell hb1).2
    have hz1 := hb1.size
    (try simp at hz1)
    have hy1 : w.heap.size + 1 + 1 < w1.heap.size := (by omega)
    have hy1_0 : w.heap.size < w1.heap.size := (by omega)
    have hy1_1 : w.heap.size + 1 < w1.heap.size := (by omega)
    have q1_0_0 : w1.cell? ⟨w.heap.size, 0, none⟩ = some (.int .i64 k) := cell_later hb1 (by go_simp)
    have q1_0_1 : w1.cell? ⟨w.heap.size, 1, none⟩ = some (.int .i64 n) := cell_later hb1 (by go_simp)
    have q1_0_2 : w1.cell? ⟨w.heap.size, 2, none⟩ = some (.string s) := cell_later hb1 (by go_simp)
    have q1_1_0 : w1.cell? ⟨w.heap.size + 1, 0, none⟩ = some (.int .i64 k') := cell_later hb1 (by go_simp)
    have q1_1_1 : w1.cell? ⟨w.heap.size + 1, 1, none⟩ = some (.int .i64 n') := cell_later hb1 (by go_simp)
    have q1_1_2 : w1.cell? ⟨w.heap.size + 1, 2, none⟩ = some (.string s') := cell_later hb1 (by go_simp)
    have q1_2_0 : w1.cell? ⟨w.heap.size + 1 + 1, 0, none⟩ = some (.int .i64 0) := cell_later hb1 (by go_simp)
    have q1_2_1 : w1.cell? ⟨w.heap.size + 1 + 1, 1, none⟩ = some (.int .i64 0) := cell_later hb1 (by go_simp)
    have q1_2_2 : w1.cell? ⟨w.heap.size + 1 + 1, 2, none⟩ = some (.string ⟨#[]⟩) := cell_later hb1 (by go_simp)
    go_wp2_with fail
    refine (l01Bool_true _).mono ?_
    rintro e w2 ⟨rfl, hb2⟩
    have hf2 := (bcell hb2).2
    have hz2 := hb2.size
    (try simp at hz2)
    have hy2 : w.heap.size + 1 + 1 < w2.heap.size := (by omega)
    have hy2_0 : w.heap.size < w2.heap.size := (by omega)
    have hy2_1 : w.heap.size + 1 < w2.heap.size := (by omega)
    have q2_0_0 : w2.cell? ⟨w.heap.size, 0, none⟩ = some (.int .i64 k) := cell_later hb2 (by go_simp)
    have q2_0_1 : w2.cell? ⟨w.heap.size, 1, none⟩ = some (.int .i64 n) := cell_later hb2 (by go_simp)
    have q2_0_2 : w2.cell? ⟨w.heap.size, 2, none⟩ = some (.string s) := cell_later hb2 (by go_simp)
    have q2_1_0 : w2.cell? ⟨w.heap.size + 1, 0, none⟩ = some (.int .i64 k') := cell_later hb2 (by go_simp)
    have q2_1_1 : w2.cell? ⟨w.heap.size + 1, 1, none⟩ = some (.int .i64 n') := cell_later hb2 (by go_simp)
    have q2_1_2 : w2.cell? ⟨w.heap.size + 1, 2, none⟩ = some (.string s') := cell_later hb2 (by go_simp)
    have q2_2_0 : w2.cell? ⟨w.heap.size + 1 + 1, 0, none⟩ = some (.int .i64 0) := cell_later hb2 (by go_simp)
    have q2_2_1 : w2.cell? ⟨w.heap.size + 1 + 1, 1, none⟩ = some (.int .i64 0) := cell_later hb2 (by go_simp)
    have q2_2_2 : w2.cell? ⟨w.heap.size + 1 + 1, 2, none⟩ = some (.string ⟨#[]⟩) := cell_later hb2 (by go_simp)
    go_wp2_with fail
    refine bodyPost_ret (v := (.agg #[.int .i64 2, .int .i64 0, .string ⟨#[]⟩])) (by simp [results, Try.results24, go_sem, *]) rfl ⟨?_, ?_⟩
    · rfl
    · repeat (first | exact Below.refl _ _ | refine Below.drew ?_ | refine Below.alloc ?_ (by first | (simp; done) | (simp; omega) | omega) _ | refine Below.setCell ?_ (by first | (simp; done) | (simp; omega) | omega) _ | refine bstep (by assumption) (by first | (simp; done) | (simp; omega) | omega) ?_)
  cases q0
  case true =>
    go_enter Try.func24, Try.ntmps24
    go_wp2_with fail
    refine (l01Bool_false _).mono ?_
    rintro e w1 ⟨rfl, hb1⟩
    have hf1 := (bcell hb1).2
    have hz1 := hb1.size
    (try simp at hz1)
    have hy1 : w.heap.size + 1 + 1 < w1.heap.size := (by omega)
    have hy1_0 : w.heap.size < w1.heap.size := (by omega)
    have hy1_1 : w.heap.size + 1 < w1.heap.size := (by omega)
    have q1_0_0 : w1.cell? ⟨w.heap.size, 0, none⟩ = some (.int .i64 k) := cell_later hb1 (by go_simp)
    have q1_0_1 : w1.cell? ⟨w.heap.size, 1, none⟩ = some (.int .i64 n) := cell_later hb1 (by go_simp)
    have q1_0_2 : w1.cell? ⟨w.heap.size, 2, none⟩ = some (.string s) := cell_later hb1 (by go_simp)
    have q1_1_0 : w1.cell? ⟨w.heap.size + 1, 0, none⟩ = some (.int .i64 k') := cell_later hb1 (by go_simp)
    have q1_1_1 : w1.cell? ⟨w.heap.size + 1, 1, none⟩ = some (.int .i64 n') := cell_later hb1 (by go_simp)
    have q1_1_2 : w1.cell? ⟨w.heap.size + 1, 2, none⟩ = some (.string s') := cell_later hb1 (by go_simp)
    have q1_2_0 : w1.cell? ⟨w.heap.size + 1 + 1, 0, none⟩ = some (.int .i64 0) := cell_later hb1 (by go_simp)
    have q1_2_1 : w1.cell? ⟨w.heap.size + 1 + 1, 1, none⟩ = some (.int .i64 0) := cell_later hb1 (by go_simp)
    have q1_2_2 : w1.cell? ⟨w.heap.size + 1 + 1, 2, none⟩ = some (.string ⟨#[]⟩) := cell_later hb1 (by go_simp)
    go_wp2_with fail
    refine (l01Bool_true _).mono ?_
    rintro e w2 ⟨rfl, hb2⟩
    have hf2 := (bcell hb2).2
    have hz2 := hb2.size
    (try simp at hz2)
    have hy2 : w.heap.size + 1 + 1 < w2.heap.size := (by omega)
    have hy2_0 : w.heap.size < w2.heap.size := (by omega)
    have hy2_1 : w.heap.size + 1 < w2.heap.size := (by omega)
    have q2_0_0 : w2.cell? ⟨w.heap.size, 0, none⟩ = some (.int .i64 k) := cell_later hb2 (by go_simp)
    have q2_0_1 : w2.cell? ⟨w.heap.size, 1, none⟩ = some (.int .i64 n) := cell_later hb2 (by go_simp)
    have q2_0_2 : w2.cell? ⟨w.heap.size, 2, none⟩ = some (.string s) := cell_later hb2 (by go_simp)
    have q2_1_0 : w2.cell? ⟨w.heap.size + 1, 0, none⟩ = some (.int .i64 k') := cell_later hb2 (by go_simp)
    have q2_1_1 : w2.cell? ⟨w.heap.size + 1, 1, none⟩ = some (.int .i64 n') := cell_later hb2 (by go_simp)
    have q2_1_2 : w2.cell? ⟨w.heap.size + 1, 2, none⟩ = some (.string s') := cell_later hb2 (by go_simp)
    have q2_2_0 : w2.cell? ⟨w.heap.size + 1 + 1, 0, none⟩ = some (.int .i64 0) := cell_later hb2 (by go_simp)
    have q2_2_1 : w2.cell? ⟨w.heap.size + 1 + 1, 1, none⟩ = some (.int .i64 0) := cell_later hb2 (by go_simp)
    have q2_2_2 : w2.cell? ⟨w.heap.size + 1 + 1, 2, none⟩ = some (.string ⟨#[]⟩) := cell_later hb2 (by go_simp)
    go_wp2_with fail
    refine bodyPost_ret (v := (.agg #[.int .i64 2, .int .i64 0, .string ⟨#[]⟩])) (by simp [results, Try.results24, go_sem, *]) rfl ⟨?_, ?_⟩
    · rfl
    · repeat (first | exact Below.refl _ _ | refine Below.drew ?_ | refine Below.alloc ?_ (by first | (simp; done) | (simp; omega) | omega) _ | refine Below.setCell ?_ (by first | (simp; done) | (simp; omega) | omega) _ | refine bstep (by assumption) (by first | (simp; done) | (simp; omega) | omega) ?_)
  cases p1
  case false =>
    go_enter Try.func24, Try.ntmps24
    go_wp2_with fail
    refine (l01Bool_false _).mono ?_
    rintro e w1 ⟨rfl, hb1⟩
    have hf1 := (bcell hb1).2
    have hz1 := hb1.size
    (try simp at hz1)
    have hy1 : w.heap.size + 1 + 1 < w1.heap.size := (by omega)
    have hy1_0 : w.heap.size < w1.heap.size := (by omega)
    have hy1_1 : w.heap.size + 1 < w1.heap.size := (by omega)
    have q1_0_0 : w1.cell? ⟨w.heap.size, 0, none⟩ = some (.int .i64 k) := cell_later hb1 (by go_simp)
    have q1_0_1 : w1.cell? ⟨w.heap.size, 1, none⟩ = some (.int .i64 n) := cell_later hb1 (by go_simp)
    have q1_0_2 : w1.cell? ⟨w.heap.size, 2, none⟩ = some (.string s) := cell_later hb1 (by go_simp)
    have q1_1_0 : w1.cell? ⟨w.heap.size + 1, 0, none⟩ = some (.int .i64 k') := cell_later hb1 (by go_simp)
    have q1_1_1 : w1.cell? ⟨w.heap.size + 1, 1, none⟩ = some (.int .i64 n') := cell_later hb1 (by go_simp)
    have q1_1_2 : w1.cell? ⟨w.heap.size + 1, 2, none⟩ = some (.string s') := cell_later hb1 (by go_simp)
    have q1_2_0 : w1.cell? ⟨w.heap.size + 1 + 1, 0, none⟩ = some (.int .i64 0) := cell_later hb1 (by go_simp)
    have q1_2_1 : w1.cell? ⟨w.heap.size + 1 + 1, 1, none⟩ = some (.int .i64 0) := cell_later hb1 (by go_simp)
    have q1_2_2 : w1.cell? ⟨w.heap.size + 1 + 1, 2, none⟩ = some (.string ⟨#[]⟩) := cell_later hb1 (by go_simp)
    go_wp2_with fail
    refine (l01Bool_true _).mono ?_
    rintro e w2 ⟨rfl, hb2⟩
    have hf2 := (bcell hb2).2
    have hz2 := hb2.size
    (try simp at hz2)
    have hy2 : w.heap.size + 1 + 1 < w2.heap.size := (by omega)
    have hy2_0 : w.heap.size < w2.heap.size := (by omega)
    have hy2_1 : w.heap.size + 1 < w2.heap.size := (by omega)
    have q2_0_0 : w2.cell? ⟨w.heap.size, 0, none⟩ = some (.int .i64 k) := cell_later hb2 (by go_simp)
    have q2_0_1 : w2.cell? ⟨w.heap.size, 1, none⟩ = some (.int .i64 n) := cell_later hb2 (by go_simp)
    have q2_0_2 : w2.cell? ⟨w.heap.size, 2, none⟩ = some (.string s) := cell_later hb2 (by go_simp)
    have q2_1_0 : w2.cell? ⟨w.heap.size + 1, 0, none⟩ = some (.int .i64 k') := cell_later hb2 (by go_simp)
    have q2_1_1 : w2.cell? ⟨w.heap.size + 1, 1, none⟩ = some (.int .i64 n') := cell_later hb2 (by go_simp)
    have q2_1_2 : w2.cell? ⟨w.heap.size + 1, 2, none⟩ = some (.string s') := cell_later hb2 (by go_simp)
    have q2_2_0 : w2.cell? ⟨w.heap.size + 1 + 1, 0, none⟩ = some (.int .i64 0) := cell_later hb2 (by go_simp)
    have q2_2_1 : w2.cell? ⟨w.heap.size + 1 + 1, 1, none⟩ = some (.int .i64 0) := cell_later hb2 (by go_simp)
    have q2_2_2 : w2.cell? ⟨w.heap.size + 1 + 1, 2, none⟩ = some (.string ⟨#[]⟩) := cell_later hb2 (by go_simp)
    go_wp2_with fail
    refine bodyPost_ret (v := (.agg #[.int .i64 0, .int .i64 0, .string ⟨#[]⟩])) (by simp [results, Try.results24, go_sem, *]) rfl ⟨?_, ?_⟩
    · rfl
    · repeat (first | exact Below.refl _ _ | refine Below.drew ?_ | refine Below.alloc ?_ (by first | (simp; done) | (simp; omega) | omega) _ | refine Below.setCell ?_ (by first | (simp; done) | (simp; omega) | omega) _ | refine bstep (by assumption) (by first | (simp; done) | (simp; omega) | omega) ?_)
  cases q1
  case false =>
    go_enter Try.func24, Try.ntmps24
    go_wp2_with fail
    refine (l01Bool_false _).mono ?_
    rintro e w1 ⟨rfl, hb1⟩
    have hf1 := (bcell hb1).2
    have hz1 := hb1.size
    (try simp at hz1)
    have hy1 : w.heap.size + 1 + 1 < w1.heap.size := (by omega)
    have hy1_0 : w.heap.size < w1.heap.size := (by omega)
    have hy1_1 : w.heap.size + 1 < w1.heap.size := (by omega)
    have q1_0_0 : w1.cell? ⟨w.heap.size, 0, none⟩ = some (.int .i64 k) := cell_later hb1 (by go_simp)
    have q1_0_1 : w1.cell? ⟨w.heap.size, 1, none⟩ = some (.int .i64 n) := cell_later hb1 (by go_simp)
    have q1_0_2 : w1.cell? ⟨w.heap.size, 2, none⟩ = some (.string s) := cell_later hb1 (by go_simp)
    have q1_1_0 : w1.cell? ⟨w.heap.size + 1, 0, none⟩ = some (.int .i64 k') := cell_later hb1 (by go_simp)
    have q1_1_1 : w1.cell? ⟨w.heap.size + 1, 1, none⟩ = some (.int .i64 n') := cell_later hb1 (by go_simp)
    have q1_1_2 : w1.cell? ⟨w.heap.size + 1, 2, none⟩ = some (.string s') := cell_later hb1 (by go_simp)
    have q1_2_0 : w1.cell? ⟨w.heap.size + 1 + 1, 0, none⟩ = some (.int .i64 0) := cell_later hb1 (by go_simp)
    have q1_2_1 : w1.cell? ⟨w.heap.size + 1 + 1, 1, none⟩ = some (.int .i64 0) := cell_later hb1 (by go_simp)
    have q1_2_2 : w1.cell? ⟨w.heap.size + 1 + 1, 2, none⟩ = some (.string ⟨#[]⟩) := cell_later hb1 (by go_simp)
    go_wp2_with fail
    refine (l01Bool_true _).mono ?_
    rintro e w2 ⟨rfl, hb2⟩
    have hf2 := (bcell hb2).2
    have hz2 := hb2.size
    (try simp at hz2)
    have hy2 : w.heap.size + 1 + 1 < w2.heap.size := (by omega)
    have hy2_0 : w.heap.size < w2.heap.size := (by omega)
    have hy2_1 : w.heap.size + 1 < w2.heap.size := (by omega)
    have q2_0_0 : w2.cell? ⟨w.heap.size, 0, none⟩ = some (.int .i64 k) := cell_later hb2 (by go_simp)
    have q2_0_1 : w2.cell? ⟨w.heap.size, 1, none⟩ = some (.int .i64 n) := cell_later hb2 (by go_simp)
    have q2_0_2 : w2.cell? ⟨w.heap.size, 2, none⟩ = some (.string s) := cell_later hb2 (by go_simp)
    have q2_1_0 : w2.cell? ⟨w.heap.size + 1, 0, none⟩ = some (.int .i64 k') := cell_later hb2 (by go_simp)
    have q2_1_1 : w2.cell? ⟨w.heap.size + 1, 1, none⟩ = some (.int .i64 n') := cell_later hb2 (by go_simp)
    have q2_1_2 : w2.cell? ⟨w.heap.size + 1, 2, none⟩ = some (.string s') := cell_later hb2 (by go_simp)
    have q2_2_0 : w2.cell? ⟨w.heap.size + 1 + 1, 0, none⟩ = some (.int .i64 0) := cell_later hb2 (by go_simp)
    have q2_2_1 : w2.cell? ⟨w.heap.size + 1 + 1, 1, none⟩ = some (.int .i64 0) := cell_later hb2 (by go_simp)
    have q2_2_2 : w2.cell? ⟨w.heap.size + 1 + 1, 2, none⟩ = some (.string ⟨#[]⟩) := cell_later hb2 (by go_simp)
    go_wp2_with fail
    refine bodyPost_ret (v := (.agg #[.int .i64 0, .int .i64 0, .string ⟨#[]⟩])) (by simp [results, Try.results24, go_sem, *]) rfl ⟨?_, ?_⟩
    · rfl
    · repeat (first | exact Below.refl _ _ | refine Below.drew ?_ | refine Below.alloc ?_ (by first | (simp; done) | (simp; omega) | omega) _ | refine Below.setCell ?_ (by first | (simp; done) | (simp; omega) | omega) _ | refine bstep (by assumption) (by first | (simp; done) | (simp; omega) | omega) ?_)
  case true =>
    go_enter Try.func24, Try.ntmps24
    go_wp2_with fail
    refine (l01Bool_false _).mono ?_
    rintro e w1 ⟨rfl, hb1⟩
    have hf1 := (bcell hb1).2
    have hz1 := hb1.size
    (try simp at hz1)
    have hy1 : w.heap.size + 1 + 1 < w1.heap.size := (by omega)
    have hy1_0 : w.heap.size < w1.heap.size := (by omega)
    have hy1_1 : w.heap.size + 1 < w1.heap.size := (by omega)
    have q1_0_0 : w1.cell? ⟨w.heap.size, 0, none⟩ = some (.int .i64 k) := cell_later hb1 (by go_simp)
    have q1_0_1 : w1.cell? ⟨w.heap.size, 1, none⟩ = some (.int .i64 n) := cell_later hb1 (by go_simp)
    have q1_0_2 : w1.cell? ⟨w.heap.size, 2, none⟩ = some (.string s) := cell_later hb1 (by go_simp)
    have q1_1_0 : w1.cell? ⟨w.heap.size + 1, 0, none⟩ = some (.int .i64 k') := cell_later hb1 (by go_simp)
    have q1_1_1 : w1.cell? ⟨w.heap.size + 1, 1, none⟩ = some (.int .i64 n') := cell_later hb1 (by go_simp)
    have q1_1_2 : w1.cell? ⟨w.heap.size + 1, 2, none⟩ = some (.string s') := cell_later hb1 (by go_simp)
    have q1_2_0 : w1.cell? ⟨w.heap.size + 1 + 1, 0, none⟩ = some (.int .i64 0) := cell_later hb1 (by go_simp)
    have q1_2_1 : w1.cell? ⟨w.heap.size + 1 + 1, 1, none⟩ = some (.int .i64 0) := cell_later hb1 (by go_simp)
    have q1_2_2 : w1.cell? ⟨w.heap.size + 1 + 1, 2, none⟩ = some (.string ⟨#[]⟩) := cell_later hb1 (by go_simp)
    go_wp2_with fail
    refine (l01Bool_true _).mono ?_
    rintro e w2 ⟨rfl, hb2⟩
    have hf2 := (bcell hb2).2
    have hz2 := hb2.size
    (try simp at hz2)
    have hy2 : w.heap.size + 1 + 1 < w2.heap.size := (by omega)
    have hy2_0 : w.heap.size < w2.heap.size := (by omega)
    have hy2_1 : w.heap.size + 1 < w2.heap.size := (by omega)
    have q2_0_0 : w2.cell? ⟨w.heap.size, 0, none⟩ = some (.int .i64 k) := cell_later hb2 (by go_simp)
    have q2_0_1 : w2.cell? ⟨w.heap.size, 1, none⟩ = some (.int .i64 n) := cell_later hb2 (by go_simp)
    have q2_0_2 : w2.cell? ⟨w.heap.size, 2, none⟩ = some (.string s) := cell_later hb2 (by go_simp)
    have q2_1_0 : w2.cell? ⟨w.heap.size + 1, 0, none⟩ = some (.int .i64 k') := cell_later hb2 (by go_simp)
    have q2_1_1 : w2.cell? ⟨w.heap.size + 1, 1, none⟩ = some (.int .i64 n') := cell_later hb2 (by go_simp)
    have q2_1_2 : w2.cell? ⟨w.heap.size + 1, 2, none⟩ = some (.string s') := cell_later hb2 (by go_simp)
    have q2_2_0 : w2.cell? ⟨w.heap.size + 1 + 1, 0, none⟩ = some (.int .i64 0) := cell_later hb2 (by go_simp)
    have q2_2_1 : w2.cell? ⟨w.heap.size + 1 + 1, 1, none⟩ = some (.int .i64 0) := cell_later hb2 (by go_simp)
    have q2_2_2 : w2.cell? ⟨w.heap.size + 1 + 1, 2, none⟩ = some (.string ⟨#[]⟩) := cell_later hb2 (by go_simp)
    go_wp2_with fail
    refine bodyPost_ret (v := (.agg #[.int .i64 2, .int .i64 1, .string ⟨#[]⟩])) (by simp [results, Try.results24, go_sem, *]) rfl ⟨?_, ?_⟩
    · rfl
    · repeat (first | exact Below.refl _ _ | refine Below.drew ?_ | refine Below.alloc ?_ (by first | (simp; done) | (simp; omega) | omega) _ | refine Below.setCell ?_ (by first | (simp; done) | (simp; omega) | omega) _ | refine bstep (by assumption) (by first | (simp; done) | (simp; omega) | omega) ?_)
set_option maxHeartbeats 2000000 in
set_option maxRecDepth 100000 in
theorem logic_1 (op : ByteArray) (k n k' n' : Int) (s s' : ByteArray) (w : World) (hop : op.toList = [111, 114]) :
    Calls Try.prog 24 #[.string op, (.agg #[.int .i64 k, .int .i64 n, .string s]), (.agg #[.int .i64 k', .int .i64 n', .string s'])] w fun e w' => e = .returned (.agg #[.int .i64 (chK (is2 k n s 1) (is2 k' n' s' 1) (is2 k n s 0) (is2 k' n' s' 0)), .int .i64 (chN 1 (is2 k n s 1) (is2 k' n' s' 1) (is2 k n s 0) (is2 k' n' s' 0)), .string ⟨#[]⟩]) ∧ Below w.heap.size w w' := by
  have hp0 := eqV2 k n s 1
  have hq0 := eqV2 k' n' s' 1
  have hp1 := eqV2 k n s 0
  have hq1 := eqV2 k' n' s' 0
  generalize is2 k n s 1 = p0 at *
  generalize is2 k' n' s' 1 = q0 at *
  generalize is2 k n s 0 = p1 at *
  generalize is2 k' n' s' 0 = q1 at *
  cases p0
  case true =>
    go_enter Try.func24, Try.ntmps24
    go_wp2_with fail
    refine (l01Bool_true _).mono ?_
    rintro e w1 ⟨rfl, hb1⟩
    have hf1 := (bcell hb1).2
    have hz1 := hb1.size
    (try simp at hz1)
    have hy1 : w.heap.size + 1 + 1 < w1.heap.size := (by omega)
    have hy1_0 : w.heap.size < w1.heap.size := (by omega)
    have hy1_1 : w.heap.size + 1 < w1.heap.size := (by omega)
    have q1_0_0 : w1.cell? ⟨w.heap.size, 0, none⟩ = some (.int .i64 k) := cell_later hb1 (by go_simp)
    have q1_0_1 : w1.cell? ⟨w.heap.size, 1, none⟩ = some (.int .i64 n) := cell_later hb1 (by go_simp)
    have q1_0_2 : w1.cell? ⟨w.heap.size, 2, none⟩ = some (.string s) := cell_later hb1 (by go_simp)
    have q1_1_0 : w1.cell? ⟨w.heap.size + 1, 0, none⟩ = some (.int .i64 k') := cell_later hb1 (by go_simp)
    have q1_1_1 : w1.cell? ⟨w.heap.size + 1, 1, none⟩ = some (.int .i64 n') := cell_later hb1 (by go_simp)
    have q1_1_2 : w1.cell? ⟨w.heap.size + 1, 2, none⟩ = some (.string s') := cell_later hb1 (by go_simp)
    have q1_2_0 : w1.cell? ⟨w.heap.size + 1 + 1, 0, none⟩ = some (.int .i64 0) := cell_later hb1 (by go_simp)
    have q1_2_1 : w1.cell? ⟨w.heap.size + 1 + 1, 1, none⟩ = some (.int .i64 0) := cell_later hb1 (by go_simp)
    have q1_2_2 : w1.cell? ⟨w.heap.size + 1 + 1, 2, none⟩ = some (.string ⟨#[]⟩) := cell_later hb1 (by go_simp)
    go_wp2_with fail
    refine (l01Bool_false _).mono ?_
    rintro e w2 ⟨rfl, hb2⟩
    have hf2 := (bcell hb2).2
    have hz2 := hb2.size
    (try simp at hz2)
    have hy2 : w.heap.size + 1 + 1 < w2.heap.size := (by omega)
    have hy2_0 : w.heap.size < w2.heap.size := (by omega)
    have hy2_1 : w.heap.size + 1 < w2.heap.size := (by omega)
    have q2_0_0 : w2.cell? ⟨w.heap.size, 0, none⟩ = some (.int .i64 k) := cell_later hb2 (by go_simp)
    have q2_0_1 : w2.cell? ⟨w.heap.size, 1, none⟩ = some (.int .i64 n) := cell_later hb2 (by go_simp)
    have q2_0_2 : w2.cell? ⟨w.heap.size, 2, none⟩ = some (.string s) := cell_later hb2 (by go_simp)
    have q2_1_0 : w2.cell? ⟨w.heap.size + 1, 0, none⟩ = some (.int .i64 k') := cell_later hb2 (by go_simp)
    have q2_1_1 : w2.cell? ⟨w.heap.size + 1, 1, none⟩ = some (.int .i64 n') := cell_later hb2 (by go_simp)
    have q2_1_2 : w2.cell? ⟨w.heap.size + 1, 2, none⟩ = some (.string s') := cell_later hb2 (by go_simp)
    have q2_2_0 : w2.cell? ⟨w.heap.size + 1 + 1, 0, none⟩ = some (.int .i64 0) := cell_later hb2 (by go_simp)
    have q2_2_1 : w2.cell? ⟨w.heap.size + 1 + 1, 1, none⟩ = some (.int .i64 0) := cell_later hb2 (by go_simp)
    have q2_2_2 : w2.cell? ⟨w.heap.size + 1 + 1, 2, none⟩ = some (.string ⟨#[]⟩) := cell_later hb2 (by go_simp)
    go_wp2_with fail
    refine bodyPost_ret (v := (.agg #[.int .i64 2, .int .i64 1, .string ⟨#[]⟩])) (by simp [results, Try.results24, go_sem, *]) rfl ⟨?_, ?_⟩
    · rfl
    · repeat (first | exact Below.refl _ _ | refine Below.drew ?_ | refine Below.alloc ?_ (by first | (simp; done) | (simp; omega) | omega) _ | refine Below.setCell ?_ (by first | (simp; done) | (simp; omega) | omega) _ | refine bstep (by assumption) (by first | (simp; done) | (simp; omega) | omega) ?_)
  cases q0
  case true =>
    go_enter Try.func24, Try.ntmps24
    go_wp2_with fail
    refine (l01Bool_true _).mono ?_
    rintro e w1 ⟨rfl, hb1⟩
    have hf1 := (bcell hb1).2
    have hz1 := hb1.size
    (try simp at hz1)
    have hy1 : w.heap.size + 1 + 1 < w1.heap.size := (by omega)
    have hy1_0 : w.heap.size < w1.heap.size := (by omega)
    have hy1_1 : w.heap.size + 1 < w1.heap.size := (by omega)
    have q1_0_0 : w1.cell? ⟨w.heap.size, 0, none⟩ = some (.int .i64 k) := cell_later hb1 (by go_simp)
    have q1_0_1 : w1.cell? ⟨w.heap.size, 1, none⟩ = some (.int .i64 n) := cell_later hb1 (by go_simp)
    have q1_0_2 : w1.cell? ⟨w.heap.size, 2, none⟩ = some (.string s) := cell_later hb1 (by go_simp)
    have q1_1_0 : w1.cell? ⟨w.heap.size + 1, 0, none⟩ = some (.int .i64 k') := cell_later hb1 (by go_simp)
    have q1_1_1 : w1.cell? ⟨w.heap.size + 1, 1, none⟩ = some (.int .i64 n') := cell_later hb1 (by go_simp)
    have q1_1_2 : w1.cell? ⟨w.heap.size + 1, 2, none⟩ = some (.string s') := cell_later hb1 (by go_simp)
    have q1_2_0 : w1.cell? ⟨w.heap.size + 1 + 1, 0, none⟩ = some (.int .i64 0) := cell_later hb1 (by go_simp)
    have q1_2_1 : w1.cell? ⟨w.heap.size + 1 + 1, 1, none⟩ = some (.int .i64 0) := cell_later hb1 (by go_simp)
    have q1_2_2 : w1.cell? ⟨w.heap.size + 1 + 1, 2, none⟩ = some (.string ⟨#[]⟩) := cell_later hb1 (by go_simp)
    go_wp2_with fail
    refine (l01Bool_false _).mono ?_
    rintro e w2 ⟨rfl, hb2⟩
    have hf2 := (bcell hb2).2
    have hz2 := hb2.size
    (try simp at hz2)
    have hy2 : w.heap.size + 1 + 1 < w2.heap.size := (by omega)
    have hy2_0 : w.heap.size < w2.heap.size := (by omega)
    have hy2_1 : w.heap.size + 1 < w2.heap.size := (by omega)
    have q2_0_0 : w2.cell? ⟨w.heap.size, 0, none⟩ = some (.int .i64 k) := cell_later hb2 (by go_simp)
    have q2_0_1 : w2.cell? ⟨w.heap.size, 1, none⟩ = some (.int .i64 n) := cell_later hb2 (by go_simp)
    have q2_0_2 : w2.cell? ⟨w.heap.size, 2, none⟩ = some (.string s) := cell_later hb2 (by go_simp)
    have q2_1_0 : w2.cell? ⟨w.heap.size + 1, 0, none⟩ = some (.int .i64 k') := cell_later hb2 (by go_simp)
    have q2_1_1 : w2.cell? ⟨w.heap.size + 1, 1, none⟩ = some (.int .i64 n') := cell_later hb2 (by go_simp)
    have q2_1_2 : w2.cell? ⟨w.heap.size + 1, 2, none⟩ = some (.string s') := cell_later hb2 (by go_simp)
    have q2_2_0 : w2.cell? ⟨w.heap.size + 1 + 1, 0, none⟩ = some (.int .i64 0) := cell_later hb2 (by go_simp)
    have q2_2_1 : w2.cell? ⟨w.heap.size + 1 + 1, 1, none⟩ = some (.int .i64 0) := cell_later hb2 (by go_simp)
    have q2_2_2 : w2.cell? ⟨w.heap.size + 1 + 1, 2, none⟩ = some (.string ⟨#[]⟩) := cell_later hb2 (by go_simp)
    go_wp2_with fail
    refine bodyPost_ret (v := (.agg #[.int .i64 2, .int .i64 1, .string ⟨#[]⟩])) (by simp [results, Try.results24, go_sem, *]) rfl ⟨?_, ?_⟩
    · rfl
    · repeat (first | exact Below.refl _ _ | refine Below.drew ?_ | refine Below.alloc ?_ (by first | (simp; done) | (simp; omega) | omega) _ | refine Below.setCell ?_ (by first | (simp; done) | (simp; omega) | omega) _ | refine bstep (by assumption) (by first | (simp; done) | (simp; omega) | omega) ?_)
  cases p1
  case false =>
    go_enter Try.func24, Try.ntmps24
    go_wp2_with fail
    refine (l01Bool_true _).mono ?_
    rintro e w1 ⟨rfl, hb1⟩
    have hf1 := (bcell hb1).2
    have hz1 := hb1.size
    (try simp at hz1)
    have hy1 : w.heap.size + 1 + 1 < w1.heap.size := (by omega)
    have hy1_0 : w.heap.size < w1.heap.size := (by omega)
    have hy1_1 : w.heap.size + 1 < w1.heap.size := (by omega)
    have q1_0_0 : w1.cell? ⟨w.heap.size, 0, none⟩ = some (.int .i64 k) := cell_later hb1 (by go_simp)
    have q1_0_1 : w1.cell? ⟨w.heap.size, 1, none⟩ = some (.int .i64 n) := cell_later hb1 (by go_simp)
    have q1_0_2 : w1.cell? ⟨w.heap.size, 2, none⟩ = some (.string s) := cell_later hb1 (by go_simp)
    have q1_1_0 : w1.cell? ⟨w.heap.size + 1, 0, none⟩ = some (.int .i64 k') := cell_later hb1 (by go_simp)
    have q1_1_1 : w1.cell? ⟨w.heap.size + 1, 1, none⟩ = some (.int .i64 n') := cell_later hb1 (by go_simp)
    have q1_1_2 : w1.cell? ⟨w.heap.size + 1, 2, none⟩ = some (.string s') := cell_later hb1 (by go_simp)
    have q1_2_0 : w1.cell? ⟨w.heap.size + 1 + 1, 0, none⟩ = some (.int .i64 0) := cell_later hb1 (by go_simp)
    have q1_2_1 : w1.cell? ⟨w.heap.size + 1 + 1, 1, none⟩ = some (.int .i64 0) := cell_later hb1 (by go_simp)
    have q1_2_2 : w1.cell? ⟨w.heap.size + 1 + 1, 2, none⟩ = some (.string ⟨#[]⟩) := cell_later hb1 (by go_simp)
    go_wp2_with fail
    refine (l01Bool_false _).mono ?_
    rintro e w2 ⟨rfl, hb2⟩
    have hf2 := (bcell hb2).2
    have hz2 := hb2.size
    (try simp at hz2)
    have hy2 : w.heap.size + 1 + 1 < w2.heap.size := (by omega)
    have hy2_0 : w.heap.size < w2.heap.size := (by omega)
    have hy2_1 : w.heap.size + 1 < w2.heap.size := (by omega)
    have q2_0_0 : w2.cell? ⟨w.heap.size, 0, none⟩ = some (.int .i64 k) := cell_later hb2 (by go_simp)
    have q2_0_1 : w2.cell? ⟨w.heap.size, 1, none⟩ = some (.int .i64 n) := cell_later hb2 (by go_simp)
    have q2_0_2 : w2.cell? ⟨w.heap.size, 2, none⟩ = some (.string s) := cell_later hb2 (by go_simp)
    have q2_1_0 : w2.cell? ⟨w.heap.size + 1, 0, none⟩ = some (.int .i64 k') := cell_later hb2 (by go_simp)
    have q2_1_1 : w2.cell? ⟨w.heap.size + 1, 1, none⟩ = some (.int .i64 n') := cell_later hb2 (by go_simp)
    have q2_1_2 : w2.cell? ⟨w.heap.size + 1, 2, none⟩ = some (.string s') := cell_later hb2 (by go_simp)
    have q2_2_0 : w2.cell? ⟨w.heap.size + 1 + 1, 0, none⟩ = some (.int .i64 0) := cell_later hb2 (by go_simp)
    have q2_2_1 : w2.cell? ⟨w.heap.size + 1 + 1, 1, none⟩ = some (.int .i64 0) := cell_later hb2 (by go_simp)
    have q2_2_2 : w2.cell? ⟨w.heap.size + 1 + 1, 2, none⟩ = some (.string ⟨#[]⟩) := cell_later hb2 (by go_simp)
    go_wp2_with fail
    refine bodyPost_ret (v := (.agg #[.int .i64 0, .int .i64 0, .string ⟨#[]⟩])) (by simp [results, Try.results24, go_sem, *]) rfl ⟨?_, ?_⟩
    · rfl
    · repeat (first | exact Below.refl _ _ | refine Below.drew ?_ | refine Below.alloc ?_ (by first | (simp; done) | (simp; omega) | omega) _ | refine Below.setCell ?_ (by first | (simp; done) | (simp; omega) | omega) _ | refine bstep (by assumption) (by first | (simp; done) | (simp; omega) | omega) ?_)
  cases q1
  case false =>
    go_enter Try.func24, Try.ntmps24
    go_wp2_with fail
    refine (l01Bool_true _).mono ?_
    rintro e w1 ⟨rfl, hb1⟩
    have hf1 := (bcell hb1).2
    have hz1 := hb1.size
    (try simp at hz1)
    have hy1 : w.heap.size + 1 + 1 < w1.heap.size := (by omega)
    have hy1_0 : w.heap.size < w1.heap.size := (by omega)
    have hy1_1 : w.heap.size + 1 < w1.heap.size := (by omega)
    have q1_0_0 : w1.cell? ⟨w.heap.size, 0, none⟩ = some (.int .i64 k) := cell_later hb1 (by go_simp)
    have q1_0_1 : w1.cell? ⟨w.heap.size, 1, none⟩ = some (.int .i64 n) := cell_later hb1 (by go_simp)
    have q1_0_2 : w1.cell? ⟨w.heap.size, 2, none⟩ = some (.string s) := cell_later hb1 (by go_simp)
    have q1_1_0 : w1.cell? ⟨w.heap.size + 1, 0, none⟩ = some (.int .i64 k') := cell_later hb1 (by go_simp)
    have q1_1_1 : w1.cell? ⟨w.heap.size + 1, 1, none⟩ = some (.int .i64 n') := cell_later hb1 (by go_simp)
    have q1_1_2 : w1.cell? ⟨w.heap.size + 1, 2, none⟩ = some (.string s') := cell_later hb1 (by go_simp)
    have q1_2_0 : w1.cell? ⟨w.heap.size + 1 + 1, 0, none⟩ = some (.int .i64 0) := cell_later hb1 (by go_simp)
    have q1_2_1 : w1.cell? ⟨w.heap.size + 1 + 1, 1, none⟩ = some (.int .i64 0) := cell_later hb1 (by go_simp)
    have q1_2_2 : w1.cell? ⟨w.heap.size + 1 + 1, 2, none⟩ = some (.string ⟨#[]⟩) := cell_later hb1 (by go_simp)
    go_wp2_with fail
    refine (l01Bool_false _).mono ?_
    rintro e w2 ⟨rfl, hb2⟩
    have hf2 := (bcell hb2).2
    have hz2 := hb2.size
    (try simp at hz2)
    have hy2 : w.heap.size + 1 + 1 < w2.heap.size := (by omega)
    have hy2_0 : w.heap.size < w2.heap.size := (by omega)
    have hy2_1 : w.heap.size + 1 < w2.heap.size := (by omega)
    have q2_0_0 : w2.cell? ⟨w.heap.size, 0, none⟩ = some (.int .i64 k) := cell_later hb2 (by go_simp)
    have q2_0_1 : w2.cell? ⟨w.heap.size, 1, none⟩ = some (.int .i64 n) := cell_later hb2 (by go_simp)
    have q2_0_2 : w2.cell? ⟨w.heap.size, 2, none⟩ = some (.string s) := cell_later hb2 (by go_simp)
    have q2_1_0 : w2.cell? ⟨w.heap.size + 1, 0, none⟩ = some (.int .i64 k') := cell_later hb2 (by go_simp)
    have q2_1_1 : w2.cell? ⟨w.heap.size + 1, 1, none⟩ = some (.int .i64 n') := cell_later hb2 (by go_simp)
    have q2_1_2 : w2.cell? ⟨w.heap.size + 1, 2, none⟩ = some (.string s') := cell_later hb2 (by go_simp)
    have q2_2_0 : w2.cell? ⟨w.heap.size + 1 + 1, 0, none⟩ = some (.int .i64 0) := cell_later hb2 (by go_simp)
    have q2_2_1 : w2.cell? ⟨w.heap.size + 1 + 1, 1, none⟩ = some (.int .i64 0) := cell_later hb2 (by go_simp)
    have q2_2_2 : w2.cell? ⟨w.heap.size + 1 + 1, 2, none⟩ = some (.string ⟨#[]⟩) := cell_later hb2 (by go_simp)
    go_wp2_with fail
    refine bodyPost_ret (v := (.agg #[.int .i64 0, .int .i64 0, .string ⟨#[]⟩])) (by simp [results, Try.results24, go_sem, *]) rfl ⟨?_, ?_⟩
    · rfl
    · repeat (first | exact Below.refl _ _ | refine Below.drew ?_ | refine Below.alloc ?_ (by first | (simp; done) | (simp; omega) | omega) _ | refine Below.setCell ?_ (by first | (simp; done) | (simp; omega) | omega) _ | refine bstep (by assumption) (by first | (simp; done) | (simp; omega) | omega) ?_)
  case true =>
    go_enter Try.func24, Try.ntmps24
    go_wp2_with fail
    refine (l01Bool_true _).mono ?_
    rintro e w1 ⟨rfl, hb1⟩
    have hf1 := (bcell hb1).2
    have hz1 := hb1.size
    (try simp at hz1)
    have hy1 : w.heap.size + 1 + 1 < w1.heap.size := (by omega)
    have hy1_0 : w.heap.size < w1.heap.size := (by omega)
    have hy1_1 : w.heap.size + 1 < w1.heap.size := (by omega)
    have q1_0_0 : w1.cell? ⟨w.heap.size, 0, none⟩ = some (.int .i64 k) := cell_later hb1 (by go_simp)
    have q1_0_1 : w1.cell? ⟨w.heap.size, 1, none⟩ = some (.int .i64 n) := cell_later hb1 (by go_simp)
    have q1_0_2 : w1.cell? ⟨w.heap.size, 2, none⟩ = some (.string s) := cell_later hb1 (by go_simp)
    have q1_1_0 : w1.cell? ⟨w.heap.size + 1, 0, none⟩ = some (.int .i64 k') := cell_later hb1 (by go_simp)
    have q1_1_1 : w1.cell? ⟨w.heap.size + 1, 1, none⟩ = some (.int .i64 n') := cell_later hb1 (by go_simp)
    have q1_1_2 : w1.cell? ⟨w.heap.size + 1, 2, none⟩ = some (.string s') := cell_later hb1 (by go_simp)
    have q1_2_0 : w1.cell? ⟨w.heap.size + 1 + 1, 0, none⟩ = some (.int .i64 0) := cell_later hb1 (by go_simp)
    have q1_2_1 : w1.cell? ⟨w.heap.size + 1 + 1, 1, none⟩ = some (.int .i64 0) := cell_later hb1 (by go_simp)
    have q1_2_2 : w1.cell? ⟨w.heap.size + 1 + 1, 2, none⟩ = some (.string ⟨#[]⟩) := cell_later hb1 (by go_simp)
    go_wp2_with fail
    refine (l01Bool_false _).mono ?_
    rintro e w2 ⟨rfl, hb2⟩
    have hf2 := (bcell hb2).2
    have hz2 := hb2.size
    (try simp at hz2)
    have hy2 : w.heap.size + 1 + 1 < w2.heap.size := (by omega)
    have hy2_0 : w.heap.size < w2.heap.size := (by omega)
    have hy2_1 : w.heap.size + 1 < w2.heap.size := (by omega)
    have q2_0_0 : w2.cell? ⟨w.heap.size, 0, none⟩ = some (.int .i64 k) := cell_later hb2 (by go_simp)
    have q2_0_1 : w2.cell? ⟨w.heap.size, 1, none⟩ = some (.int .i64 n) := cell_later hb2 (by go_simp)
    have q2_0_2 : w2.cell? ⟨w.heap.size, 2, none⟩ = some (.string s) := cell_later hb2 (by go_simp)
    have q2_1_0 : w2.cell? ⟨w.heap.size + 1, 0, none⟩ = some (.int .i64 k') := cell_later hb2 (by go_simp)
    have q2_1_1 : w2.cell? ⟨w.heap.size + 1, 1, none⟩ = some (.int .i64 n') := cell_later hb2 (by go_simp)
    have q2_1_2 : w2.cell? ⟨w.heap.size + 1, 2, none⟩ = some (.string s') := cell_later hb2 (by go_simp)
    have q2_2_0 : w2.cell? ⟨w.heap.size + 1 + 1, 0, none⟩ = some (.int .i64 0) := cell_later hb2 (by go_simp)
    have q2_2_1 : w2.cell? ⟨w.heap.size + 1 + 1, 1, none⟩ = some (.int .i64 0) := cell_later hb2 (by go_simp)
    have q2_2_2 : w2.cell? ⟨w.heap.size + 1 + 1, 2, none⟩ = some (.string ⟨#[]⟩) := cell_later hb2 (by go_simp)
    go_wp2_with fail
    refine bodyPost_ret (v := (.agg #[.int .i64 2, .int .i64 0, .string ⟨#[]⟩])) (by simp [results, Try.results24, go_sem, *]) rfl ⟨?_, ?_⟩
    · rfl
    · repeat (first | exact Below.refl _ _ | refine Below.drew ?_ | refine Below.alloc ?_ (by first | (simp; done) | (simp; omega) | omega) _ | refine Below.setCell ?_ (by first | (simp; done) | (simp; omega) | omega) _ | refine bstep (by assumption) (by first | (simp; done) | (simp; omega) | omega) ?_)
end Go.Proofs.Ytlakhcmbalcclaa
