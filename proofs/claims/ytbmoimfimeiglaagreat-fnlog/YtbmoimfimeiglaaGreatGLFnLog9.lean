/- Own texts, joined: contracts that the law's proof goes by. -/
import Derived.Test.YtbmoimfimeiglaaGreatGLFnLog1
import Derived.Handy
import Derived.Deep.RegionWith
import Derived.Deep.RegionHeld3
import Derived.Test.YtbmoimfimeiglaaGreatGLFnLog2
import Derived.Test.YtbmoimfimeiglaaGreatGLFnLog12
import Derived.Test.YtbmoimfimeiglaaGreatGLFnLog7
import Derived.BigQuiet
namespace Go.Proofs.YtbmoimfimeiglaaGreat
open Go.RowKit
set_option linter.unusedVariables false
theorem eqV (k n k' n' : Int) (s s' : ByteArray) (w : World) : (binOp .eql 119 (.agg #[.int .i64 k, .int .i64 n, .string s]) (.agg #[.int .i64 k', .int .i64 n', .string s'])).run Tryz.prog w = .ok (.bool (k == k' && (n == n' && s.toList == s'.toList))) w := by
  have u3 := Tryz.underlying3
  have a3 := Tryz.isAgg3
  have z3 := Tryz.sizeOf3
  have u9 := Tryz.underlying9
  have a9 := Tryz.isAgg9
  have z9 := Tryz.sizeOf9
  have hS : Tryz.prog.underlying 119 = some (.struct (Tryz.prog.fieldsOf 119)) := by kernel_rfl
  have hp : Tryz.prog.stoodInHeld 119 = false := by kernel_rfl
  rw [run_eql_struct, show (10000 : Nat) = 9999 + 1 from rfl, run_equalIn_agg w 9999 119 _ _ hS hp]
  simp only [Program.fieldsOf, Tryz.underlying119]
  go_simp
  by_cases h1 : k = k' <;> by_cases h2 : n = n' <;> by_cases h3 : s.toList = s'.toList <;> simp [h1, h2, h3]
end Go.Proofs.YtbmoimfimeiglaaGreat
namespace Go.Proofs.YtbmoimfimeiglaaGreat
open Go.RowKit Go.Deep
set_option linter.unusedVariables false
theorem neV (k n k' n' : Int) (s s' : ByteArray) (w : World) : (binOp .neq 119 (.agg #[.int .i64 k, .int .i64 n, .string s]) (.agg #[.int .i64 k', .int .i64 n', .string s'])).run Tryz.prog w = .ok (.bool (!(k == k' && (n == n' && s.toList == s'.toList)))) w := by
  have h := eqV k n k' n' s s' w
  rw [run_eql_struct] at h
  rw [run_neq_struct]
  revert h
  cases (Op.equalIn 10000 119 (.agg #[.int .i64 k, .int .i64 n, .string s]) (.agg #[.int .i64 k', .int .i64 n', .string s'])).run Tryz.prog w <;> intro h <;> simp_all [Result.andThen]
end Go.Proofs.YtbmoimfimeiglaaGreat
namespace Go.Proofs.YtbmoimfimeiglaaGreat
open Go.RowKit
set_option linter.unusedVariables false
theorem neSame (k n : Int) (s : ByteArray) (w : World) : (binOp .neq 119 (.agg #[.int .i64 k, .int .i64 n, .string s]) (.agg #[.int .i64 k, .int .i64 n, .string s])).run Tryz.prog w = .ok (.bool false) w := by
  rw [neV]; simp
set_option maxHeartbeats 2000000 in
set_option maxRecDepth 100000 in
theorem sameRow_any (v u : Value) (vs : List V3) (w : World) (hr : RowIs w v vs) (hu : RowIs w u vs) :
    Calls Tryz.prog 104 #[v, u] w fun e w' => e = .returned (.bool true) ∧ Below w.heap.size w w' := by
  obtain ⟨a, c, b, o, rfl, hl, hc, ha⟩ := hr.pick
  obtain ⟨a', c', b', o', rfl, hl', hc', ha'⟩ := hu.pick
  unfold maxLen at hc hc'
  clear hr hu
  go_enter Tryz.func104, Tryz.ntmps104
  go_wp2
  go_loopw [5] (fun i wr => ∃ k : Nat, k ≤ vs.length ∧ i = .int .i64 k ∧ Below w.heap.size w wr) (fun i _ => vs.length - (intOf i).toNat)
  case atStart => exact ⟨0, Nat.zero_le _, rfl, by go_grown⟩
  case round =>
    obtain ⟨k, hk, rfl, hb⟩ := hrel
    by_cases hlt : k < vs.length
    · have hzb := hb.size
      obtain ⟨rfl, hblt, hL⟩ := ha k hlt
      obtain ⟨rfl, hblt', hL'⟩ := ha' k hlt
      obtain ⟨x, hx, c0, c1, c2, hbr⟩ := hL.at hblt hb hlt
      obtain ⟨x', hx', c0', c1', c2', hbr'⟩ := hL'.at hblt' hb hlt
      obtain rfl : x = x' := by rw [hx] at hx'; exact Option.some.inj hx'
      have q2 := neSame x.k x.n x.s
      clear ha ha' hL hL' hx hx'
      go_wp2_with fail
      go_quiet (fail)
      go_wp2
      go_roundw
      case rel => exact ⟨k + 1, hlt, by simp, ⟨hb.os, hb.tape, hb.output, hb.size, hb.block⟩⟩
      case measure => simp [intOf]; omega
    · go_wp2
      go_returns
      exact ⟨rfl, hb⟩
set_option maxHeartbeats 2000000 in
set_option maxRecDepth 100000 in
theorem sameBag_any (W : Int) (v u : Value) (cs : List C2) (w : World) (hr : RowsIs w v cs) (hu : RowsIs w u cs) :
    Calls Tryz.prog 74 #[.agg #[.int .i64 W, v], .agg #[.int .i64 W, u]] w fun e w' => e = .returned (.bool true) ∧ Below w.heap.size w w' := by
  obtain ⟨a, c, b, o, rfl, hl, hc, ha⟩ := hr.pick
  obtain ⟨a', c', b', o', rfl, hl', hc', ha'⟩ := hu.pick
  unfold maxLen at hc hc'
  clear hr hu
  go_enter Tryz.func74, Tryz.ntmps74
  go_wp2
  go_loopw [5] (fun i wr => ∃ k : Nat, k ≤ cs.length ∧ i = .int .i64 k ∧ Below w.heap.size w wr ∧ wr.cell? ⟨w.heap.size, 0, none⟩ = some (.int .i64 W) ∧ wr.cell? ⟨w.heap.size, 1, none⟩ = some (.slice a cs.length c) ∧ wr.cell? ⟨w.heap.size + 1, 0, none⟩ = some (.int .i64 W) ∧ wr.cell? ⟨w.heap.size + 1, 1, none⟩ = some (.slice a' cs.length c')) (fun i _ => cs.length - (intOf i).toNat)
  case atStart => exact ⟨0, Nat.zero_le _, rfl, bela, by go_simp, by go_simp, by go_simp, by go_simp⟩
  case round =>
    obtain ⟨k, hk, rfl, hb, b0, b1, b2, b3⟩ := hrel
    by_cases hlt : k < cs.length
    · have hzb := hb.size
      obtain ⟨rfl, hblt, hL⟩ := ha k hlt
      obtain ⟨rfl, hblt', hL'⟩ := ha' k hlt
      obtain ⟨x, v, hx, c0, hR, c1, hbr⟩ := hL.at hblt hb hlt
      obtain ⟨x', u, hx', c0', hR', c1', hbr'⟩ := hL'.at hblt' hb hlt
      obtain rfl : x = x' := by rw [hx] at hx'; exact Option.some.inj hx'
      clear ha ha' hL hL' hx hx'
      go_wp2_with fail
      go_region_held3 (fun w' => w'.cell? ⟨w.heap.size, 1, none⟩ = some (.slice (some ⟨b, o, none⟩) cs.length c) ∧ w'.cell? ⟨w.heap.size + 1, 1, none⟩ = some (.slice (some ⟨b', o', none⟩) cs.length c') ∧ w'.cell? ⟨b, o + k * 2, none⟩ = some v ∧ w'.cell? ⟨b, o + k * 2 + 1, none⟩ = some (.int .i64 x.n) ∧ w'.cell? ⟨b', o' + k * 2, none⟩ = some u ∧ w'.cell? ⟨b', o' + k * 2 + 1, none⟩ = some (.int .i64 x.n)) (refine ⟨?_, ?_, ?_, ?_, ?_, ?_⟩ <;> first | (go_simp; done) | (exact cell_later (by assumption) (by go_simp))) (first | (go_at_call 104; refine (sameRow_any v u x.r _ (hR.below (bela)) (hR'.below (bela))).mono ?_; rintro e w1 ⟨rfl, hb1⟩))
      go_wp2
      go_roundw
      case rel => exact ⟨k + 1, hlt, by simp, bela, cell_later (by assumption) (by go_simp), cell_later (by assumption) (by go_simp), cell_later (by assumption) (by go_simp), cell_later (by assumption) (by go_simp)⟩
      case measure => simp [intOf]; omega
    · go_wp2
      go_returns
      exact ⟨rfl, hb⟩
end Go.Proofs.YtbmoimfimeiglaaGreat
