/- Own text. The contracts of both SizeOf. -/
import Derived.Test.YtadflalodmihjaaToB
import Derived.Handy
import Derived.Deep.RegionHeld3
import Derived.Deep.DeepCutAuto
namespace Go.Proofs.Ytadflalodmihjaa
open Go.RowKit
set_option linter.unusedVariables false
/-- N together, around 64 bits. -/
def sumC : List C2 → Int → Int
  | [], n => n
  | x :: xs, n => sumC xs (wrap64 (n + x.n))
theorem sumC_step {cs : List C2} {k : Nat} {x : C2} (h : cs[k]? = some x) (n : Int) : sumC (cs.drop k) n = sumC (cs.drop (k + 1)) (wrap64 (n + x.n)) := by
  obtain ⟨hk, rfl⟩ := List.getElem?_eq_some_iff.1 h
  rw [List.drop_eq_getElem_cons hk]
  rfl
set_option maxHeartbeats 2000000 in
set_option maxRecDepth 100000 in
theorem specSize_any (W : Int) (v : Value) (cs : List C2) (w : World) (hr : RowsIs w v cs) :
    Calls Try.prog 19 #[.agg #[.int .i64 W, v]] w fun e w' => e = .returned (.int .i64 (sumC cs 0)) ∧ Below w.heap.size w w' := by
  obtain ⟨a, c, b, o, rfl, hl, hc, ha⟩ := hr.pick
  unfold maxLen at hc
  clear hr
  go_enter Try.func19, Try.ntmps19
  go_wp2
  go_loop [3, 4] (fun m i => ∃ (k : Nat) (n : Int), k ≤ cs.length ∧ i = .int .i64 k ∧ m = .int .i64 n ∧ sumC cs 0 = sumC (cs.drop k) n) (fun _ i => cs.length - (intOf i).toNat)
  case atStart => exact ⟨0, 0, Nat.zero_le _, rfl, rfl, by simp⟩
  case round =>
    obtain ⟨k, n, hk, rfl, rfl, hS⟩ := hrel
    have HS : Hid (sumC cs 0 = sumC (cs.drop k) n) := hS
    clear hS
    by_cases hlt : k < cs.length
    · obtain ⟨rfl, hblt, hL⟩ := ha k hlt
      obtain ⟨x, u, hx, c0, hR, c1, hbr⟩ := hL.at hblt (Below.refl _ _) hlt
      have HX : Hid (cs[k]? = some x) := hx
      clear ha hL hx hR
      go_wp2
      exact ⟨⟨k + 1, _, hlt, by simp, rfl, by rw [HS.out, sumC_step HX.out]⟩, by simp [intOf]; omega⟩
    · clear ha
      go_wp2
      go_returns
      refine ⟨ret_int ?_, by go_grown⟩
      rw [HS.out, List.drop_eq_nil_of_le (by omega)]
      rfl
set_option maxHeartbeats 2000000 in
set_option maxRecDepth 100000 in
theorem implSize_any (W : Int) (v : Value) (cs : List C2) (w : World) (hr : RowsIs w v cs) :
    Calls Try.prog 20 #[.agg #[.int .i64 W, v]] w fun e w' => e = .returned (.int .i64 (sumC cs 0)) ∧ Below w.heap.size w w' := by
  obtain ⟨a, c, b, o, rfl, hl, hc, ha⟩ := hr.pick
  unfold maxLen at hc
  clear hr
  go_enter Try.func20, Try.ntmps20
  go_wp2
  go_loopw [3, 9] (fun m i wr => ∃ (k : Nat) (n : Int), k ≤ cs.length ∧ i = .int .i64 k ∧ m = .int .i64 n ∧ sumC cs 0 = sumC (cs.drop k) n ∧ Below w.heap.size w wr) (fun _ i _ => cs.length - (intOf i).toNat)
  case atStart => exact ⟨0, 0, Nat.zero_le _, rfl, rfl, by simp, by go_grown⟩
  case round =>
    obtain ⟨k, n, hk, rfl, rfl, hS, hb⟩ := hrel
    have HS : Hid (sumC cs 0 = sumC (cs.drop k) n) := hS
    have hzb := hb.size
    clear hS
    by_cases hlt : k < cs.length
    · obtain ⟨rfl, hblt, hL⟩ := ha k hlt
      obtain ⟨x, u, hx, c0, hR, c1, hbr⟩ := hL.at hblt hb hlt
      have HX : Hid (cs[k]? = some x) := hx
      obtain ⟨ur, lr, cr, rfl⟩ := hR.shape
      clear ha hL hx hR
      go_wp2
      exact ⟨⟨k + 1, _, hlt, by simp, rfl, by rw [HS.out, sumC_step HX.out], by repeat (first | exact Below.refl _ _ | refine Below.drew ?_ | refine Below.alloc ?_ (by first | (simp; done) | (simp; omega) | omega) _ | refine Below.setCell ?_ (by first | (simp; done) | (simp; omega) | omega) _ | refine bstep (by assumption) (by first | (simp; done) | (simp; omega) | omega) ?_)⟩, by simp [intOf]; omega⟩
    · clear ha
      go_wp2
      go_returns
      refine ⟨ret_int ?_, hb⟩
      rw [HS.out, List.drop_eq_nil_of_le (by omega)]
      rfl
end Go.Proofs.Ytadflalodmihjaa
