/- Own text. The contract of toValueS: a new row with the same values. -/
import Derived.Test.YtmomffaceglibaaRowK
import Derived.Test.YtmomffaceglibaaToV
import Derived.Handy
import Derived.Deep.OwnRows
namespace Go.Proofs.Ytmomffaceglibaa
open Go.RowKit
set_option linter.unusedVariables false
theorem Try.infoVal : (Try.prog.info? 104).map (fun i => (i.zero, i.size, i.bytes)) = some (some (.agg #[.int .i64 0, .int .i64 0, .string ⟨#[]⟩]), 3, 32) := by kernel_rfl
set_option maxHeartbeats 2000000 in
set_option maxRecDepth 100000 in
theorem toValueS_any (v : Value) (vs : List V3) (w : World) (hr : RowIs w v vs) (hn : vs.length ≤ 1048576) :
    Calls Try.prog 27 #[v] w fun e w' => e = .returned (.slice (some ⟨w.heap.size, 0, none⟩) vs.length vs.length) ∧ w'.rowIs w.heap.size 104 (vs.length * 3) (cf vs) ∧ Below w.heap.size w w' := by
  obtain ⟨a, c, b, o, rfl, hl, hc, ha⟩ := hr.pick
  unfold maxLen at hc
  clear hr
  have hmk := run_make_wide (P := Try.prog) 54 104 _ 3 32 Try.underlying54 Try.infoVal vs.length (by omega) (by omega)
  go_enter Try.func27, Try.ntmps27
  go_wp2
  go_loopw [4] (fun i wr => ∃ k : Nat, k ≤ vs.length ∧ i = .int .i64 k ∧ Below w.heap.size w wr ∧ Half wr w.heap.size 104 vs k) (fun i _ => vs.length - (intOf i).toNat)
  case atStart => exact ⟨0, Nat.zero_le _, rfl, by go_grown, half_made _ _ _ _⟩
  case round =>
    obtain ⟨k, hk, rfl, hb, hH⟩ := hrel
    clear hmk
    by_cases hlt : k < vs.length
    · have hzb := hb.size
      obtain ⟨rfl, hblt, hL⟩ := ha k hlt
      obtain ⟨x, hx, c0, c1, c2, hbr⟩ := hL.at hblt hb hlt
      have HX : Hid (vs[k]? = some x) := hx
      have hBr := (hH.cells hlt).2.2.2.2
      clear ha hL hx
      go_wp2_with (go_at_call 65; refine (toValue_any _ _ _ _).mono ?_; rintro e w1 ⟨rfl, hb1⟩; have hz1 := hb1.size; have hH1 := hH.of_block (hb1.block _ hBr); obtain ⟨⟨y0, g0⟩, ⟨y1, g1⟩, ⟨y2, g2⟩, gf, gs⟩ := hH1.cells hlt)
      exact ⟨⟨k + 1, hlt, by simp, by repeat (first | exact Below.refl _ _ | refine Below.drew ?_ | refine Below.alloc ?_ (by first | (simp; done) | (simp; omega) | omega) _ | refine Below.setCell ?_ (by first | (simp; done) | (simp; omega) | omega) _ | refine bstep (by assumption) (by first | (simp; done) | (simp; omega) | omega) ?_), hH1.step HX.out⟩, by simp [intOf]; omega⟩
    · go_wp2
      go_returns
      obtain rfl : k = vs.length := by omega
      exact ⟨rfl, hH.done, hb⟩
/-- .. in plain words. -/
theorem toValueS_row (v : Value) (vs : List V3) (w : World) (hr : RowIs w v vs) (hn : vs.length ≤ 1048576) :
    Calls Try.prog 27 #[v] w fun e w' => (∃ u, e = .returned u ∧ RowIs w' u vs) ∧ Below w.heap.size w w' :=
  (toValueS_any v vs w hr hn).mono fun e w' ⟨he, h, hb⟩ => ⟨⟨_, he, rowIs_row h (Nat.le_refl _) (by unfold maxLen; omega)⟩, hb⟩
end Go.Proofs.Ytmomffaceglibaa
