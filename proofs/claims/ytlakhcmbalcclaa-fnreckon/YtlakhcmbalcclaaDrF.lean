/- Own text. What DrawReckon draws. -/
import Derived.Test.YtlakhcmbalcclaaDrE
import Derived.Deep.RegionWith
import Derived.Handy
namespace Go.Proofs.Ytlakhcmbalcclaa
open Go.RowKit Go.Deep
set_option linter.unusedVariables false
theorem Below.two (w : World) (o1 o2 : Obj) : Below w.heap.size w ((w.alloc o1).alloc o2) := ((Below.refl _ _).alloc (Nat.le_refl _) o1).alloc (by simp) o2
set_option maxHeartbeats 1000000 in
set_option maxRecDepth 100000 in
theorem drawReckon_any (v : Value) (l : Nat) (w : World) (h : BytesB w w.heap.size v l) :
    Calls Try.prog 5 #[v] w fun e w' => (∃ (op : ByteArray) (k n : Int) (s : ByteArray) (k' n' : Int) (s' : ByteArray), e = .returned (.tuple #[.string op, .agg #[.int .i64 k, .int .i64 n, .string s], .agg #[.int .i64 k', .int .i64 n', .string s']]) ∧ op.size ≤ 3 ∧ -9223372036854775808 ≤ n ∧ n ≤ 9223372036854775807 ∧ s.size ≤ 9 ∧ -9223372036854775808 ≤ n' ∧ n' ≤ 9223372036854775807 ∧ s'.size ≤ 9) ∧ Below w.heap.size w w' := by
  have hb0 := Below.two w (.cells #[.int .i64 0, .int .i64 0, .string ⟨#[]⟩] 25) (.cells #[.int .i64 0, .int .i64 0, .string ⟨#[]⟩] 25)
  have hv0 := (VarV.new w 0 0 ⟨#[]⟩ 25).alloc (.cells #[.int .i64 0, .int .i64 0, .string ⟨#[]⟩] 25)
  have hu0 := VarV.new (w.alloc (.cells #[.int .i64 0, .int .i64 0, .string ⟨#[]⟩] 25)) 0 0 ⟨#[]⟩ 25
  rw [show (w.alloc (.cells #[.int .i64 0, .int .i64 0, .string ⟨#[]⟩] 25)).heap.size = w.heap.size + 1 by simp] at hu0
  go_enter Try.func5, Try.ntmps5
  go_wp2_with fail
  refine (l01New_at (w.heap.size + 1 + 1) v l _ (by simp) (h.up hb0 (by omega))).mono ?_
  rintro e w1 ⟨rfl, hc1, hb1⟩
  have hv1 := hv0.below hb1
  have hu1 := hu0.below hb1
  have hB0 := fun w2 => Drew.new (w2 := w2) (v := v) (l := l) hb0 hb1 (by simp) hc1.lt
  have hlt1 := hc1.lt
  clear hb1 hv0 hu0 hb0 h
  go_wp2_with fail
  refine (l01Pick_any (fun x => x.size ≤ 3) w1.heap.size 10 10 (w.heap.size + 1 + 1) v l _ (hc1.start.alloc _).cur (by omega) (by omega) (by omega) (by omega) (by simp) ?_).mono ?_
  · intro j hj
    rw [cells_at]
    rcases j with _ | _ | _ | _ | _ | _ | _ | _ | _ | _ | j
    all_goals first | exact ⟨_, rfl, by decide⟩ | omega
  rintro e w2 ⟨⟨op, rfl, hop⟩, hd2⟩
  have hv2 := (hv1.alloc _).drew hd2 (by omega)
  have hu2 := (hu1.alloc _).drew hd2 (by omega)
  have hD2 := (hc1.start.alloc _).trans hd2
  clear hv1 hu1 hd2 hc1
  go_wp2_with fail
  refine (l01Any_any _ v l w2 hD2.cur).mono ?_
  rintro e w3 ⟨⟨k, n, s, rfl, k0, k1, n0, n1, hs⟩, hd3⟩
  have hv3 := (hv2.drew hd3 (by omega)).alloc (.cells #[.int .i64 k, .int .i64 n, .string s] 25)
  have hu3 := (hu2.drew hd3 (by omega)).alloc (.cells #[.int .i64 k, .int .i64 n, .string s] 25)
  have hx3 := VarV.new w3 k n s 25
  have hD3 := (hD2.trans hd3).alloc (.cells #[.int .i64 k, .int .i64 n, .string s] 25)
  have hlt3 := (hD2.trans hd3).cur.lt
  have hll : w.heap.size + 1 + 1 < w3.heap.size := hlt3
  clear hv2 hu2 hd3 hD2
  go_wp2_with fail
  go_region_with (first | (go_at_call 19; refine (l01Any_any _ v l _ (hD3.cur.below (by go_grown))).mono ?_; rintro e w4 ⟨⟨k', n', s', rfl, k0', k1', n0', n1', hs'⟩, hd4⟩; obtain ⟨p1, p2, p3, p4, p5⟩ := (hv3.below (by go_grown)).drew hd4 (by omega); obtain ⟨q1, q2, q3, q4, q5⟩ := (hu3.below (by go_grown)).drew hd4 (by omega); obtain ⟨r1, r2, r3, r4, r5⟩ := (hx3.below (by go_grown)).drew hd4 (by omega); have hB := hB0 w4 ((hD3.below (by go_grown)).trans hd4)))
  all_goals clear hB0 hv3 hu3 hx3 hD3 hd4 hlt3 k0 k1 k0' k1' hlt1
  all_goals go_wp2_with fail
  all_goals
    have hne : w.heap.size ≠ w.heap.size + 1 := by omega
    refine bodyPost_ret (v := .tuple #[.string op, .agg #[.int .i64 k, .int .i64 n, .string s], .agg #[.int .i64 k', .int .i64 n', .string s']]) (by clear hB n0 n1 hs n0' n1' hs' hop; simp [results, Try.results5, go_sem, *]) rfl ⟨⟨op, k, n, s, k', n', s', rfl, hop, n0, n1, hs, n0', n1', hs'⟩, ?_⟩
    repeat first | (with_reducible exact hB) | (with_reducible refine Below.drew ?_) | (with_reducible refine Below.setCell ?_ (by first | (with_reducible exact Nat.le_refl _) | (simp; done) | (simp; omega)) _)
end Go.Proofs.Ytlakhcmbalcclaa
