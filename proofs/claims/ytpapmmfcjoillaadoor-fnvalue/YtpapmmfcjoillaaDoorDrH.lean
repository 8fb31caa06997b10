/- Own text. What DrawCompareValue draws. -/
import Derived.Test.YtpapmmfcjoillaaDoorDrP
import Derived.Test.YtpapmmfcjoillaaDoorDrB
import Derived.Deep.RegionWith
import Derived.Handy
namespace Go.Proofs.YtpapmmfcjoillaaDoor
open Go.RowKit Go.Deep
set_option linter.unusedVariables false
theorem Below.two' (w : World) (o1 o2 : Obj) : Below w.heap.size w ((w.alloc o1).alloc o2) := ((Below.refl _ _).alloc (Nat.le_refl _) o1).alloc (by simp) o2
set_option maxHeartbeats 4000000 in
set_option maxRecDepth 100000 in
theorem drawCompare_any (v : Value) (l : Nat) (w : World) (h : BytesB w w.heap.size v l) :
    Calls Tryd.prog 5 #[v] w fun e w' => (∃ (k n : Int) (s : ByteArray) (k' n' : Int) (s' : ByteArray), e = .returned (.tuple #[.agg #[.int .i64 k, .int .i64 n, .string s], .agg #[.int .i64 k', .int .i64 n', .string s']]) ∧ -9223372036854775808 ≤ n ∧ n ≤ 9223372036854775807 ∧ s.size ≤ 9 ∧ -9223372036854775808 ≤ n' ∧ n' ≤ 9223372036854775807 ∧ s'.size ≤ 9) ∧ Below w.heap.size w w' := by
  have hb0 := Below.two' w (.cells #[.int .i64 0, .int .i64 0, .string ⟨#[]⟩] 25) (.cells #[.int .i64 0, .int .i64 0, .string ⟨#[]⟩] 25)
  have hv0 := (VarV.new w 0 0 ⟨#[]⟩ 25).alloc (.cells #[.int .i64 0, .int .i64 0, .string ⟨#[]⟩] 25)
  have hu0 := VarV.new (w.alloc (.cells #[.int .i64 0, .int .i64 0, .string ⟨#[]⟩] 25)) 0 0 ⟨#[]⟩ 25
  rw [show (w.alloc (.cells #[.int .i64 0, .int .i64 0, .string ⟨#[]⟩] 25)).heap.size = w.heap.size + 1 by simp] at hu0
  go_enter Tryd.func5, Tryd.ntmps5
  go_wp2_with fail
  refine (l01New_at (w.heap.size + 1 + 1) v l _ (by simp) (h.up hb0 (by omega))).mono ?_
  rintro e w1 ⟨rfl, hc1, hb1⟩
  have hv1 := hv0.below hb1
  have hu1 := hu0.below hb1
  have hB0 := fun w2 => Drew.new (w2 := w2) (v := v) (l := l) hb0 hb1 (by simp) hc1.lt
  have hlt1 := hc1.lt
  clear hb1 hv0 hu0 hb0 h
  go_wp2_with fail
  refine (l01Any_any _ v l w1 hc1).mono ?_
  rintro e w3 ⟨⟨k, n, s, rfl, k0, k1, n0, n1, hs⟩, hd3⟩
  have hv3 := (hv1.drew hd3 (by omega)).alloc (.cells #[.int .i64 k, .int .i64 n, .string s] 25)
  have hu3 := (hu1.drew hd3 (by omega)).alloc (.cells #[.int .i64 k, .int .i64 n, .string s] 25)
  have hx3 := VarV.new w3 k n s 25
  have hD3 := (hc1.start.trans hd3).alloc (.cells #[.int .i64 k, .int .i64 n, .string s] 25)
  have hll : w.heap.size + 1 + 1 < w3.heap.size := (hc1.start.trans hd3).cur.lt
  clear hv1 hu1 hd3
  go_wp2_with fail
  refine (l01Once_any 4 _ v l _ hD3.cur (by omega) (by omega)).mono ?_
  rintro e w4 ⟨⟨b, rfl⟩, hd4⟩
  replace hv3 := hv3.drew hd4 (by omega)
  replace hu3 := hu3.drew hd4 (by omega)
  replace hx3 := hx3.drew hd4 (by omega)
  have hD4 := hD3.trans hd4
  obtain ⟨B3, hB3⟩ : ∃ b, b = w3.heap.size := ⟨_, rfl⟩
  rw [← hB3] at hx3 hll ⊢
  clear hD3 hd4 hB3
  have hne : w.heap.size ≠ w.heap.size + 1 := by omega
  have hne1 : w.heap.size ≠ B3 := by omega
  have hne2 : w.heap.size + 1 ≠ B3 := by omega
  have hx3' := hx3
  obtain ⟨x1, x2, x3, x4, x5⟩ := hx3'
  cases b
  · go_wp2_with fail
    go_region_with (first | (go_at_call 25; refine (l01Any_any _ v l _ (hD4.cur.below (by go_grown))).mono ?_; rintro e w5 ⟨⟨k', n', s', rfl, k0', k1', n0', n1', hs'⟩, hd5⟩; obtain ⟨p1, p2, p3, p4, p5⟩ := (hv3.below (by go_grown)).drew hd5 (by omega); obtain ⟨q1, q2, q3, q4, q5⟩ := (hu3.below (by go_grown)).drew hd5 (by omega); obtain ⟨r1, r2, r3, r4, r5⟩ := (hx3.below (by go_grown)).drew hd5 (by omega); have hB := hB0 w5 ((hD4.below (by go_grown)).trans hd5)))
    all_goals clear hB0 hv3 hu3 hx3 hD4 hd5 k0 k1 k0' k1' hlt1 x1 x2 x3 x4 x5
    all_goals go_wp2_with fail
    all_goals
      refine bodyPost_ret (v := .tuple #[.agg #[.int .i64 k, .int .i64 n, .string s], .agg #[.int .i64 k', .int .i64 n', .string s']]) (by clear hB n0 n1 hs n0' n1' hs'; simp [results, Tryd.results5, go_sem, *]) rfl ⟨⟨k, n, s, k', n', s', rfl, n0, n1, hs, n0', n1', hs'⟩, ?_⟩
      repeat first | (with_reducible exact hB) | (with_reducible refine Below.drew ?_) | (with_reducible refine Below.setCell ?_ (by first | (with_reducible exact Nat.le_refl _) | (simp; done) | (simp; omega)) _)
  · have hB := hB0 w4 hD4
    obtain ⟨p1, p2, p3, p4, p5⟩ := hv3
    obtain ⟨q1, q2, q3, q4, q5⟩ := hu3
    clear hB0 hD4 hx3 hlt1 k0 k1
    go_wp2_with fail
    go_region
    all_goals go_wp2_with fail
    all_goals
      refine bodyPost_ret (v := .tuple #[.agg #[.int .i64 k, .int .i64 n, .string s], .agg #[.int .i64 k, .int .i64 n, .string s]]) (by clear hB n0 n1 hs; simp [results, Tryd.results5, go_sem, *]) rfl ⟨⟨k, n, s, k, n, s, rfl, n0, n1, hs, n0, n1, hs⟩, ?_⟩
      repeat first | (with_reducible exact hB) | (with_reducible refine Below.drew ?_) | (with_reducible refine Below.setCell ?_ (by first | (with_reducible exact Nat.le_refl _) | (simp; done) | (simp; omega)) _)
end Go.Proofs.YtpapmmfcjoillaaDoor
