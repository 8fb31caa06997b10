/- Own text. What DrawPutValue, DrawNameOk, DrawDecText draw. -/
import Derived.Test.YtpapmmfcjoillaaDoorDrP
import Derived.Test.YtpapmmfcjoillaaDoorDrB
import Derived.Handy
namespace Go.Proofs.YtpapmmfcjoillaaDoor
open Go.RowKit Go.Deep
set_option linter.unusedVariables false
set_option maxHeartbeats 1000000 in
set_option maxRecDepth 100000 in
theorem drawPut_any (v : Value) (l : Nat) (w : World) (h : BytesB w w.heap.size v l) :
    Calls Tryd.prog 7 #[v] w fun e w' => ValD (-1) 4 9 e ∧ Below w.heap.size w w' := by
  have hb0 := (Below.refl w.heap.size w).alloc (Nat.le_refl _) (.cells #[.int .i64 0, .int .i64 0, .string ⟨#[]⟩] 25)
  have hv0 := VarV.new w 0 0 ⟨#[]⟩ 25
  go_enter Tryd.func7, Tryd.ntmps7
  go_wp2_with fail
  refine (l01New_at (w.heap.size + 1) v l _ (by simp) (h.up hb0 (by omega))).mono ?_
  rintro e w1 ⟨rfl, hc1, hb1⟩
  have hv1 := hv0.below hb1
  have hB0 := fun w2 => Drew.new (w2 := w2) (v := v) (l := l) hb0 hb1 (by simp) hc1.lt
  clear hb1 hv0 hb0 h
  go_wp2_with fail
  refine (l01Any_any _ v l w1 hc1).mono ?_
  rintro e w2 ⟨⟨k, n, s, rfl, k0, k1, n0, n1, hs⟩, hd2⟩
  obtain ⟨g1, g2, g3, g4, g5⟩ := hv1.drew hd2 (by omega)
  have hB := hB0 w2 hd2
  clear hB0 hd2 hv1 hc1
  go_wp2_with fail
  refine bodyPost_ret (v := .agg #[.int .i64 k, .int .i64 n, .string s]) (by simp [results, Tryd.results7, go_sem, *]) rfl ⟨⟨_, _, _, rfl, k0, k1, n0, n1, hs⟩, ?_⟩
  exact ((hB.setCell (Nat.le_refl _) _).setCell (Nat.le_refl _) _).setCell (Nat.le_refl _) _
set_option maxHeartbeats 1000000 in
set_option maxRecDepth 100000 in
theorem l01Below_big (n : Int) (B : Nat) (v : Value) (l : Nat) (w : World) (h : Cur w B v l) (h1 : 256 < n) (h2 : n ≤ 1000000000) :
    Calls Tryd.prog 32 #[.pointer (some ⟨B, 0, none⟩), .int .i64 n] w fun e w' => (∃ x : Int, e = .returned (.int .i64 x) ∧ 0 ≤ x ∧ x < n) ∧ Drew B v l w w' := by
  go_enter Tryd.func32, Tryd.ntmps32
  go_wp2_with fail
  refine (l01Byte_any B v l w h).mono ?_
  rintro e w1 ⟨⟨x, rfl, x0, x1⟩, hd1⟩
  go_wp2_with fail
  refine (l01Byte_any B v l w1 hd1.cur).mono ?_
  rintro e w2 ⟨⟨y, rfl, y0, y1⟩, hd2⟩
  go_wp2_with fail
  refine (l01Byte_any B v l w2 hd2.cur).mono ?_
  rintro e w3 ⟨⟨z, rfl, z0, z1⟩, hd3⟩
  go_wp2_with fail
  refine (l01Byte_any B v l w3 hd3.cur).mono ?_
  rintro e w4 ⟨⟨u, rfl, u0, u1⟩, hd4⟩
  have a1 : wrap64 (x * 16777216) = x * 16777216 := by unfold wrap64; omega
  have a2 : wrap64 (y * 65536) = y * 65536 := by unfold wrap64; omega
  have a3 : wrap64 (z * 256) = z * 256 := by unfold wrap64; omega
  have a4 : wrap64 (x * 16777216 + y * 65536) = x * 16777216 + y * 65536 := by unfold wrap64; omega
  have a5 : wrap64 (x * 16777216 + y * 65536 + z * 256) = x * 16777216 + y * 65536 + z * 256 := by unfold wrap64; omega
  have a6 : wrap64 (x * 16777216 + y * 65536 + z * 256 + u) = x * 16777216 + y * 65536 + z * 256 + u := by unfold wrap64; omega
  go_wp2_with fail
  go_returns
  exact ⟨⟨_, rfl, Int.emod_nonneg _ (by omega), Int.emod_lt_of_pos _ (by omega)⟩, hd1.trans (hd2.trans (hd3.trans hd4))⟩
set_option maxHeartbeats 1000000 in
set_option maxRecDepth 100000 in
theorem drawName_any (v : Value) (l : Nat) (w : World) (h : BytesB w w.heap.size v l) :
    Calls Tryd.prog 12 #[v] w fun e w' => (∃ s : ByteArray, e = .returned (.string s) ∧ s.size ≤ 11) ∧ Below w.heap.size w w' := by
  go_enter Tryd.func12, Tryd.ntmps12
  go_wp2_with fail
  refine (l01New_at w.heap.size v l _ rfl h).mono ?_
  rintro e w1 ⟨rfl, hc1, hb1⟩
  have hB0 := fun w2 => Drew.new (w2 := w2) (v := v) (l := l) (Below.refl w.heap.size w) hb1 rfl hc1.lt
  have hlt1 := hc1.lt
  clear hb1
  go_wp2_with fail
  refine (l01Pick_any (fun x => x.size ≤ 11) w1.heap.size 8 8 w.heap.size v l _ (hc1.start.alloc _).cur (by omega) (by omega) (by omega) (by omega) (by simp) ?_).mono ?_
  · intro j hj
    rw [cells_at]
    rcases j with _ | _ | _ | _ | _ | _ | _ | _ | j
    all_goals first | exact ⟨_, rfl, by decide⟩ | omega
  rintro e w2 ⟨⟨s, rfl, hs⟩, hd2⟩
  have hB := hB0 w2 ((hc1.start.alloc _).trans hd2)
  go_wp2_with fail
  go_returns
  exact ⟨⟨s, rfl, hs⟩, hB⟩
set_option maxHeartbeats 1000000 in
set_option maxRecDepth 100000 in
theorem drawDec_any (v : Value) (l : Nat) (w : World) (h : BytesB w w.heap.size v l) :
    Calls Tryd.prog 13 #[v] w fun e w' => (∃ n : Int, e = .returned (.int .i64 n) ∧ -9223372036854775808 ≤ n ∧ n ≤ 9223372036854775807) ∧ Below w.heap.size w w' := by
  go_enter Tryd.func13, Tryd.ntmps13
  go_wp2_with fail
  refine (l01New_at w.heap.size v l _ rfl h).mono ?_
  rintro e w1 ⟨rfl, hc1, hb1⟩
  have hB0 := fun w2 => Drew.new (w2 := w2) (v := v) (l := l) (Below.refl w.heap.size w) hb1 rfl hc1.lt
  have hlt1 := hc1.lt
  clear hb1
  go_wp2_with fail
  refine (l01Below_big 100000 w.heap.size v l w1 hc1 (by omega) (by omega)).mono ?_
  rintro e w2 ⟨⟨y, rfl, y0, y1⟩, hd2⟩
  have hlt2 := hd2.cur.lt
  go_wp2_with fail
  refine (l01PickInt_any (fun x => -9223372036854775808 ≤ x ∧ x ≤ 9223372036854775807) w2.heap.size 6 6 w.heap.size v l _ (hd2.cur.start.alloc _).cur (by omega) (by omega) (by omega) (by omega) (by simp) ?_).mono ?_
  · intro j hj
    rw [cells_at]
    rcases j with _ | _ | _ | _ | _ | _ | j
    all_goals first | exact ⟨_, rfl, by decide, by decide⟩ | exact ⟨_, rfl, by omega, by omega⟩ | omega
  rintro e w3 ⟨⟨x, rfl, x0, x1⟩, hd3⟩
  have hB := hB0 w3 (hd2.trans ((hd2.cur.start.alloc _).trans hd3))
  go_wp2_with fail
  go_returns
  exact ⟨⟨x, rfl, x0, x1⟩, hB⟩
end Go.Proofs.YtpapmmfcjoillaaDoor
