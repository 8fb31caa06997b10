/- Own texts, joined: contracts that the law's proof goes by. -/
import Derived.Test.YtbmoimfimeiglaaGreatGLFnLog23
import Derived.Test.YtbmoimfimeiglaaGreatGLFnLog7
import Derived.Test.YtbmoimfimeiglaaGreatGLFnLog4
import Derived.Test.YtbmoimfimeiglaaGreatGLFnLog8
import Derived.Handy
import Derived.Maps.AppendAt
import Derived.Test.YtbmoimfimeiglaaGreatGLFnLog5
namespace Go.Proofs.YtbmoimfimeiglaaGreat
open Go.RowKit Go.Deep
set_option linter.unusedVariables false
attribute [local go_sem] ta_nullForm_intForm ta_intForm_intForm ta_boolForm_intForm ta_textForm_intForm
theorem implGet_v {s : ByteArray} {i k n j : Int} {x : ByteArray} (hT : getT s i = (k, n, x, j)) (w : World) (hs : s.size ≤ 1048576) :
    Calls Tryz.prog 125 #[.string s, .int .i64 i] w fun e w' => e = .returned (.tuple #[(.agg #[.int .i64 k, .int .i64 n, .string x]), .int .i64 j]) ∧ Below w.heap.size w w' := by
  have h := implGet_any s i w hs
  rw [hT] at h
  exact h
theorem specGet_v {s : ByteArray} {i k n j : Int} {x : ByteArray} (hT : getT s i = (k, n, x, j)) (w : World) (hs : s.size ≤ 1048576) :
    Calls Tryz.prog 71 #[.string s, .int .i64 i] w fun e w' => e = .returned (.tuple #[(.agg #[.int .i64 k, .int .i64 n, .string x]), .int .i64 j]) ∧ Below w.heap.size w w' := by
  have h := specGet_any s i w hs
  rw [hT] at h
  exact h
theorem getT_kind (s : ByteArray) (i : Int) : (getT s i).1 = 0 ∨ (getT s i).1 = 1 ∨ (getT s i).1 = 2 ∨ (getT s i).1 = 3 := by
  unfold getT
  split
  · unfold getN
    split
    · exact .inl rfl
    split
    · exact .inr (.inl rfl)
    split
    · exact .inr (.inr (.inl rfl))
    split
    · exact .inr (.inr (.inr rfl))
    · exact .inl rfl
  · exact .inl rfl
theorem valsJ_succ (s : ByteArray) : ∀ (q : Nat) (i : Int), valsJ s (q + 1) i = tJ s (valsJ s q i)
  | 0, _ => rfl
  | q + 1, i => by rw [valsJ, valsJ_succ s q]; rfl
theorem valsV_succ (s : ByteArray) : ∀ (q : Nat) (i : Int), valsV s (q + 1) i = valsV s q i ++ [tV s (valsJ s q i)]
  | 0, _ => rfl
  | q + 1, i => by rw [valsV, valsV_succ s q]; rfl
theorem rc_push (vs : List V3) (x : V3) : rc (vs ++ [x]) = rc vs ++ [.int .i64 x.k, .int .i64 x.n, .string x.s] := by
  unfold rc
  have hl : (vs ++ [x]).length * 3 = vs.length * 3 + 3 := by simp; omega
  rw [hl, List.range_add, List.map_append]
  congr 1
  · refine List.map_congr_left fun j hj => ?_
    have hj' := List.mem_range.1 hj
    unfold cf
    have e : (vs ++ [x]).getD (j / 3) ⟨0, 0, ⟨#[]⟩⟩ = vs.getD (j / 3) ⟨0, 0, ⟨#[]⟩⟩ := by
      rw [List.getD_eq_getElem?_getD, List.getD_eq_getElem?_getD, List.getElem?_append_left (by omega)]
    rw [e]
  · obtain ⟨h0, h1, h2⟩ := cf_at (vs := vs ++ [x]) (k := vs.length) (x := x) (by simp)
    rw [show List.range 3 = [0, 1, 2] from rfl]
    simp [h0, h1, h2]
set_option maxHeartbeats 4000000 in
set_option maxRecDepth 100000 in
theorem getCounted_no (s : ByteArray) (i : Int) (W : Nat) (w : World) (hs : s.size ≤ 1048576) (hk : (tV s i).k ≠ 1) :
    Calls Tryz.prog 117 #[.string s, .int .i64 i, .int .i64 W] w fun e w' => e = .returned (.tuple #[.agg #[.slice none 0 0, .int .i64 0], .int .i64 (-1)]) ∧ Below w.heap.size w w' := by
  obtain ⟨k, n, x, j, hT⟩ : ∃ k n x j, getT s i = (k, n, x, j) := ⟨_, _, _, _, rfl⟩
  have hkd := getT_kind s i
  have hk' : k ≠ 1 := by unfold tV at hk; rw [hT] at hk; exact hk
  rw [hT] at hkd
  dsimp only at hkd
  go_enter Tryz.func117, Tryz.ntmps117
  go_wp2_with fail
  refine Calls.mono (implGet_v hT _ hs) ?_
  rintro e w1 ⟨rfl, hb1⟩
  have hz1 := hb1.size
  simp only [World.size_alloc] at hz1
  have hf1 := (bcell hb1).2
  have hy0 : w.heap.size < w1.heap.size := by omega
  have hy1 : w.heap.size < w1.heap.size + 1 := by omega
  have hy2 : w.heap.size < w1.heap.size + 1 + 1 := by omega
  have hy3 : w.heap.size < w1.heap.size + 1 + 1 + 1 := by omega
  have hy4 : w1.heap.size < w1.heap.size + 1 + 1 := by omega
  have hy5 : w1.heap.size < w1.heap.size + 1 + 1 + 1 := by omega
  have r0 : w1.cell? ⟨w.heap.size, 0, none⟩ = some (.slice none 0 0) := cell_later hb1 (by go_simp)
  have r1 : w1.cell? ⟨w.heap.size, 1, none⟩ = some (.int .i64 0) := cell_later hb1 (by go_simp)
  have rf : ∀ o, w1.frozen? ⟨w.heap.size, o, none⟩ = false := fun o => (hf1 _ o (by simp)).trans (by go_simp)
  clear hT hk
  rcases hkd with rfl | rfl | rfl | rfl
  · go_wp2_with (first | (go_at_call 115; refine Calls.mono (formOf_0 n x _) ?_; rintro e w2 ⟨rfl, rfl⟩) | fail)
    refine bodyPost_ret (v := .tuple #[.agg #[.slice none 0 0, .int .i64 0], .int .i64 (-1)]) (by simp [results, Tryz.results117, go_sem, *]) rfl ⟨rfl, bex⟩
  · exact absurd rfl hk'
  · go_wp2_with (first | (go_at_call 115; refine Calls.mono (formOf_2 n x _) ?_; rintro e w2 ⟨rfl, rfl⟩) | fail)
    refine bodyPost_ret (v := .tuple #[.agg #[.slice none 0 0, .int .i64 0], .int .i64 (-1)]) (by simp [results, Tryz.results117, go_sem, *]) rfl ⟨rfl, bex⟩
  · go_wp2_with (first | (go_at_call 115; refine Calls.mono (formOf_3 n x _) ?_; rintro e w2 ⟨rfl, rfl⟩) | fail)
    refine bodyPost_ret (v := .tuple #[.agg #[.slice none 0 0, .int .i64 0], .int .i64 (-1)]) (by simp [results, Tryz.results117, go_sem, *]) rfl ⟨rfl, bex⟩
set_option maxHeartbeats 8000000 in
set_option maxRecDepth 100000 in
theorem getCounted_yes (s : ByteArray) (i : Int) (W : Nat) (w : World) (hs : s.size ≤ 1048576) (hW : W ≤ 255) (hk : (tV s i).k = 1) :
    Calls Tryz.prog 117 #[.string s, .int .i64 i, .int .i64 W] w fun e w' => (∃ u g, e = .returned (.tuple #[.agg #[u, .int .i64 (tV s i).n], .int .i64 (endS s W i)]) ∧ RowF w' u (valsV s W (tJ s i)) g ∧ Own w' w.heap.size g) ∧ Below w.heap.size w w' := by
  obtain ⟨i0, hi, hz0, hz1, hz2⟩ := info_parts Tryz.infoVal
  obtain ⟨k, n, x, j, hT⟩ : ∃ k n x j, getT s i = (k, n, x, j) := ⟨_, _, _, _, rfl⟩
  have hk' : k = 1 := by unfold tV at hk; rw [hT] at hk; exact hk
  have hn' : (tV s i).n = n := by unfold tV; rw [hT]
  have hj' : tJ s i = j := by unfold tJ; rw [hT]
  have he' : endS s W i = valsJ s W j := by unfold endS; rw [hj']
  rw [hn', hj', he']
  subst hk'
  clear hk hn' hj' he'
  go_enter Tryz.func117, Tryz.ntmps117
  go_wp2_with fail
  refine Calls.mono (implGet_v hT _ hs) ?_
  rintro e w1 ⟨rfl, hb1⟩
  have hzz := hb1.size
  simp only [World.size_alloc] at hzz
  have hf1 := (bcell hb1).2
  have hy0 : w.heap.size < w1.heap.size := by omega
  have hy1 : w.heap.size < w1.heap.size + 1 := by omega
  have hy2 : w.heap.size < w1.heap.size + 1 + 1 := by omega
  have hy3 : w.heap.size < w1.heap.size + 1 + 1 + 1 := by omega
  have hy4 : w1.heap.size < w1.heap.size + 1 + 1 := by omega
  have hy5 : w1.heap.size < w1.heap.size + 1 + 1 + 1 := by omega
  have r0 : w1.cell? ⟨w.heap.size, 0, none⟩ = some (.slice none 0 0) := cell_later hb1 (by go_simp)
  have r1 : w1.cell? ⟨w.heap.size, 1, none⟩ = some (.int .i64 0) := cell_later hb1 (by go_simp)
  have rf : ∀ o, w1.frozen? ⟨w.heap.size, o, none⟩ = false := fun o => (hf1 _ o (by simp)).trans (by go_simp)
  clear hT
  go_wp2_with (first | (go_at_call 115; refine Calls.mono (formOf_1 n x _) ?_; rintro e w2 ⟨rfl, rfl⟩) | fail)
  go_loopw [1, 31] (fun at' kk wr => ∃ (q : Nat) (y : Value), q ≤ W ∧ kk = .int .i64 q ∧ at' = .int .i64 (valsJ s q j) ∧ wr.ownsRow (w1.heap.size + 1 + 1 + 1 + 1) 119 3 y q (rc (valsV s q j)) ∧
      wr.cell? ⟨w1.heap.size + 1 + 1 + 1, 0, none⟩ = some y ∧ wr.cell? ⟨w1.heap.size + 1 + 1 + 1, 1, none⟩ = some (.int .i64 n) ∧ (∀ o, wr.frozen? ⟨w1.heap.size + 1 + 1 + 1, o, none⟩ = false) ∧
      (∃ v0, wr.cell? ⟨w1.heap.size, 0, none⟩ = some v0) ∧ (∃ v1, wr.cell? ⟨w1.heap.size, 1, none⟩ = some v1) ∧ (∃ v2, wr.cell? ⟨w1.heap.size, 2, none⟩ = some v2) ∧ (∀ o, wr.frozen? ⟨w1.heap.size, o, none⟩ = false) ∧
      wr.cell? ⟨w.heap.size, 0, none⟩ = some (.slice none 0 0) ∧ wr.cell? ⟨w.heap.size, 1, none⟩ = some (.int .i64 0) ∧ (∀ o, wr.frozen? ⟨w.heap.size, o, none⟩ = false) ∧ Below w.heap.size w wr ∧ w1.heap.size + 1 + 1 + 1 + 1 ≤ wr.heap.size) (fun _ kk _ => W - (intOf kk).toNat)
  case atStart =>
    refine ⟨0, .slice none 0 0, Nat.zero_le _, rfl, rfl, ⟨rfl, .inl ⟨rfl, rfl⟩⟩, by go_simp, by go_simp, fun o => by go_simp, ⟨.int .i64 1, by go_simp⟩, ⟨.int .i64 n, by go_simp⟩, ⟨.string x, by go_simp⟩, fun o => by go_simp, by go_simp, by go_simp, fun o => by go_simp, bex, by simp⟩
  case round =>
    clear r0 r1 rf hf1
    obtain ⟨q, y, hq, rfl, rfl, hown, p0, p1, pf, ⟨v0, x0⟩, ⟨v1, x1⟩, ⟨v2, x2⟩, xf, r0, r1, rf, hb, hzb⟩ := hrel
    by_cases hlt : q < W
    · obtain ⟨k2, n2, s2, j2, hT2⟩ : ∃ k' n' x' j', getT s (valsJ s q j) = (k', n', x', j') := ⟨_, _, _, _, rfl⟩
      have HV : Hid (rc (valsV s (q + 1) j) = rc (valsV s q j) ++ [.int .i64 k2, .int .i64 n2, .string s2]) := by
        show rc (valsV s (q + 1) j) = _
        rw [valsV_succ, rc_push]
        unfold tV; rw [hT2]
      have HJ : Hid (valsJ s (q + 1) j = j2) := by
        show valsJ s (q + 1) j = j2
        rw [valsJ_succ]; unfold tJ; rw [hT2]
      have hol := ownsRow_lt hown
      have hv8 : y.ownBlock ≠ some w1.heap.size := fun e => by have := (hol _ e).1; omega
      have hv11 : y.ownBlock ≠ some (w1.heap.size + 1 + 1 + 1) := fun e => by have := (hol _ e).1; omega
      have hv6 : y.ownBlock ≠ some w.heap.size := fun e => by have := (hol _ e).1; omega
      go_wp2_with fail
      refine Calls.mono (implGet_v hT2 _ hs) ?_
      rintro e w2 ⟨rfl, hb2⟩
      have hzw := hb2.size
      have hfz := (bcell hb2).2
      have hcz := (bcell hb2).1
      have q0 : w2.cell? ⟨w1.heap.size + 1 + 1 + 1, 0, none⟩ = some y := (hcz _ _ (by omega)).trans p0
      have q1 : w2.cell? ⟨w1.heap.size + 1 + 1 + 1, 1, none⟩ = some (.int .i64 n) := (hcz _ _ (by omega)).trans p1
      have qf : ∀ o, w2.frozen? ⟨w1.heap.size + 1 + 1 + 1, o, none⟩ = false := fun o => (hfz _ _ (by omega)).trans (pf o)
      have y0 : w2.cell? ⟨w1.heap.size, 0, none⟩ = some v0 := (hcz _ _ (by omega)).trans x0
      have y1 : w2.cell? ⟨w1.heap.size, 1, none⟩ = some v1 := (hcz _ _ (by omega)).trans x1
      have y2 : w2.cell? ⟨w1.heap.size, 2, none⟩ = some v2 := (hcz _ _ (by omega)).trans x2
      have yf : ∀ o, w2.frozen? ⟨w1.heap.size, o, none⟩ = false := fun o => (hfz _ _ (by omega)).trans (xf o)
      have u0 : w2.cell? ⟨w.heap.size, 0, none⟩ = some (.slice none 0 0) := (hcz _ _ (by omega)).trans r0
      have u1 : w2.cell? ⟨w.heap.size, 1, none⟩ = some (.int .i64 0) := (hcz _ _ (by omega)).trans r1
      have uf : ∀ o, w2.frozen? ⟨w.heap.size, o, none⟩ = false := fun o => (hfz _ _ (by omega)).trans (rf o)
      have hown2 := ownsRow_keep hown (fun b hb' => hb2.block b (hol b hb').2)
      have hbw2 : Below w.heap.size w w2 := hb.trans (hb2.mono hb.size)
      have n1 : w1.heap.size < w2.heap.size := by omega
      have n2' : w1.heap.size + 1 + 1 + 1 < w2.heap.size := by omega
      have n3 : w.heap.size < w2.heap.size := by omega
      clear hfz hcz p0 p1 pf x0 x1 x2 xf r0 r1 rf hown
      go_wp2_with (at_builtin; refine wpList_append_own _ rfl _ _ 110 rfl (w1.heap.size + 1 + 1 + 1 + 1) 119 i0 _ 3 32 Tryz.underlying110 hi hz0 hz1 hz2 rfl (by decide) y q (rc (valsV s q j)) rfl ?hown ⟨w2.heap.size, 0, none⟩ 1 1 [.int .i64 k2, .int .i64 n2, .string s2] rfl rfl ?c1 ?c2 ?c3 ?c4 ?c5 ?_)
      case hown =>
        refine ownsRow_keep hown2 fun b hb' => ?_
        have h1 := ownsRow_lt hown2 b hb'
        rw [Below.heap_alloc _ _ _ (by simp; omega)]
        repeat rw [Below.heap_setCell _ _ _ _ (by simp; omega)]
      case c1 =>
        intro j' u hu
        match j', hu with
        | 0, hu => simp at hu; subst hu; go_simp
        | 1, hu => simp at hu; subst hu; go_simp
        | 2, hu => simp at hu; subst hu; go_simp
      case c2 => intro u hu; simp at hu; rcases hu with rfl | rfl | rfl <;> rfl
      case c3 => unfold maxLen; omega
      case c4 => omega
      case c5 => simp; omega
      intro v5 w5 hown5 hgr5 _
      have hsz5 := hgr5.size
      simp at hsz5
      have a0 : w5.cell? ⟨w1.heap.size + 1 + 1 + 1, 0, none⟩ = some y := (hgr5.cell_far _ (by simp; try omega) (fun e => hv11 e.symm)).trans (by go_simp)
      have a1 : w5.cell? ⟨w1.heap.size + 1 + 1 + 1, 1, none⟩ = some (.int .i64 n) := (hgr5.cell_far _ (by simp; try omega) (fun e => hv11 e.symm)).trans (by go_simp)
      have af : ∀ o, w5.frozen? ⟨w1.heap.size + 1 + 1 + 1, o, none⟩ = false := fun o => (hgr5.frozen_far _ (by simp; try omega) (fun e => hv11 e.symm)).trans (by go_simp)
      have b0 : w5.cell? ⟨w1.heap.size, 0, none⟩ = some (.int .i64 k2) := (hgr5.cell_far _ (by simp; try omega) (fun e => hv8 e.symm)).trans (by go_simp)
      have b1 : w5.cell? ⟨w1.heap.size, 1, none⟩ = some (.int .i64 n2) := (hgr5.cell_far _ (by simp; try omega) (fun e => hv8 e.symm)).trans (by go_simp)
      have b2 : w5.cell? ⟨w1.heap.size, 2, none⟩ = some (.string s2) := (hgr5.cell_far _ (by simp; try omega) (fun e => hv8 e.symm)).trans (by go_simp)
      have bf : ∀ o, w5.frozen? ⟨w1.heap.size, o, none⟩ = false := fun o => (hgr5.frozen_far _ (by simp; try omega) (fun e => hv8 e.symm)).trans (by go_simp)
      have d0 : w5.cell? ⟨w.heap.size, 0, none⟩ = some (.slice none 0 0) := (hgr5.cell_far _ (by simp; try omega) (fun e => hv6 e.symm)).trans (by go_simp)
      have d1 : w5.cell? ⟨w.heap.size, 1, none⟩ = some (.int .i64 0) := (hgr5.cell_far _ (by simp; try omega) (fun e => hv6 e.symm)).trans (by go_simp)
      have df : ∀ o, w5.frozen? ⟨w.heap.size, o, none⟩ = false := fun o => (hgr5.frozen_far _ (by simp; try omega) (fun e => hv6 e.symm)).trans (by go_simp)
      have hbel4 : Below w.heap.size w ((((w2.setCell ⟨w1.heap.size, 0, none⟩ (.int .i64 k2)).setCell ⟨w1.heap.size, 1, none⟩ (.int .i64 n2)).setCell ⟨w1.heap.size, 2, none⟩ (.string s2)).alloc (.cells #[.int .i64 k2, .int .i64 n2, .string s2] 119)) := by
        refine Below.alloc ?_ (by simp; omega) _
        repeat (first | (with_reducible exact hbw2) | (with_reducible refine Below.setCell ?_ ?hh _; case hh => (simp; omega)))
      have hbel5 : Below w.heap.size w w5 := hbel4.grown hgr5 (by simp; omega) (fun k' hk' => by have := (hol _ hk').1; omega)
      have hown6 : w5.ownsRow (w1.heap.size + 1 + 1 + 1 + 1) 119 3 v5 (q + 1) (rc (valsV s (q + 1) j)) := by rw [HV.out]; exact hown5
      have hol5 := ownsRow_lt hown6
      obtain ⟨g5, c5, hv5⟩ : ∃ g c, v5 = .slice (some ⟨g, 0, none⟩) (q + 1) c := by
        rcases hown6.2 with ⟨_, h0⟩ | ⟨g, cap, cur, hv, _⟩
        · omega
        · exact ⟨g, cap, hv⟩
      subst hv5
      have e5 : w1.heap.size + 1 + 1 + 1 < w5.heap.size := by omega
      have e6 : w1.heap.size < w5.heap.size := by omega
      have e7 : w.heap.size < w5.heap.size := by omega
      clear hown5 hgr5 hown2 hol hbel4 hT2 q0 q1 qf y0 y1 y2 yf u0 u1 uf
      go_wp2_with fail
      refine ⟨⟨q + 1, .slice (some ⟨g5, 0, none⟩) (q + 1) c5, hlt, by simp, by rw [HJ.out], ?_, by go_simp, by go_simp, fun o => by go_simp, ⟨.int .i64 k2, by go_simp⟩, ⟨.int .i64 n2, by go_simp⟩, ⟨.string s2, by go_simp⟩, fun o => by go_simp, by go_simp, by go_simp, fun o => by go_simp, ?_, by simp; omega⟩, by simp [intOf]; omega⟩
      · refine ownsRow_keep hown6 fun b hb' => ?_
        have h1 := hol5 b hb'
        rw [Below.heap_setCell _ _ _ _ (by simp; omega)]
      · with_reducible refine Below.setCell ?_ ?hh _
        case hh => simp; omega
        exact hbel5
    · obtain rfl : q = W := by omega
      obtain ⟨g, hRF, hOg⟩ := own_rowF (vs := valsV s q j) hown
      obtain ⟨ay, cy, hyy⟩ : ∃ a c, y = .slice a (valsV s q j).length c := by obtain ⟨a, c, h, _⟩ := hRF; exact ⟨a, c, h⟩
      subst hyy
      have e5 : w1.heap.size + 1 + 1 + 1 < wr.heap.size := by omega
      have e7 : w.heap.size < wr.heap.size := by omega
      clear hown x0 x1 x2 xf
      go_wp2_with fail
      refine bodyPost_ret (v := .tuple #[.agg #[.slice ay (valsV s q j).length cy, .int .i64 n], .int .i64 (valsJ s q j)]) (by simp [results, Tryz.results117, go_sem, *]) rfl ⟨⟨_, g, rfl, ?_, ?_⟩, ?_⟩
      · refine hRF.keep (by simp) fun b hb' => ?_
        have := hOg.2.1 b hb'
        repeat rw [Below.heap_setCell _ _ _ _ (by simp; omega)]
      · refine Own.keep (w := wr) ⟨hOg.1, fun b hb' => by have := hOg.2.1 b hb'; omega, hOg.2.2⟩ fun b hb' => ?_
        have := hOg.2.1 b hb'
        repeat rw [Below.heap_setCell _ _ _ _ (by simp; omega)]
      · repeat (first | (with_reducible exact hb) | (with_reducible refine Below.setCell ?_ ?hh _; case hh => (first | (simp; done) | (simp; omega))))
end Go.Proofs.YtbmoimfimeiglaaGreat
namespace Go.Proofs.YtbmoimfimeiglaaGreat
open Go.RowKit Go.Deep
set_option linter.unusedVariables false
theorem Drew.up {w w1 w2 : World} {B : Nat} {v : Value} {l : Nat} (h : Drew B v l w w1) (k : Below w.heap.size w1 w2) : Drew B v l w w2 := by
  have hlt := h.lt
  have hz := h.chg.size
  refine ⟨h.lt, h.cur.keep k.size (fun b hb => k.block b (by omega)), ⟨k.os.trans h.chg.os, k.tape.trans h.chg.tape, k.output.trans h.chg.output, Nat.le_trans hz k.size, fun j hj hF => (k.block j hj).trans (h.chg.block j hj hF), fun f b hb o => ?_⟩⟩
  rcases List.mem_singleton.1 hb with rfl
  exact (frozen_blk (k.block _ hlt)).trans (h.chg.free f _ (by simp) o)
theorem ret_slice {w : World} {N n e s : Nat} {v : Value} {xs : List Value} (h : w.ownsRow N e s v n xs) : ∃ ao cap, v = .slice ao n cap := by
  rcases h.2 with ⟨rfl, h0⟩ | ⟨g, cap, cur, rfl, _⟩
  · exact ⟨none, 0, by rw [h0]⟩
  · exact ⟨_, _, rfl⟩
def VsOk (vs : List V3) : Prop := ∀ y ∈ vs, 0 ≤ y.k ∧ y.k ≤ 3 ∧ -9223372036854775808 ≤ y.n ∧ y.n ≤ 9223372036854775807 ∧ y.s.size ≤ 8
theorem VsOk.push {vs : List V3} {x : V3} (h : VsOk vs) (hx : 0 ≤ x.k ∧ x.k ≤ 3 ∧ -9223372036854775808 ≤ x.n ∧ x.n ≤ 9223372036854775807 ∧ x.s.size ≤ 8) : VsOk (vs ++ [x]) := by
  intro y hy
  rcases List.mem_append.1 hy with hy | hy
  · exact h y hy
  · rcases List.mem_singleton.1 hy with rfl; exact hx
structure RrO (w : World) (N : Nat) (y : Value) (rs : List (List V3)) (us : List Value) : Prop where
  ul : us.length = rs.length
  own : w.ownsRow N 110 1 y rs.length us
  row : ∀ (i : Nat) (r : List V3) (u : Value), rs[i]? = some r → us[i]? = some u → ∃ g, RowF w u r g ∧ Own w N g ∧ ∀ b ∈ g, y.ownBlock ≠ some b
theorem RrO.keep {w w' : World} {N : Nat} {y : Value} {rs : List (List V3)} {us : List Value} (h : RrO w N y rs us) (hs : w.heap.size ≤ w'.heap.size) (hb : ∀ b, N ≤ b → b < w.heap.size → w'.heap[b]? = w.heap[b]?) : RrO w' N y rs us :=
  ⟨h.ul, ownsRow_keep h.own fun b hv => hb b (ownsRow_lt h.own b hv).1 (ownsRow_lt h.own b hv).2, fun i r u hr hu => by
    obtain ⟨g, h1, h2, h3⟩ := h.row i r u hr hu
    have k := fun b hg => hb b (h2.2.1 b hg) (h1.lt b hg)
    exact ⟨g, h1.keep hs k, h2.keep k, h3⟩⟩
theorem RrO.push {w w' : World} {N : Nat} {y y' u : Value} {rs : List (List V3)} {us : List Value} {r : List V3} {g : List Nat} (h : RrO w N y rs us) (hR : RowF w u r g) (hg : Own w N g) (hd : ∀ b ∈ g, y.ownBlock ≠ some b)
    (ho : w'.ownsRow N 110 1 y' (rs.length + 1) (us ++ [u])) (hgr : w.grownBy w' y.ownBlock) (hat : ∀ b, y'.ownBlock = some b → y.ownBlock = some b ∨ w.heap.size ≤ b) : RrO w' N y' (rs ++ [r]) (us ++ [u]) := by
  have key : ∀ (u : Value) (r : List V3) (g : List Nat), RowF w u r g → Own w N g → (∀ b ∈ g, y.ownBlock ≠ some b) → RowF w' u r g ∧ Own w' N g ∧ ∀ b ∈ g, y'.ownBlock ≠ some b := fun u r g h1 h0 h2 => by
    have k := fun b hb => hgr.block b (h1.lt b hb) (fun e => h2 b hb e.symm)
    refine ⟨h1.keep hgr.size k, h0.keep k, fun b hb e => ?_⟩
    rcases hat b e with e' | e'
    · exact h2 b hb e'
    · have := h1.lt b hb; omega
  refine ⟨by simp [h.ul], by simpa using ho, fun i r' u' hr hu => ?_⟩
  rcases Nat.lt_or_ge i rs.length with hi | hi
  · rw [List.getElem?_append_left hi] at hr
    rw [List.getElem?_append_left (by rw [h.ul]; exact hi)] at hu
    obtain ⟨g', h1, h2, h3⟩ := h.row i r' u' hr hu
    obtain ⟨k1, k2, k3⟩ := key u' r' g' h1 h2 h3
    exact ⟨g', k1, k2, k3⟩
  · rw [List.getElem?_append_right hi] at hr
    rw [List.getElem?_append_right (by rw [h.ul]; exact hi)] at hu
    have hi0 : i - rs.length = 0 := by
      rcases Nat.eq_zero_or_pos (i - rs.length) with e | e
      · exact e
      · rw [List.getElem?_eq_none (by simp; omega)] at hr; cases hr
    rw [h.ul] at hu
    rw [hi0] at hr hu
    simp at hr hu
    subst hr hu
    obtain ⟨k1, k2, k3⟩ := key u r g hR hg hd
    exact ⟨g, k1, k2, k3⟩
theorem infoVal9 : (Tryz.prog.info? 119).map (fun i => (i.zero, i.size, i.bytes)) = some (some (.agg #[.int .i64 0, .int .i64 0, .string ⟨#[]⟩]), 3, 32) := by kernel_rfl
theorem infoRow9 : (Tryz.prog.info? 110).map (fun i => (i.zero, i.size, i.bytes)) = some (some (.slice none 0 0), 1, 24) := by kernel_rfl
set_option maxHeartbeats 4000000 in
set_option maxRecDepth 100000 in
theorem l02Rows_any (B : Nat) (v : Value) (l : Nat) (W n : Nat) (w : World) (h : Cur w B v l) (hW : W ≤ 100) (hn : n ≤ 100) :
    Calls Tryz.prog 107 #[.pointer (some ⟨B, 0, none⟩), .int .i64 W, .int .i64 n] w fun e w' => (∃ (y : Value) (rs : List (List V3)) (us : List Value), e = .returned y ∧ rs.length = n ∧ (∀ r ∈ rs, r.length = W ∧ VsOk r) ∧ RrO w' w.heap.size y rs us) ∧ Drew B v l w w' := by
  obtain ⟨i0, hi, hz0, hz1, hz2⟩ := info_parts infoVal9
  obtain ⟨j0, hj, hy0, hy1, hy2⟩ := info_parts infoRow9
  have hBl := h.lt
  go_enter Tryz.func107, Tryz.ntmps107
  go_wp2
  go_loopw [7, 8] (fun y i wr => ∃ (k : Nat) (rs : List (List V3)) (us : List Value), k ≤ n ∧ i = .int .i64 k ∧ rs.length = k ∧ (∀ r ∈ rs, r.length = W ∧ VsOk r) ∧ RrO wr w.heap.size y rs us ∧ Drew B v l w wr) (fun _ i _ => n - (intOf i).toNat)
  case atStart =>
    refine ⟨0, [], [], Nat.zero_le _, rfl, rfl, (fun r hr => by cases hr), ⟨rfl, ⟨rfl, .inr ⟨w.heap.size, 0, #[], rfl, Nat.le_refl _, heap_alloc_new w _, Nat.le_refl _, by unfold maxLen; omega, by simp, by simp⟩⟩, fun i r u hr => by simp at hr⟩, h.start.alloc _⟩
  case round =>
    clear h
    obtain ⟨k, rs, us, hk, rfl, rfl, hro, hR, hD⟩ := hrel
    have hzr := hD.chg.size
    generalize wr = wo at *
    by_cases hlt : rs.length < n
    · go_wp2
      go_loopw [9, 10] (fun x j w2 => ∃ (q : Nat) (vs : List V3), q ≤ W ∧ j = .int .i64 q ∧ vs.length = q ∧ VsOk vs ∧ w2.ownsRow wo.heap.size 119 3 x q (rc vs) ∧ Drew B v l w w2 ∧ wo.heap.size ≤ w2.heap.size ∧ ∀ b, b < wo.heap.size → b ≠ B → w2.heap[b]? = wo.heap[b]?) (fun _ j _ => W - (intOf j).toNat)
      case atStart =>
        refine ⟨0, [], Nat.zero_le _, rfl, rfl, (fun y hy => by cases hy), ⟨by simp [rc], .inr ⟨wo.heap.size, 0, #[], rfl, Nat.le_refl _, heap_alloc_new wo _, Nat.le_refl _, by unfold maxLen; omega, by simp, by simp [rc]⟩⟩, hD.alloc _, by simp, fun b hb _ => Below.heap_alloc _ _ _ hb⟩
      case round =>
        obtain ⟨q, vs, hq, rfl, hvl, hvo, hown, hD2, hz2', hk2⟩ := hrel
        have hol := ownsRow_lt hown
        by_cases hlt2 : q < W
        · go_wp2_with fail
          refine Calls.mono (l01Value_any B v l wr hD2.cur) ?_
          rintro e w3 ⟨⟨kk, nn, ss, rfl, k0, k1, n0, n1, hs⟩, hd3⟩
          have hz3 := hd3.chg.size
          have hown3 : w3.ownsRow wo.heap.size 119 3 _ q (rc vs) := ownsRow_keep hown fun b hb => hd3.old (hol b hb).2 (by have := (hol b hb).1; omega)
          have hol3 := ownsRow_lt hown3
          obtain ⟨ax, cx, rfl⟩ := ret_slice hown
          have bal : Below w3.heap.size w3 (w3.alloc (.cells #[.int .i64 kk, .int .i64 nn, .string ss] 119)) := (Below.refl _ _).alloc (Nat.le_refl _) _
          have hown4 := ownsRow_keep (w' := w3.alloc (.cells #[.int .i64 kk, .int .i64 nn, .string ss] 119)) hown3 fun b hb => bal.block b (hol3 b hb).2
          have hnb := heap_alloc_new w3 (.cells #[.int .i64 kk, .int .i64 nn, .string ss] 119)
          have hDm := hD2.trans hd3
          have hk3 : ∀ b, b < wo.heap.size → b ≠ B → w3.heap[b]? = wo.heap[b]? := fun b hb hne => (hd3.old (by omega) hne).trans (hk2 b hb hne)
          clear hown hown3 hD2 hd3 hk2 hR hD
          go_wp2_with (at_builtin; refine wpList_append_own_at _ rfl _ _ 110 rfl wo.heap.size 119 i0 _ 3 32 Tryz.underlying110 hi hz0 hz1 hz2 rfl (by decide) (.slice ax q cx) q (rc vs) rfl hown4 ⟨w3.heap.size, 0, none⟩ 1 1 [.int .i64 kk, .int .i64 nn, .string ss] rfl (by simp) ?c1 ?c2 ?c3 ?c4 ?c5 ?_)
          case c1 => exact World.news_of_block (cs := #[.int .i64 kk, .int .i64 nn, .string ss]) (t := 119) (fr := (0, 0)) hnb
          case c2 => simp [Value.oneCell']
          case c3 => unfold maxLen; omega
          case c4 => omega
          case c5 => simp; omega
          intro v5 w5 hown5 hgr5 _ hat5
          have hsz5 := hgr5.size
          simp at hsz5
          have hD5 : Drew B v l w w5 := hDm.up (((Below.refl _ w3).alloc (by omega) _).grown hgr5 (by simp; omega) (fun k hk => by have := (hol3 k hk).1; omega))
          have hk5 : ∀ b, b < wo.heap.size → b ≠ B → w5.heap[b]? = wo.heap[b]? := fun b hb hne => (hgr5.block b (by simp; omega) (fun e => by have := (hol3 b e.symm).1; omega)).trans ((bal.block b (by omega)).trans (hk3 b hb hne))
          have hown6 : w5.ownsRow wo.heap.size 119 3 v5 (q + 1) (rc (vs ++ [⟨kk, nn, ss⟩])) := by rw [rc_push]; exact hown5
          obtain ⟨a5, c5, rfl⟩ := ret_slice hown6
          clear hown5 hgr5 hat5 hown4 hnb bal hDm hk3
          go_wp2
          exact ⟨⟨q + 1, vs ++ [⟨kk, nn, ss⟩], hlt2, by simp, by simp [hvl], hvo.push ⟨k0, k1, n0, n1, hs⟩, hown6, hD5, by omega, hk5⟩, by simp [intOf]; omega⟩
        · obtain rfl : q = W := by omega
          obtain ⟨g, hRF, hOg⟩ := own_rowF hown
          have hR2 := hR.keep hz2' fun b h1 h2 => hk2 b h2 (by omega)
          have hul := ownsRow_lt hR.own
          obtain ⟨ax, cx, rfl⟩ := ret_slice hown
          obtain ⟨ay, cy, rfl⟩ := ret_slice hR.own
          have bal : Below wr.heap.size wr (wr.alloc (.cells #[.slice ax q cx] 110)) := (Below.refl _ _).alloc (Nat.le_refl _) _
          have hR3 := hR2.keep bal.size fun b _ h2 => bal.block b h2
          have hRF3 := hRF.keep bal.size fun b hb => bal.block b (hRF.lt b hb)
          have hnb := heap_alloc_new wr (.cells #[.slice ax q cx] 110)
          have hge : ∀ b ∈ g, wo.heap.size ≤ b := fun b hb => hOg.2.1 b hb
          have hO3 := hOg.keep fun b hb => bal.block b (hRF.lt b hb)
          clear hown hRF hR hR2 hk2 hOg hD hol
          go_wp2_with (at_builtin; refine wpList_append_own_at _ rfl _ _ 163 rfl w.heap.size 110 j0 _ 1 24 Tryz.underlying163 hj hy0 hy1 hy2 rfl (by decide) (.slice ay rs.length cy) rs.length us rfl hR3.own ⟨wr.heap.size, 0, none⟩ 1 1 [.slice ax q cx] rfl (by simp) ?c1 ?c2 ?c3 ?c4 ?c5 ?_)
          case c1 => exact World.news_of_block (cs := #[.slice ax q cx]) (t := 110) (fr := (0, 0)) hnb
          case c2 => simp [Value.oneCell']
          case c3 => unfold maxLen; omega
          case c4 => omega
          case c5 => simp; omega
          intro v5 w5 hown5 hgr5 _ hat5
          have hsz5 := hgr5.size
          simp at hsz5
          have hP := hR3.push hRF3 ⟨hO3.1, fun b hb => by have := hge b hb; omega, hO3.2.2⟩ (fun b hb e => by have := hge b hb; have := (hul b e).2; omega) hown5 hgr5 (fun b hb5 => by
            rcases hat5 with h | h
            · left; rw [← h]; exact hb5
            · right; rw [h] at hb5; cases hb5; (first | exact Nat.le_refl _ | (simp; done) | (simp; omega)))
          have hD5 : Drew B v l w w5 := hD2.up (((Below.refl _ wr).alloc (by omega) _).grown hgr5 (by simp; omega) (fun k hk => by have := (hul k hk).1; omega))
          obtain ⟨a5, c5, rfl⟩ := ret_slice hP.own
          clear hown5 hgr5 hat5 hnb bal hR3 hRF3
          go_wp2
          exact ⟨⟨rs.length + 1, rs ++ [vs], us ++ [.slice ax q cx], hlt, by simp, by simp, fun r hr => by
            rcases List.mem_append.1 hr with hr | hr
            · exact hro r hr
            · rcases List.mem_singleton.1 hr with rfl; exact ⟨hvl, hvo⟩, hP, hD5⟩, by simp [intOf]; omega⟩
    · have hrl : rs.length = n := by omega
      obtain ⟨ay, cy, rfl⟩ := ret_slice hR.own
      have HR : Hid (RrO wo w.heap.size (.slice ay rs.length cy) rs us) := hR
      clear hR
      go_wp2
      go_returns
      exact ⟨⟨_, rs, us, rfl, hrl, hro, HR.out⟩, hD⟩
end Go.Proofs.YtbmoimfimeiglaaGreat
