/- Own text. One counted row that is read: the contract of impl.getCounted. -/
import Derived.Test.YtglecbghjgdmnaaGetP
import Derived.Test.YtglecbghjgdmnaaBagO
import Derived.Test.YtglecbghjgdmnaaAsserts
import Derived.Handy
import Derived.Maps.AppendAt
namespace Go.Proofs.Ytglecbghjgdmnaa
open Go.RowKit Go.Deep
set_option linter.unusedVariables false
attribute [local go_sem] ta_nullForm_intForm ta_intForm_intForm ta_boolForm_intForm ta_textForm_intForm
theorem implGet_v {s : ByteArray} {i k n j : Int} {x : ByteArray} (hT : getT s i = (k, n, x, j)) (w : World) (hs : s.size ≤ 1048576) :
    Calls Try.prog 65 #[.string s, .int .i64 i] w fun e w' => e = .returned (.tuple #[(.agg #[.int .i64 k, .int .i64 n, .string x]), .int .i64 j]) ∧ Below w.heap.size w w' := by
  have h := implGet_any s i w hs
  rw [hT] at h
  exact h
theorem specGet_v {s : ByteArray} {i k n j : Int} {x : ByteArray} (hT : getT s i = (k, n, x, j)) (w : World) (hs : s.size ≤ 1048576) :
    Calls Try.prog 41 #[.string s, .int .i64 i] w fun e w' => e = .returned (.tuple #[(.agg #[.int .i64 k, .int .i64 n, .string x]), .int .i64 j]) ∧ Below w.heap.size w w' := by
  have h := specGet_any s i w hs
  rw [hT] at h
  exact h
theorem getT_kind (s : ByteArray) (i : Int) : (getT s i).1 = 0 ∨ (getT s i).1 = 1 ∨ (getT s i).1 = 2 ∨ (getT s i).1 = 3 := by
  unfold getT
  split
  · unfold getN
    split
    · exact .inl rfl
    split
    · exact .inr (.inl rfl)
    split
    · exact .inr (.inr (.inl rfl))
    split
    · exact .inr (.inr (.inr rfl))
    · exact .inl rfl
  · exact .inl rfl
theorem valsJ_succ (s : ByteArray) : ∀ (q : Nat) (i : Int), valsJ s (q + 1) i = tJ s (valsJ s q i)
  | 0, _ => rfl
  | q + 1, i => by rw [valsJ, valsJ_succ s q]; rfl
theorem valsV_succ (s : ByteArray) : ∀ (q : Nat) (i : Int), valsV s (q + 1) i = valsV s q i ++ [tV s (valsJ s q i)]
  | 0, _ => rfl
  | q + 1, i => by rw [valsV, valsV_succ s q]; rfl
theorem rc_push (vs : List V3) (x : V3) : rc (vs ++ [x]) = rc vs ++ [.int .i64 x.k, .int .i64 x.n, .string x.s] := by
  unfold rc
  have hl : (vs ++ [x]).length * 3 = vs.length * 3 + 3 := by simp; omega
  rw [hl, List.range_add, List.map_append]
  congr 1
  · refine List.map_congr_left fun j hj => ?_
    have hj' := List.mem_range.1 hj
    unfold cf
    have e : (vs ++ [x]).getD (j / 3) ⟨0, 0, ⟨#[]⟩⟩ = vs.getD (j / 3) ⟨0, 0, ⟨#[]⟩⟩ := by
      rw [List.getD_eq_getElem?_getD, List.getD_eq_getElem?_getD, List.getElem?_append_left (by omega)]
    rw [e]
  · obtain ⟨h0, h1, h2⟩ := cf_at (vs := vs ++ [x]) (k := vs.length) (x := x) (by simp)
    rw [show List.range 3 = [0, 1, 2] from rfl]
    simp [h0, h1, h2]
set_option maxHeartbeats 4000000 in
set_option maxRecDepth 100000 in
theorem getCounted_no (s : ByteArray) (i : Int) (W : Nat) (w : World) (hs : s.size ≤ 1048576) (hk : (tV s i).k ≠ 1) :
    Calls Try.prog 43 #[.string s, .int .i64 i, .int .i64 W] w fun e w' => e = .returned (.tuple #[.agg #[.slice none 0 0, .int .i64 0], .int .i64 (-1)]) ∧ Below w.heap.size w w' := by
  obtain ⟨k, n, x, j, hT⟩ : ∃ k n x j, getT s i = (k, n, x, j) := ⟨_, _, _, _, rfl⟩
  have hkd := getT_kind s i
  have hk' : k ≠ 1 := by unfold tV at hk; rw [hT] at hk; exact hk
  rw [hT] at hkd
  dsimp only at hkd
  go_enter Try.func43, Try.ntmps43
  go_wp2_with fail
  refine Calls.mono (implGet_v hT _ hs) ?_
  rintro e w1 ⟨rfl, hb1⟩
  have hz1 := hb1.size
  simp only [World.size_alloc] at hz1
  have hf1 := (bcell hb1).2
  have hy0 : w.heap.size < w1.heap.size := by omega
  have hy1 : w.heap.size < w1.heap.size + 1 := by omega
  have hy2 : w.heap.size < w1.heap.size + 1 + 1 := by omega
  have hy3 : w.heap.size < w1.heap.size + 1 + 1 + 1 := by omega
  have hy4 : w1.heap.size < w1.heap.size + 1 + 1 := by omega
  have hy5 : w1.heap.size < w1.heap.size + 1 + 1 + 1 := by omega
  have r0 : w1.cell? ⟨w.heap.size, 0, none⟩ = some (.slice none 0 0) := cell_later hb1 (by go_simp)
  have r1 : w1.cell? ⟨w.heap.size, 1, none⟩ = some (.int .i64 0) := cell_later hb1 (by go_simp)
  have rf : ∀ o, w1.frozen? ⟨w.heap.size, o, none⟩ = false := fun o => (hf1 _ o (by simp)).trans (by go_simp)
  clear hT hk
  rcases hkd with rfl | rfl | rfl | rfl
  · go_wp2_with (first | (go_at_call 66; refine Calls.mono (formOf_0 n x _) ?_; rintro e w2 ⟨rfl, rfl⟩) | fail)
    refine bodyPost_ret (v := .tuple #[.agg #[.slice none 0 0, .int .i64 0], .int .i64 (-1)]) (by simp [results, Try.results43, go_sem, *]) rfl ⟨rfl, by repeat (first | (with_reducible exact Below.refl _ _) | (with_reducible refine Below.drew ?_) | (with_reducible refine Below.alloc ?_ ?hh _; case hh => first | (simp; done) | (simp; omega) | omega) | (with_reducible refine Below.setCell ?_ ?hh _; case hh => first | (simp; done) | (simp; omega) | omega) | refine bstep (by assumption) (by first | (simp; done) | (simp; omega) | omega) ?_)⟩
  · exact absurd rfl hk'
  · go_wp2_with (first | (go_at_call 66; refine Calls.mono (formOf_2 n x _) ?_; rintro e w2 ⟨rfl, rfl⟩) | fail)
    refine bodyPost_ret (v := .tuple #[.agg #[.slice none 0 0, .int .i64 0], .int .i64 (-1)]) (by simp [results, Try.results43, go_sem, *]) rfl ⟨rfl, by repeat (first | (with_reducible exact Below.refl _ _) | (with_reducible refine Below.drew ?_) | (with_reducible refine Below.alloc ?_ ?hh _; case hh => first | (simp; done) | (simp; omega) | omega) | (with_reducible refine Below.setCell ?_ ?hh _; case hh => first | (simp; done) | (simp; omega) | omega) | refine bstep (by assumption) (by first | (simp; done) | (simp; omega) | omega) ?_)⟩
  · go_wp2_with (first | (go_at_call 66; refine Calls.mono (formOf_3 n x _) ?_; rintro e w2 ⟨rfl, rfl⟩) | fail)
    refine bodyPost_ret (v := .tuple #[.agg #[.slice none 0 0, .int .i64 0], .int .i64 (-1)]) (by simp [results, Try.results43, go_sem, *]) rfl ⟨rfl, by repeat (first | (with_reducible exact Below.refl _ _) | (with_reducible refine Below.drew ?_) | (with_reducible refine Below.alloc ?_ ?hh _; case hh => first | (simp; done) | (simp; omega) | omega) | (with_reducible refine Below.setCell ?_ ?hh _; case hh => first | (simp; done) | (simp; omega) | omega) | refine bstep (by assumption) (by first | (simp; done) | (simp; omega) | omega) ?_)⟩
set_option maxHeartbeats 8000000 in
set_option maxRecDepth 100000 in
theorem getCounted_yes (s : ByteArray) (i : Int) (W : Nat) (w : World) (hs : s.size ≤ 1048576) (hW : W ≤ 255) (hk : (tV s i).k = 1) :
    Calls Try.prog 43 #[.string s, .int .i64 i, .int .i64 W] w fun e w' => (∃ u g, e = .returned (.tuple #[.agg #[u, .int .i64 (tV s i).n], .int .i64 (endS s W i)]) ∧ RowF w' u (valsV s W (tJ s i)) g ∧ Own w' w.heap.size g) ∧ Below w.heap.size w w' := by
  obtain ⟨i0, hi, hz0, hz1, hz2⟩ := info_parts Try.infoVal
  obtain ⟨k, n, x, j, hT⟩ : ∃ k n x j, getT s i = (k, n, x, j) := ⟨_, _, _, _, rfl⟩
  have hk' : k = 1 := by unfold tV at hk; rw [hT] at hk; exact hk
  have hn' : (tV s i).n = n := by unfold tV; rw [hT]
  have hj' : tJ s i = j := by unfold tJ; rw [hT]
  have he' : endS s W i = valsJ s W j := by unfold endS; rw [hj']
  rw [hn', hj', he']
  subst hk'
  clear hk hn' hj' he'
  go_enter Try.func43, Try.ntmps43
  go_wp2_with fail
  refine Calls.mono (implGet_v hT _ hs) ?_
  rintro e w1 ⟨rfl, hb1⟩
  have hzz := hb1.size
  simp only [World.size_alloc] at hzz
  have hf1 := (bcell hb1).2
  have hy0 : w.heap.size < w1.heap.size := by omega
  have hy1 : w.heap.size < w1.heap.size + 1 := by omega
  have hy2 : w.heap.size < w1.heap.size + 1 + 1 := by omega
  have hy3 : w.heap.size < w1.heap.size + 1 + 1 + 1 := by omega
  have hy4 : w1.heap.size < w1.heap.size + 1 + 1 := by omega
  have hy5 : w1.heap.size < w1.heap.size + 1 + 1 + 1 := by omega
  have r0 : w1.cell? ⟨w.heap.size, 0, none⟩ = some (.slice none 0 0) := cell_later hb1 (by go_simp)
  have r1 : w1.cell? ⟨w.heap.size, 1, none⟩ = some (.int .i64 0) := cell_later hb1 (by go_simp)
  have rf : ∀ o, w1.frozen? ⟨w.heap.size, o, none⟩ = false := fun o => (hf1 _ o (by simp)).trans (by go_simp)
  clear hT
  go_wp2_with (first | (go_at_call 66; refine Calls.mono (formOf_1 n x _) ?_; rintro e w2 ⟨rfl, rfl⟩) | fail)
  go_loopw [1, 31] (fun at' kk wr => ∃ (q : Nat) (y : Value), q ≤ W ∧ kk = .int .i64 q ∧ at' = .int .i64 (valsJ s q j) ∧ wr.ownsRow (w1.heap.size + 1 + 1 + 1 + 1) 66 3 y q (rc (valsV s q j)) ∧
      wr.cell? ⟨w1.heap.size + 1 + 1 + 1, 0, none⟩ = some y ∧ wr.cell? ⟨w1.heap.size + 1 + 1 + 1, 1, none⟩ = some (.int .i64 n) ∧ (∀ o, wr.frozen? ⟨w1.heap.size + 1 + 1 + 1, o, none⟩ = false) ∧
      (∃ v0, wr.cell? ⟨w1.heap.size, 0, none⟩ = some v0) ∧ (∃ v1, wr.cell? ⟨w1.heap.size, 1, none⟩ = some v1) ∧ (∃ v2, wr.cell? ⟨w1.heap.size, 2, none⟩ = some v2) ∧ (∀ o, wr.frozen? ⟨w1.heap.size, o, none⟩ = false) ∧
      wr.cell? ⟨w.heap.size, 0, none⟩ = some (.slice none 0 0) ∧ wr.cell? ⟨w.heap.size, 1, none⟩ = some (.int .i64 0) ∧ (∀ o, wr.frozen? ⟨w.heap.size, o, none⟩ = false) ∧ Below w.heap.size w wr ∧ w1.heap.size + 1 + 1 + 1 + 1 ≤ wr.heap.size) (fun _ kk _ => W - (intOf kk).toNat)
  case atStart =>
    refine ⟨0, .slice none 0 0, Nat.zero_le _, rfl, rfl, ⟨rfl, .inl ⟨rfl, rfl⟩⟩, by go_simp, by go_simp, fun o => by go_simp, ⟨.int .i64 1, by go_simp⟩, ⟨.int .i64 n, by go_simp⟩, ⟨.string x, by go_simp⟩, fun o => by go_simp, by go_simp, by go_simp, fun o => by go_simp, by repeat (first | (with_reducible exact Below.refl _ _) | (with_reducible refine Below.drew ?_) | (with_reducible refine Below.alloc ?_ ?hh _; case hh => first | (simp; done) | (simp; omega) | omega) | (with_reducible refine Below.setCell ?_ ?hh _; case hh => first | (simp; done) | (simp; omega) | omega) | refine bstep (by assumption) (by first | (simp; done) | (simp; omega) | omega) ?_), by simp⟩
  case round =>
    clear r0 r1 rf hf1
    obtain ⟨q, y, hq, rfl, rfl, hown, p0, p1, pf, ⟨v0, x0⟩, ⟨v1, x1⟩, ⟨v2, x2⟩, xf, r0, r1, rf, hb, hzb⟩ := hrel
    by_cases hlt : q < W
    · obtain ⟨k2, n2, s2, j2, hT2⟩ : ∃ k' n' x' j', getT s (valsJ s q j) = (k', n', x', j') := ⟨_, _, _, _, rfl⟩
      have HV : Hid (rc (valsV s (q + 1) j) = rc (valsV s q j) ++ [.int .i64 k2, .int .i64 n2, .string s2]) := by
        show rc (valsV s (q + 1) j) = _
        rw [valsV_succ, rc_push]
        unfold tV; rw [hT2]
      have HJ : Hid (valsJ s (q + 1) j = j2) := by
        show valsJ s (q + 1) j = j2
        rw [valsJ_succ]; unfold tJ; rw [hT2]
      have hol := ownsRow_lt hown
      have hv8 : y.ownBlock ≠ some w1.heap.size := fun e => by have := (hol _ e).1; omega
      have hv11 : y.ownBlock ≠ some (w1.heap.size + 1 + 1 + 1) := fun e => by have := (hol _ e).1; omega
      have hv6 : y.ownBlock ≠ some w.heap.size := fun e => by have := (hol _ e).1; omega
      go_wp2_with fail
      refine Calls.mono (implGet_v hT2 _ hs) ?_
      rintro e w2 ⟨rfl, hb2⟩
      have hzw := hb2.size
      have hfz := (bcell hb2).2
      have hcz := (bcell hb2).1
      have q0 : w2.cell? ⟨w1.heap.size + 1 + 1 + 1, 0, none⟩ = some y := (hcz _ _ (by omega)).trans p0
      have q1 : w2.cell? ⟨w1.heap.size + 1 + 1 + 1, 1, none⟩ = some (.int .i64 n) := (hcz _ _ (by omega)).trans p1
      have qf : ∀ o, w2.frozen? ⟨w1.heap.size + 1 + 1 + 1, o, none⟩ = false := fun o => (hfz _ _ (by omega)).trans (pf o)
      have y0 : w2.cell? ⟨w1.heap.size, 0, none⟩ = some v0 := (hcz _ _ (by omega)).trans x0
      have y1 : w2.cell? ⟨w1.heap.size, 1, none⟩ = some v1 := (hcz _ _ (by omega)).trans x1
      have y2 : w2.cell? ⟨w1.heap.size, 2, none⟩ = some v2 := (hcz _ _ (by omega)).trans x2
      have yf : ∀ o, w2.frozen? ⟨w1.heap.size, o, none⟩ = false := fun o => (hfz _ _ (by omega)).trans (xf o)
      have u0 : w2.cell? ⟨w.heap.size, 0, none⟩ = some (.slice none 0 0) := (hcz _ _ (by omega)).trans r0
      have u1 : w2.cell? ⟨w.heap.size, 1, none⟩ = some (.int .i64 0) := (hcz _ _ (by omega)).trans r1
      have uf : ∀ o, w2.frozen? ⟨w.heap.size, o, none⟩ = false := fun o => (hfz _ _ (by omega)).trans (rf o)
      have hown2 := ownsRow_keep hown (fun b hb' => hb2.block b (hol b hb').2)
      have hbw2 : Below w.heap.size w w2 := hb.trans (hb2.mono hb.size)
      have n1 : w1.heap.size < w2.heap.size := by omega
      have n2' : w1.heap.size + 1 + 1 + 1 < w2.heap.size := by omega
      have n3 : w.heap.size < w2.heap.size := by omega
      clear hfz hcz p0 p1 pf x0 x1 x2 xf r0 r1 rf hown
      go_wp2_with (at_builtin; refine wpList_append_own _ rfl _ _ 48 rfl (w1.heap.size + 1 + 1 + 1 + 1) 66 i0 _ 3 32 Try.underlying48 hi hz0 hz1 hz2 rfl (by decide) y q (rc (valsV s q j)) rfl ?hown ⟨w2.heap.size, 0, none⟩ 1 1 [.int .i64 k2, .int .i64 n2, .string s2] rfl rfl ?c1 ?c2 ?c3 ?c4 ?c5 ?_)
      case hown =>
        refine ownsRow_keep hown2 fun b hb' => ?_
        have h1 := ownsRow_lt hown2 b hb'
        rw [Below.heap_alloc _ _ _ (by simp; omega)]
        repeat rw [Below.heap_setCell _ _ _ _ (by simp; omega)]
      case c1 =>
        intro j' u hu
        match j', hu with
        | 0, hu => simp at hu; subst hu; go_simp
        | 1, hu => simp at hu; subst hu; go_simp
        | 2, hu => simp at hu; subst hu; go_simp
      case c2 => intro u hu; simp at hu; rcases hu with rfl | rfl | rfl <;> rfl
      case c3 => unfold maxLen; omega
      case c4 => omega
      case c5 => simp; omega
      intro v5 w5 hown5 hgr5 _
      have hsz5 := hgr5.size
      simp at hsz5
      have a0 : w5.cell? ⟨w1.heap.size + 1 + 1 + 1, 0, none⟩ = some y := (hgr5.cell_far _ (by simp; try omega) (fun e => hv11 e.symm)).trans (by go_simp)
      have a1 : w5.cell? ⟨w1.heap.size + 1 + 1 + 1, 1, none⟩ = some (.int .i64 n) := (hgr5.cell_far _ (by simp; try omega) (fun e => hv11 e.symm)).trans (by go_simp)
      have af : ∀ o, w5.frozen? ⟨w1.heap.size + 1 + 1 + 1, o, none⟩ = false := fun o => (hgr5.frozen_far _ (by simp; try omega) (fun e => hv11 e.symm)).trans (by go_simp)
      have b0 : w5.cell? ⟨w1.heap.size, 0, none⟩ = some (.int .i64 k2) := (hgr5.cell_far _ (by simp; try omega) (fun e => hv8 e.symm)).trans (by go_simp)
      have b1 : w5.cell? ⟨w1.heap.size, 1, none⟩ = some (.int .i64 n2) := (hgr5.cell_far _ (by simp; try omega) (fun e => hv8 e.symm)).trans (by go_simp)
      have b2 : w5.cell? ⟨w1.heap.size, 2, none⟩ = some (.string s2) := (hgr5.cell_far _ (by simp; try omega) (fun e => hv8 e.symm)).trans (by go_simp)
      have bf : ∀ o, w5.frozen? ⟨w1.heap.size, o, none⟩ = false := fun o => (hgr5.frozen_far _ (by simp; try omega) (fun e => hv8 e.symm)).trans (by go_simp)
      have d0 : w5.cell? ⟨w.heap.size, 0, none⟩ = some (.slice none 0 0) := (hgr5.cell_far _ (by simp; try omega) (fun e => hv6 e.symm)).trans (by go_simp)
      have d1 : w5.cell? ⟨w.heap.size, 1, none⟩ = some (.int .i64 0) := (hgr5.cell_far _ (by simp; try omega) (fun e => hv6 e.symm)).trans (by go_simp)
      have df : ∀ o, w5.frozen? ⟨w.heap.size, o, none⟩ = false := fun o => (hgr5.frozen_far _ (by simp; try omega) (fun e => hv6 e.symm)).trans (by go_simp)
      have hbel4 : Below w.heap.size w ((((w2.setCell ⟨w1.heap.size, 0, none⟩ (.int .i64 k2)).setCell ⟨w1.heap.size, 1, none⟩ (.int .i64 n2)).setCell ⟨w1.heap.size, 2, none⟩ (.string s2)).alloc (.cells #[.int .i64 k2, .int .i64 n2, .string s2] 66)) := by
        refine Below.alloc ?_ (by simp; omega) _
        repeat (first | (with_reducible exact hbw2) | (with_reducible refine Below.setCell ?_ ?hh _; case hh => (simp; omega)))
      have hbel5 : Below w.heap.size w w5 := hbel4.grown hgr5 (by simp; omega) (fun k' hk' => by have := (hol _ hk').1; omega)
      have hown6 : w5.ownsRow (w1.heap.size + 1 + 1 + 1 + 1) 66 3 v5 (q + 1) (rc (valsV s (q + 1) j)) := by rw [HV.out]; exact hown5
      have hol5 := ownsRow_lt hown6
      obtain ⟨g5, c5, hv5⟩ : ∃ g c, v5 = .slice (some ⟨g, 0, none⟩) (q + 1) c := by
        rcases hown6.2 with ⟨_, h0⟩ | ⟨g, cap, cur, hv, _⟩
        · omega
        · exact ⟨g, cap, hv⟩
      subst hv5
      have e5 : w1.heap.size + 1 + 1 + 1 < w5.heap.size := by omega
      have e6 : w1.heap.size < w5.heap.size := by omega
      have e7 : w.heap.size < w5.heap.size := by omega
      clear hown5 hgr5 hown2 hol hbel4 hT2 q0 q1 qf y0 y1 y2 yf u0 u1 uf
      go_wp2_with fail
      refine ⟨⟨q + 1, .slice (some ⟨g5, 0, none⟩) (q + 1) c5, hlt, by simp, by rw [HJ.out], ?_, by go_simp, by go_simp, fun o => by go_simp, ⟨.int .i64 k2, by go_simp⟩, ⟨.int .i64 n2, by go_simp⟩, ⟨.string s2, by go_simp⟩, fun o => by go_simp, by go_simp, by go_simp, fun o => by go_simp, ?_, by simp; omega⟩, by simp [intOf]; omega⟩
      · refine ownsRow_keep hown6 fun b hb' => ?_
        have h1 := hol5 b hb'
        rw [Below.heap_setCell _ _ _ _ (by simp; omega)]
      · with_reducible refine Below.setCell ?_ ?hh _
        case hh => simp; omega
        exact hbel5
    · obtain rfl : q = W := by omega
      obtain ⟨g, hRF, hOg⟩ := own_rowF (vs := valsV s q j) hown
      obtain ⟨ay, cy, hyy⟩ : ∃ a c, y = .slice a (valsV s q j).length c := by obtain ⟨a, c, h, _⟩ := hRF; exact ⟨a, c, h⟩
      subst hyy
      have e5 : w1.heap.size + 1 + 1 + 1 < wr.heap.size := by omega
      have e7 : w.heap.size < wr.heap.size := by omega
      clear hown x0 x1 x2 xf
      go_wp2_with fail
      refine bodyPost_ret (v := .tuple #[.agg #[.slice ay (valsV s q j).length cy, .int .i64 n], .int .i64 (valsJ s q j)]) (by simp [results, Try.results43, go_sem, *]) rfl ⟨⟨_, g, rfl, ?_, ?_⟩, ?_⟩
      · refine hRF.keep (by simp) fun b hb' => ?_
        have := hOg.2.1 b hb'
        repeat rw [Below.heap_setCell _ _ _ _ (by simp; omega)]
      · refine Own.keep (w := wr) ⟨hOg.1, fun b hb' => by have := hOg.2.1 b hb'; omega, hOg.2.2⟩ fun b hb' => ?_
        have := hOg.2.1 b hb'
        repeat rw [Below.heap_setCell _ _ _ _ (by simp; omega)]
      · repeat (first | (with_reducible exact hb) | (with_reducible refine Below.setCell ?_ ?hh _; case hh => (first | (simp; done) | (simp; omega))))
end Go.Proofs.Ytglecbghjgdmnaa
