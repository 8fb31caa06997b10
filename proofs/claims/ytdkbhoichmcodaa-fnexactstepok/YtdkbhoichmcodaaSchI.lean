/- Own text. The contracts of impl.columnsOk and impl.SchemasOk. -/
import Derived.Test.YtdkbhoichmcodaaSchP
import Derived.Test.YtdkbhoichmcodaaHasI
import Derived.Test.YtdkbhoichmcodaaHasF
import Derived.Handy
import Derived.Deep.RegionHeld3
namespace Go.Proofs.Ytdkbhoichmcodaa
open Go.RowKit Go.Deep
set_option linter.unusedVariables false
set_option maxHeartbeats 2000000 in
set_option maxRecDepth 100000 in
theorem columnsOk_any (v : Value) (cs : List ByteArray) (g : List Nat) (w : World) (hw : SsWf cs) (hr : StrsF w v cs g) :
    Calls Try.prog 112 #[v] w fun e w' => e = .returned (.bool (okCols cs)) ∧ w' = w := by
  obtain ⟨a, c, b, o, rfl, hl, hc, _, ha⟩ := hr.pick
  unfold maxLen at hc
  by_cases h0 : (cs.length : Int) = 0
  · have hf : inB cs.length 1 12 = false := by simp [inB]; omega
    go_enter Try.func112, Try.ntmps112
    go_wp2
    go_returns
    exact ⟨ret_bool (by simp [okCols, hf]), rfl⟩
  have hz : ((cs.length : Int) == 0) = false := by simpa using h0
  have hne : ¬ cs = [] := by rintro rfl; simp at h0
  by_cases h1 : (12 : Int) < cs.length
  · have hf : inB cs.length 1 12 = false := by simp [inB]; omega
    go_enter Try.func112, Try.ntmps112
    go_wp2
    go_returns
    exact ⟨ret_bool (by simp [okCols, hf]), rfl⟩
  have HB : Hid (okCols cs = colsB [] cs) := by
    have hf : inB cs.length 1 12 = true := by simp [inB]; omega
    simp [Hid, okCols, hf]
  go_enter Try.func112, Try.ntmps112
  go_wp2
  go_loopw [15] (fun i wr => ∃ k : Nat, k ≤ cs.length ∧ i = .int .i64 k ∧ wr = w ∧ colsB [] cs = colsB (cs.take k) (cs.drop k)) (fun i _ => cs.length - (intOf i).toNat)
  case atStart => exact ⟨0, Nat.zero_le _, rfl, rfl, by simp⟩
  case round =>
    obtain ⟨k, hk, rfl, hwr, heq⟩ := hrel
    replace hwr := hwr.symm
    subst hwr
    have HE : Hid (colsB [] cs = colsB (cs.take k) (cs.drop k)) := heq
    clear heq
    by_cases hkl : k < cs.length
    · obtain ⟨m, hm⟩ : ∃ m, cs[k]? = some m := ⟨cs[k], by simp [hkl]⟩
      obtain ⟨rfl, hblt, _, hcell⟩ := ha k hkl
      have hc0 := hcell k m hm
      have hms := hw m (List.mem_of_getElem? hm)
      have HS : Hid (colsB (cs.take k) (cs.drop k) = (nameB m && !hasS (cs.take k) m && colsB (cs.take (k + 1)) (cs.drop (k + 1)))) := colsB_step hm
      obtain ⟨g', hcut⟩ := hr.cut (Nat.le_of_lt hkl)
      clear hcell hm ha hr hw
      by_cases hnm : nameB m = true
      rotate_left
      · have hf : nameB m = false := by simpa using hnm
        have HF : Hid (nameB m = false) := hf
        go_wp2_with (go_at_call 71; refine (implName_any m _ hms).mono ?_; rintro e w1 ⟨rfl, rfl⟩)
        go_returns
        exact ⟨ret_bool (by rw [HB.out, HE.out, HS.out, HF.out]; rfl), rfl⟩
      · have HN : Hid (nameB m = true) := hnm
        have hcon := contains_any _ _ _ m _ hcut
        obtain ⟨hs, HH⟩ : ∃ hs, Hid (hasS (cs.take k) m = hs) := ⟨_, rfl⟩
        rw [HH.out] at hcon
        cases hs with
        | true =>
          go_wp2_with (first | (go_at_call 71; refine (implName_any m _ hms).mono ?_; rintro e w1 ⟨rfl, rfl⟩) | (go_at_call 142; refine Calls.mono hcon ?_; rintro q w2 ⟨rfl, rfl⟩))
          go_returns
          exact ⟨ret_bool (by rw [HB.out, HE.out, HS.out, HN.out, HH.out]; rfl), rfl⟩
        | false =>
          go_wp2_with (first | (go_at_call 71; refine (implName_any m _ hms).mono ?_; rintro e w1 ⟨rfl, rfl⟩) | (go_at_call 142; refine Calls.mono hcon ?_; rintro q w2 ⟨rfl, rfl⟩))
          exact ⟨⟨k + 1, hkl, by simp, by first | rfl | trivial, by rw [HE.out, HS.out, HN.out, HH.out]; rfl⟩, by simp [intOf]; omega⟩
    · obtain rfl : k = cs.length := by omega
      clear ha hr
      go_wp2
      go_returns
      exact ⟨ret_bool (by rw [HB.out, HE.out, List.drop_length]; rfl), rfl⟩
set_option maxHeartbeats 4000000 in
set_option maxRecDepth 100000 in
theorem implSchemasOk_any (v : Value) (rs : List S2) (w : World) (hw : HsWf rs) (hr : SchsIs w v rs) :
    Calls Try.prog 70 #[v] w fun e w' => e = .returned (.bool (okSch rs)) ∧ Below w.heap.size w w' := by
  obtain ⟨a, c, b, o, rfl, hl, hc, ha⟩ := hr.pick
  unfold maxLen at hc
  clear hr
  by_cases h2 : 20 < (rs.length : Int)
  · go_enter Try.func70, Try.ntmps70
    go_wp2
    go_returns
    exact ⟨ret_bool (by simp [okSch, show ¬ rs.length ≤ 20 from by omega]), by go_grown⟩
  have HB : Hid (okSch rs = okHs none rs) := by simp [Hid, okSch, show rs.length ≤ 20 from by omega]
  go_enter Try.func70, Try.ntmps70
  go_wp2
  go_loopw [10] (fun i wr => ∃ (k : Nat) (q : Int), k ≤ rs.length ∧ q = k ∧ i = .int .i64 q ∧ Below w.heap.size w wr ∧ okHs none rs = okHs (prevH rs k) (rs.drop k)) (fun i _ => rs.length - (intOf i).toNat)
  case atStart => exact ⟨0, 0, Nat.zero_le _, rfl, rfl, by go_grown, by simp [prevH]⟩
  case round =>
    obtain ⟨k, q, hk, hq, rfl, hb, heq⟩ := hrel
    have HE : Hid (okHs none rs = okHs (prevH rs k) (rs.drop k)) := heq
    have hzb := hb.size
    clear heq
    by_cases hlt : k < rs.length
    · obtain ⟨rfl, hblt, hL⟩ := ha k hlt
      obtain ⟨x, u, g, hx, c0, c1, hR, hbr⟩ := hL.at hblt hb hlt
      obtain ⟨ur, cr, rfl, _, _⟩ := hR.shape
      obtain ⟨hxs, hxw⟩ := hw x (List.mem_of_getElem? hx)
      have HS : Hid (okHs (prevH rs k) (rs.drop k) = (nameB x.s && okCols x.cs && okPrevH (prevH rs k) x && okHs (prevH rs (k + 1)) (rs.drop (k + 1)))) := okHs_step hx
      by_cases hnm : nameB x.s = true
      rotate_left
      · have hf : nameB x.s = false := by simpa using hnm
        clear ha hw hL hx
        subst hq
        go_wp2_with (first | (go_at_call 71; refine (implName_any x.s _ hxs).mono ?_; rintro e w1 ⟨rfl, rfl⟩) | (go_at_call 112; refine Calls.mono (columnsOk_any _ x.cs g _ hxw (hR.below (by repeat (first | exact Below.refl _ _ | refine Below.drew ?_ | refine Below.alloc ?_ (by first | (simp; done) | (simp; omega) | omega) _ | refine Below.setCell ?_ (by first | (simp; done) | (simp; omega) | omega) _ | refine bstep (by assumption) (by first | (simp; done) | (simp; omega) | omega) ?_)))) ?_; rintro e w2 ⟨rfl, rfl⟩) | fail)
        go_returns
        refine ⟨ret_bool ?_, by repeat (first | exact Below.refl _ _ | refine Below.drew ?_ | refine Below.alloc ?_ (by first | (simp; done) | (simp; omega) | omega) _ | refine Below.setCell ?_ (by first | (simp; done) | (simp; omega) | omega) _ | refine bstep (by assumption) (by first | (simp; done) | (simp; omega) | omega) ?_)⟩
        rw [HB.out, HE.out, HS.out, hf]
        simp
      by_cases hpl : okCols x.cs = true
      rotate_left
      · have hf : okCols x.cs = false := by simpa using hpl
        clear ha hw hL hx
        subst hq
        go_wp2_with (first | (go_at_call 71; refine (implName_any x.s _ hxs).mono ?_; rintro e w1 ⟨rfl, rfl⟩) | (go_at_call 112; refine Calls.mono (columnsOk_any _ x.cs g _ hxw (hR.below (by repeat (first | exact Below.refl _ _ | refine Below.drew ?_ | refine Below.alloc ?_ (by first | (simp; done) | (simp; omega) | omega) _ | refine Below.setCell ?_ (by first | (simp; done) | (simp; omega) | omega) _ | refine bstep (by assumption) (by first | (simp; done) | (simp; omega) | omega) ?_)))) ?_; rintro e w2 ⟨rfl, rfl⟩) | fail)
        go_returns
        refine ⟨ret_bool ?_, by repeat (first | exact Below.refl _ _ | refine Below.drew ?_ | refine Below.alloc ?_ (by first | (simp; done) | (simp; omega) | omega) _ | refine Below.setCell ?_ (by first | (simp; done) | (simp; omega) | omega) _ | refine bstep (by assumption) (by first | (simp; done) | (simp; omega) | omega) ?_)⟩
        rw [HB.out, HE.out, HS.out, hf]
        simp
      rcases Nat.eq_zero_or_pos k with hk0 | hk0
      · subst hk0
        obtain rfl : q = 0 := by simpa using hq
        rw [Nat.zero_mul, Nat.add_zero] at c0 c1
        clear ha hw hL hx hq
        go_wp2_with (first | (go_at_call 71; refine (implName_any x.s _ hxs).mono ?_; rintro e w1 ⟨rfl, rfl⟩) | (go_at_call 112; refine Calls.mono (columnsOk_any _ x.cs g _ hxw (hR.below (by repeat (first | exact Below.refl _ _ | refine Below.drew ?_ | refine Below.alloc ?_ (by first | (simp; done) | (simp; omega) | omega) _ | refine Below.setCell ?_ (by first | (simp; done) | (simp; omega) | omega) _ | refine bstep (by assumption) (by first | (simp; done) | (simp; omega) | omega) ?_)))) ?_; rintro e w2 ⟨rfl, rfl⟩) | fail)
        go_region
        go_wp2
        go_roundw
        case rel =>
          refine ⟨1, 1, hlt, rfl, by simp, by repeat (first | exact Below.refl _ _ | refine Below.drew ?_ | refine Below.alloc ?_ (by first | (simp; done) | (simp; omega) | omega) _ | refine Below.setCell ?_ (by first | (simp; done) | (simp; omega) | omega) _ | refine bstep (by assumption) (by first | (simp; done) | (simp; omega) | omega) ?_), ?_⟩
          rw [HE.out, HS.out, hnm, hpl, prevH_zero]
          simp [okPrevH]
        case measure => simp [intOf]; omega
      · obtain ⟨j, rfl⟩ : ∃ j, k = j + 1 := ⟨k - 1, by omega⟩
        obtain rfl : q = (j : Int) + 1 := by omega
        obtain ⟨y, t, gy, hy, d0, d1, hT, _⟩ := hL.at hblt hb (show j < rs.length by omega)
        have HP : Hid (prevH rs (j + 1) = some y) := prevH_succ hy
        clear ha hw hL hx hy hq d1 hT
        go_wp2_with (first | (go_at_call 71; refine (implName_any x.s _ hxs).mono ?_; rintro e w1 ⟨rfl, rfl⟩) | (go_at_call 112; refine Calls.mono (columnsOk_any _ x.cs g _ hxw (hR.below (by repeat (first | exact Below.refl _ _ | refine Below.drew ?_ | refine Below.alloc ?_ (by first | (simp; done) | (simp; omega) | omega) _ | refine Below.setCell ?_ (by first | (simp; done) | (simp; omega) | omega) _ | refine bstep (by assumption) (by first | (simp; done) | (simp; omega) | omega) ?_)))) ?_; rintro e w2 ⟨rfl, rfl⟩) | fail)
        have hw1 : IntKind.i64.wrap (j : Int) = j := by rw [IntKind.wrap_i64]; omega
        have hw2 : IntKind.i64.wrap ((j : Int) + 1 - 1) = j := by rw [IntKind.wrap_i64]; omega
        have hi0 : (0 : Int) ≤ j := by omega
        have hi1 : (j : Int) < rs.length := by omega
        have hi2 : (0 : Int) < (j : Int) + 1 := by omega
        have HQ : Hid (okPrevH (prevH rs (j + 1)) x = Op.bytesLess y.s.toList x.s.toList) := by rw [HP.out]; rfl
        go_region_held3 (fun w' => w'.cell? ⟨wr.heap.size, 0, none⟩ = some (.string x.s) ∧ w'.cell? ⟨b, o + j * 2, none⟩ = some (.string y.s)) (refine ⟨?_, ?_⟩ <;> first | (go_simp; done) | (exact cell_later (by assumption) (by go_simp))) (fail)
        go_wp2
        · have hcf : Op.bytesLess y.s.toList x.s.toList = false := by
            have h9 : (!Op.bytesLess y.s.toList x.s.toList) = true := by assumption
            simpa using h9
          go_returns
          refine ⟨ret_bool ?_, by repeat (first | exact Below.refl _ _ | refine Below.drew ?_ | refine Below.alloc ?_ (by first | (simp; done) | (simp; omega) | omega) _ | refine Below.setCell ?_ (by first | (simp; done) | (simp; omega) | omega) _ | refine bstep (by assumption) (by first | (simp; done) | (simp; omega) | omega) ?_)⟩
          rw [HB.out, HE.out, HS.out, HQ.out, hcf]
          simp
        · have hcmp : Op.bytesLess y.s.toList x.s.toList = true := by
            have h9 : (!Op.bytesLess y.s.toList x.s.toList) = false := by assumption
            simpa using h9
          refine ⟨⟨j + 1 + 1, (j : Int) + 1 + 1, hlt, by omega, rfl, by repeat (first | exact Below.refl _ _ | refine Below.drew ?_ | refine Below.alloc ?_ (by first | (simp; done) | (simp; omega) | omega) _ | refine Below.setCell ?_ (by first | (simp; done) | (simp; omega) | omega) _ | refine bstep (by assumption) (by first | (simp; done) | (simp; omega) | omega) ?_), ?_⟩, by simp [intOf]; omega⟩
          rw [HE.out, HS.out, HQ.out, hnm, hpl, hcmp]
          simp
    · clear ha hw
      go_wp2
      go_returns
      refine ⟨ret_bool ?_, hb⟩
      rw [HB.out, HE.out, List.drop_eq_nil_of_le (by omega)]
      rfl
end Go.Proofs.Ytdkbhoichmcodaa
