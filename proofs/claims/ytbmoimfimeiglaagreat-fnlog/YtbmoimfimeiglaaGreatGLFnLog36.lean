/- Own texts, joined: contracts that the law's proof goes by. -/
import Derived.Test.YtbmoimfimeiglaaGreatGLFnLog3
import Derived.Test.YtbmoimfimeiglaaGreatGLFnLog1
import Derived.Handy
import Derived.Below
import Derived.Test.YtbmoimfimeiglaaGreatGLFnLog19
import Derived.Test.YtbmoimfimeiglaaGreatGLFnLog7
import Derived.Deep.RegionHeld3
namespace Go.Proofs.YtbmoimfimeiglaaGreat
open Go.RowKit Go.Deep
set_option linter.unusedVariables false
theorem StrsF.cut {w : World} {a : Option Addr} {l c : Nat} {ns : List ByteArray} {g : List Nat} (h : StrsF w (.slice a l c) ns g) {k : Nat} (hk : k ≤ ns.length) : ∃ g', StrsF w (.slice a k c) (ns.take k) g' := by
  obtain ⟨a', c', e, hl, hc, h0, h1⟩ := h
  obtain ⟨rfl, rfl, rfl⟩ : a = a' ∧ l = ns.length ∧ c = c' := by injection e with e1 e2 e3; exact ⟨e1, e2, e3⟩
  have hkl : (ns.take k).length = k := by rw [List.length_take]; omega
  by_cases hk0 : k = 0
  · subst hk0
    exact ⟨[], a, c, by simp, by simp, hc, fun _ => rfl, fun h => absurd (by simp) h⟩
  · obtain ⟨b, o, ea, hlt, eg, hC⟩ := h1 (by rintro rfl; simp at hk; omega)
    refine ⟨[b], a, c, by rw [hkl], by rw [hkl]; omega, hc, fun h => ?_, fun _ => ⟨b, o, ea, hlt, rfl, fun i n hn => hC i n ?_⟩⟩
    · exfalso; have := congrArg List.length h; rw [hkl] at this; simp at this; omega
    · rw [List.getElem?_take] at hn
      split at hn
      · exact hn
      · cases hn
set_option maxHeartbeats 2000000 in
set_option maxRecDepth 100000 in
theorem l03HasF_any (v : Value) (L : List ByteArray) (g : List Nat) (x : ByteArray) (w : World) (h : StrsF w v L g) :
    Calls Tryz.prog 78 #[v, .string x] w fun e w' => e = .returned (.bool (hasS L x)) ∧ w' = w := by
  obtain ⟨a, c, b, o, rfl, hl, hc, _, ha⟩ := h.pick
  unfold maxLen at hc
  clear h
  go_enter Tryz.func78, Tryz.ntmps78
  go_wp2
  go_loopw [5] (fun i wr => ∃ k : Nat, k ≤ L.length ∧ i = .int .i64 k ∧ wr = w ∧ hasS L x = hasS (L.drop k) x) (fun i _ => L.length - (intOf i).toNat)
  case atStart => exact ⟨0, Nat.zero_le _, rfl, rfl, by simp⟩
  case round =>
    obtain ⟨k, hk, rfl, hwr, heq⟩ := hrel
    replace hwr := hwr.symm
    subst hwr
    have HE : Hid (hasS L x = hasS (L.drop k) x) := heq
    clear heq
    by_cases hkl : k < L.length
    · obtain ⟨m, hm⟩ : ∃ m, L[k]? = some m := ⟨L[k], by simp [hkl]⟩
      obtain ⟨rfl, hblt, _, hcell⟩ := ha k hkl
      have hc0 := hcell k m hm
      have HS : Hid (hasS (L.drop k) x = (m.toList == x.toList || hasS (L.drop (k + 1)) x)) := hasS_step hm
      clear hcell hm ha
      by_cases hmx : m.toList = x.toList
      · have hme : (m.toList == x.toList) = true := by simpa using hmx
        have HB : Hid ((m.toList == x.toList) = true) := hme
        go_wp2
        go_returns
        exact ⟨ret_bool (by rw [HE.out, HS.out, HB.out, Bool.true_or]), rfl⟩
      · have hme : (m.toList == x.toList) = false := by simpa using hmx
        have HB : Hid ((m.toList == x.toList) = false) := hme
        go_wp2
        exact ⟨⟨k + 1, hkl, by simp, by first | rfl | trivial, by rw [HE.out, HS.out, HB.out, Bool.false_or]⟩, by simp [intOf]; omega⟩
    · obtain rfl : k = L.length := by omega
      clear ha
      go_wp2
      go_returns
      exact ⟨ret_bool (by rw [HE.out, List.drop_length]; rfl), rfl⟩
end Go.Proofs.YtbmoimfimeiglaaGreat
namespace Go.Proofs.YtbmoimfimeiglaaGreat
open Go.RowKit Go.Deep
set_option linter.unusedVariables false
set_option maxHeartbeats 2000000 in
set_option maxRecDepth 100000 in
theorem columnsOk_any (v : Value) (cs : List ByteArray) (g : List Nat) (w : World) (hw : SsWf cs) (hr : StrsF w v cs g) :
    Calls Tryz.prog 75 #[v] w fun e w' => e = .returned (.bool (okCols cs)) ∧ w' = w := by
  obtain ⟨a, c, b, o, rfl, hl, hc, _, ha⟩ := hr.pick
  unfold maxLen at hc
  by_cases h0 : (cs.length : Int) = 0
  · have hf : inB cs.length 1 12 = false := by simp [inB]; omega
    go_enter Tryz.func75, Tryz.ntmps75
    go_wp2
    go_returns
    exact ⟨ret_bool (by simp [okCols, hf]), rfl⟩
  have hz : ((cs.length : Int) == 0) = false := by simpa using h0
  have hne : ¬ cs = [] := by rintro rfl; simp at h0
  by_cases h1 : (12 : Int) < cs.length
  · have hf : inB cs.length 1 12 = false := by simp [inB]; omega
    go_enter Tryz.func75, Tryz.ntmps75
    go_wp2
    go_returns
    exact ⟨ret_bool (by simp [okCols, hf]), rfl⟩
  have HB : Hid (okCols cs = colsB [] cs) := by
    have hf : inB cs.length 1 12 = true := by simp [inB]; omega
    simp [Hid, okCols, hf]
  go_enter Tryz.func75, Tryz.ntmps75
  go_wp2
  go_loopw [15] (fun i wr => ∃ k : Nat, k ≤ cs.length ∧ i = .int .i64 k ∧ wr = w ∧ colsB [] cs = colsB (cs.take k) (cs.drop k)) (fun i _ => cs.length - (intOf i).toNat)
  case atStart => exact ⟨0, Nat.zero_le _, rfl, rfl, by simp⟩
  case round =>
    obtain ⟨k, hk, rfl, hwr, heq⟩ := hrel
    replace hwr := hwr.symm
    subst hwr
    have HE : Hid (colsB [] cs = colsB (cs.take k) (cs.drop k)) := heq
    clear heq
    by_cases hkl : k < cs.length
    · obtain ⟨m, hm⟩ : ∃ m, cs[k]? = some m := ⟨cs[k], by simp [hkl]⟩
      obtain ⟨rfl, hblt, _, hcell⟩ := ha k hkl
      have hc0 := hcell k m hm
      have hms := hw m (List.mem_of_getElem? hm)
      have HS : Hid (colsB (cs.take k) (cs.drop k) = (nameB m && !hasS (cs.take k) m && colsB (cs.take (k + 1)) (cs.drop (k + 1)))) := colsB_step hm
      obtain ⟨g', hcut⟩ := hr.cut (Nat.le_of_lt hkl)
      clear hcell hm ha hr hw
      by_cases hnm : nameB m = true
      rotate_left
      · have hf : nameB m = false := by simpa using hnm
        have HF : Hid (nameB m = false) := hf
        go_wp2_with (go_at_call 46; refine (implName_any m _ hms).mono ?_; rintro e w1 ⟨rfl, rfl⟩)
        go_returns
        exact ⟨ret_bool (by rw [HB.out, HE.out, HS.out, HF.out]; rfl), rfl⟩
      · have HN : Hid (nameB m = true) := hnm
        have hcon := contains_any _ _ _ m _ hcut
        obtain ⟨hs, HH⟩ : ∃ hs, Hid (hasS (cs.take k) m = hs) := ⟨_, rfl⟩
        rw [HH.out] at hcon
        cases hs with
        | true =>
          go_wp2_with (first | (go_at_call 46; refine (implName_any m _ hms).mono ?_; rintro e w1 ⟨rfl, rfl⟩) | (go_at_call 105; refine Calls.mono hcon ?_; rintro q w2 ⟨rfl, rfl⟩))
          go_returns
          exact ⟨ret_bool (by rw [HB.out, HE.out, HS.out, HN.out, HH.out]; rfl), rfl⟩
        | false =>
          go_wp2_with (first | (go_at_call 46; refine (implName_any m _ hms).mono ?_; rintro e w1 ⟨rfl, rfl⟩) | (go_at_call 105; refine Calls.mono hcon ?_; rintro q w2 ⟨rfl, rfl⟩))
          exact ⟨⟨k + 1, hkl, by simp, by first | rfl | trivial, by rw [HE.out, HS.out, HN.out, HH.out]; rfl⟩, by simp [intOf]; omega⟩
    · obtain rfl : k = cs.length := by omega
      clear ha hr
      go_wp2
      go_returns
      exact ⟨ret_bool (by rw [HB.out, HE.out, List.drop_length]; rfl), rfl⟩
set_option maxHeartbeats 4000000 in
set_option maxRecDepth 100000 in
theorem implSchemasOk_any (v : Value) (rs : List S2) (w : World) (hw : HsWf rs) (hr : SchsIs w v rs) :
    Calls Tryz.prog 45 #[v] w fun e w' => e = .returned (.bool (okSch rs)) ∧ Below w.heap.size w w' := by
  obtain ⟨a, c, b, o, rfl, hl, hc, ha⟩ := hr.pick
  unfold maxLen at hc
  clear hr
  by_cases h2 : 20 < (rs.length : Int)
  · go_enter Tryz.func45, Tryz.ntmps45
    go_wp2
    go_returns
    exact ⟨ret_bool (by simp [okSch, show ¬ rs.length ≤ 20 from by omega]), by go_grown⟩
  have HB : Hid (okSch rs = okHs none rs) := by simp [Hid, okSch, show rs.length ≤ 20 from by omega]
  go_enter Tryz.func45, Tryz.ntmps45
  go_wp2
  go_loopw [10] (fun i wr => ∃ (k : Nat) (q : Int), k ≤ rs.length ∧ q = k ∧ i = .int .i64 q ∧ Below w.heap.size w wr ∧ okHs none rs = okHs (prevH rs k) (rs.drop k)) (fun i _ => rs.length - (intOf i).toNat)
  case atStart => exact ⟨0, 0, Nat.zero_le _, rfl, rfl, by go_grown, by simp [prevH]⟩
  case round =>
    obtain ⟨k, q, hk, hq, rfl, hb, heq⟩ := hrel
    have HE : Hid (okHs none rs = okHs (prevH rs k) (rs.drop k)) := heq
    have hzb := hb.size
    clear heq
    by_cases hlt : k < rs.length
    · obtain ⟨rfl, hblt, hL⟩ := ha k hlt
      obtain ⟨x, u, g, hx, c0, c1, hR, hbr⟩ := hL.at hblt hb hlt
      obtain ⟨ur, cr, rfl, _, _⟩ := hR.shape
      obtain ⟨hxs, hxw⟩ := hw x (List.mem_of_getElem? hx)
      have HS : Hid (okHs (prevH rs k) (rs.drop k) = (nameB x.s && okCols x.cs && okPrevH (prevH rs k) x && okHs (prevH rs (k + 1)) (rs.drop (k + 1)))) := okHs_step hx
      by_cases hnm : nameB x.s = true
      rotate_left
      · have hf : nameB x.s = false := by simpa using hnm
        clear ha hw hL hx
        subst hq
        go_wp2_with (first | (go_at_call 46; refine (implName_any x.s _ hxs).mono ?_; rintro e w1 ⟨rfl, rfl⟩) | (go_at_call 75; refine Calls.mono (columnsOk_any _ x.cs g _ hxw (hR.below (bela))) ?_; rintro e w2 ⟨rfl, rfl⟩) | fail)
        go_returns
        refine ⟨ret_bool ?_, bela⟩
        rw [HB.out, HE.out, HS.out, hf]
        simp
      by_cases hpl : okCols x.cs = true
      rotate_left
      · have hf : okCols x.cs = false := by simpa using hpl
        clear ha hw hL hx
        subst hq
        go_wp2_with (first | (go_at_call 46; refine (implName_any x.s _ hxs).mono ?_; rintro e w1 ⟨rfl, rfl⟩) | (go_at_call 75; refine Calls.mono (columnsOk_any _ x.cs g _ hxw (hR.below (bela))) ?_; rintro e w2 ⟨rfl, rfl⟩) | fail)
        go_returns
        refine ⟨ret_bool ?_, bela⟩
        rw [HB.out, HE.out, HS.out, hf]
        simp
      rcases Nat.eq_zero_or_pos k with hk0 | hk0
      · subst hk0
        obtain rfl : q = 0 := by simpa using hq
        rw [Nat.zero_mul, Nat.add_zero] at c0 c1
        clear ha hw hL hx hq
        go_wp2_with (first | (go_at_call 46; refine (implName_any x.s _ hxs).mono ?_; rintro e w1 ⟨rfl, rfl⟩) | (go_at_call 75; refine Calls.mono (columnsOk_any _ x.cs g _ hxw (hR.below (bela))) ?_; rintro e w2 ⟨rfl, rfl⟩) | fail)
        go_region
        go_wp2
        go_roundw
        case rel =>
          refine ⟨1, 1, hlt, rfl, by simp, bela, ?_⟩
          rw [HE.out, HS.out, hnm, hpl, prevH_zero]
          simp [okPrevH]
        case measure => simp [intOf]; omega
      · obtain ⟨j, rfl⟩ : ∃ j, k = j + 1 := ⟨k - 1, by omega⟩
        obtain rfl : q = (j : Int) + 1 := by omega
        obtain ⟨y, t, gy, hy, d0, d1, hT, _⟩ := hL.at hblt hb (show j < rs.length by omega)
        have HP : Hid (prevH rs (j + 1) = some y) := prevH_succ hy
        clear ha hw hL hx hy hq d1 hT
        go_wp2_with (first | (go_at_call 46; refine (implName_any x.s _ hxs).mono ?_; rintro e w1 ⟨rfl, rfl⟩) | (go_at_call 75; refine Calls.mono (columnsOk_any _ x.cs g _ hxw (hR.below (bela))) ?_; rintro e w2 ⟨rfl, rfl⟩) | fail)
        have hw1 : IntKind.i64.wrap (j : Int) = j := by rw [IntKind.wrap_i64]; omega
        have hw2 : IntKind.i64.wrap ((j : Int) + 1 - 1) = j := by rw [IntKind.wrap_i64]; omega
        have hi0 : (0 : Int) ≤ j := by omega
        have hi1 : (j : Int) < rs.length := by omega
        have hi2 : (0 : Int) < (j : Int) + 1 := by omega
        have HQ : Hid (okPrevH (prevH rs (j + 1)) x = Op.bytesLess y.s.toList x.s.toList) := by rw [HP.out]; rfl
        go_region_held3 (fun w' => w'.cell? ⟨wr.heap.size, 0, none⟩ = some (.string x.s) ∧ w'.cell? ⟨b, o + j * 2, none⟩ = some (.string y.s)) (refine ⟨?_, ?_⟩ <;> first | (go_simp; done) | (exact cell_later (by assumption) (by go_simp))) (fail)
        go_wp2
        · have hcf : Op.bytesLess y.s.toList x.s.toList = false := by
            have h9 : (!Op.bytesLess y.s.toList x.s.toList) = true := by assumption
            simpa using h9
          go_returns
          refine ⟨ret_bool ?_, bela⟩
          rw [HB.out, HE.out, HS.out, HQ.out, hcf]
          simp
        · have hcmp : Op.bytesLess y.s.toList x.s.toList = true := by
            have h9 : (!Op.bytesLess y.s.toList x.s.toList) = false := by assumption
            simpa using h9
          refine ⟨⟨j + 1 + 1, (j : Int) + 1 + 1, hlt, by omega, rfl, bela, ?_⟩, by simp [intOf]; omega⟩
          rw [HE.out, HS.out, HQ.out, hnm, hpl, hcmp]
          simp
    · clear ha hw
      go_wp2
      go_returns
      refine ⟨ret_bool ?_, hb⟩
      rw [HB.out, HE.out, List.drop_eq_nil_of_le (by omega)]
      rfl
end Go.Proofs.YtbmoimfimeiglaaGreat
namespace Go.Proofs.YtbmoimfimeiglaaGreat
open Go.RowKit
set_option linter.unusedVariables false
theorem okCols_no {cs : List ByteArray} (h : inB cs.length 1 12 = false) : okCols cs = false := by simp [okCols, h]
theorem okCols_cols {cs : List ByteArray} (h : inB cs.length 1 12 = true) : okCols cs = colsB [] cs := by simp [okCols, h]
set_option maxHeartbeats 8000000 in
set_option maxRecDepth 100000 in
theorem specSchemasOk_any (v : Value) (rs : List S2) (w : World) (hw : HsWf rs) (hr : SchsIs w v rs) :
    Calls Tryz.prog 48 #[v] w fun e w' => e = .returned (.bool (okSch rs)) ∧ Below w.heap.size w w' := by
  obtain ⟨a, c, b, o, rfl, hl, hc, ha⟩ := hr.pick
  unfold maxLen at hc
  clear hr
  go_enter Tryz.func48, Tryz.ntmps48
  go_wp2
  go_loopw [3] (fun i wr => ∃ (k : Nat) (q : Int), k ≤ rs.length ∧ q = k ∧ i = .int .i64 q ∧ Below w.heap.size w wr ∧ okHs none rs = okHs (prevH rs k) (rs.drop k)) (fun i _ => rs.length - (intOf i).toNat)
  case atStart => exact ⟨0, 0, Nat.zero_le _, rfl, rfl, by go_grown, by simp [prevH]⟩
  case round =>
    obtain ⟨k, q, hk, hq, rfl, hb, heq⟩ := hrel
    have HE : Hid (okHs none rs = okHs (prevH rs k) (rs.drop k)) := heq
    have hzb := hb.size
    clear heq
    obtain ⟨wo, hwo⟩ : ∃ y, y = wr := ⟨_, rfl⟩
    subst hwo
    by_cases hlt : k < rs.length
    · obtain ⟨rfl, hblt, hL⟩ := ha k hlt
      obtain ⟨x, u, g, hx, c0, c1, hR, hbr⟩ := hL.at hblt hb hlt
      obtain ⟨ur, cr, rfl, hlc, hcm⟩ := hR.shape
      unfold maxLen at hcm
      obtain ⟨hxs, hxw⟩ := hw x (List.mem_of_getElem? hx)
      have HS : Hid (okHs (prevH rs k) (rs.drop k) = (nameB x.s && okCols x.cs && okPrevH (prevH rs k) x && okHs (prevH rs (k + 1)) (rs.drop (k + 1)))) := okHs_step hx
      by_cases hnm : nameB x.s = true
      rotate_left
      · have hf : nameB x.s = false := by simpa using hnm
        clear ha hw hL hx
        subst hq
        go_wp2_with fail
        refine wp_region_held_drew (S := (fun w' => w'.cell? ⟨wo.heap.size, 0, none⟩ = some (.string x.s) ∧ w'.cell? ⟨wo.heap.size, 1, none⟩ = some (.slice ur x.cs.length cr))) (by kernel_rfl) ?_ (fun hHeld => ?_)
        · (try dsimp only); refine ⟨?_, ?_⟩ <;> first | (go_simp; done) | (exact cell_later (by assumption) (by go_simp))
        refine tkY (i := 0) (d := 16) (v := ?_) rfl rfl ?_ ?_
        rotate_left
        · intro w' hSw; (try dsimp only at hSw); go_simp; try exact rfl
        try simp only [List.setIfInBounds_toArray, List.set_cons_zero, List.set_cons_succ]
        refine tkY (i := 1) (d := 17) (v := ?_) rfl rfl ?_ ?_
        rotate_left
        · intro w' hSw; (try dsimp only at hSw); go_simp; try exact rfl
        try simp only [List.setIfInBounds_toArray, List.set_cons_zero, List.set_cons_succ]
        refine wpAnyH_ready (rs := [2]) (by kernel_rfl) (by simp) ?_
        refine AllReadyH.cons rfl (fun K hK => ?_) AllReadyH.nil
        go_simp
        go_at_call 49
        refine (specName_any x.s _ hxs).mono ?_
        rintro e w1 ⟨rfl, rfl⟩
        try go_wp2_with fail
        refine hK.out _ _ ?_ (fun hHeld2 => ?_)
        · (try dsimp only); refine ⟨?_, ?_⟩ <;> first | (go_simp; done) | (exact cell_later (by assumption) (by go_simp))
        clear hK
        refine tkY (i := 3) (d := 19) (v := ?_) rfl rfl ?_ ?_
        rotate_left
        · intro w' hSw; (try dsimp only at hSw); go_simp; try exact rfl
        try simp only [List.setIfInBounds_toArray, List.set_cons_zero, List.set_cons_succ]
        refine tkY (i := 4) (d := 20) (v := ?_) rfl rfl ?_ ?_
        rotate_left
        · intro w' hSw; (try dsimp only at hSw); go_simp; try exact rfl
        try simp only [List.setIfInBounds_toArray, List.set_cons_zero, List.set_cons_succ]
        refine tkN (i := 5) (d := 21) rfl rfl ?_
        try simp only [List.setIfInBounds_toArray, List.set_cons_zero, List.set_cons_succ]
        refine tkN (i := 6) (d := 22) rfl rfl ?_
        try simp only [List.setIfInBounds_toArray, List.set_cons_zero, List.set_cons_succ]
        refine tkN (i := 7) (d := 23) rfl rfl ?_
        try simp only [List.setIfInBounds_toArray, List.set_cons_zero, List.set_cons_succ]
        refine tkN (i := 8) (d := 24) rfl rfl ?_
        try simp only [List.setIfInBounds_toArray, List.set_cons_zero, List.set_cons_succ]
        refine tkN (i := 9) (d := 25) rfl rfl ?_
        try simp only [List.setIfInBounds_toArray, List.set_cons_zero, List.set_cons_succ]
        refine tkN (i := 10) (d := 26) rfl rfl ?_
        try simp only [List.setIfInBounds_toArray, List.set_cons_zero, List.set_cons_succ]
        refine tkN (i := 11) (d := 27) rfl rfl ?_
        try simp only [List.setIfInBounds_toArray, List.set_cons_zero, List.set_cons_succ]
        refine tkN (i := 12) (d := 28) rfl rfl ?_
        try simp only [List.setIfInBounds_toArray, List.set_cons_zero, List.set_cons_succ]
        refine tkN (i := 13) (d := 29) rfl rfl ?_
        try simp only [List.setIfInBounds_toArray, List.set_cons_zero, List.set_cons_succ]
        refine tkN (i := 14) (d := 30) rfl rfl ?_
        try simp only [List.setIfInBounds_toArray, List.set_cons_zero, List.set_cons_succ]
        refine tkN (i := 15) (d := 31) rfl rfl ?_
        try simp only [List.setIfInBounds_toArray, List.set_cons_zero, List.set_cons_succ]
        refine tkN (i := 16) (d := 32) rfl rfl ?_
        try simp only [List.setIfInBounds_toArray, List.set_cons_zero, List.set_cons_succ]
        refine tkN (i := 17) (d := 33) rfl rfl ?_
        try simp only [List.setIfInBounds_toArray, List.set_cons_zero, List.set_cons_succ]
        refine tkY (i := 18) (d := 34) (v := ?_) rfl rfl ?_ ?_
        rotate_left
        · intro w' hSw; (try dsimp only at hSw); go_simp; try exact rfl
        try simp only [List.setIfInBounds_toArray, List.set_cons_zero, List.set_cons_succ]
        refine tkY (i := 19) (d := 35) (v := ?_) rfl rfl ?_ ?_
        rotate_left
        · intro w' hSw; (try dsimp only at hSw); go_simp; try exact rfl
        try simp only [List.setIfInBounds_toArray, List.set_cons_zero, List.set_cons_succ]
        refine tkN (i := 20) (d := 36) rfl rfl ?_
        try simp only [List.setIfInBounds_toArray, List.set_cons_zero, List.set_cons_succ]
        refine tkN (i := 21) (d := 37) rfl rfl ?_
        try simp only [List.setIfInBounds_toArray, List.set_cons_zero, List.set_cons_succ]
        refine tkN (i := 22) (d := 38) rfl rfl ?_
        try simp only [List.setIfInBounds_toArray, List.set_cons_zero, List.set_cons_succ]
        refine wpAnyH_ready (rs := [23]) (by kernel_rfl) (by simp) ?_
        refine AllReadyH.cons rfl (fun K hK => ?_) AllReadyH.nil
        go_simp
        refine hK.out _ _ ?_ (fun hHeld23 => ?_)
        · (try dsimp only); refine ⟨?_, ?_⟩ <;> first | (go_simp; done) | (exact cell_later (by assumption) (by go_simp))
        clear hK
        refine tkN (i := 24) (d := 40) rfl rfl ?_
        try simp only [List.setIfInBounds_toArray, List.set_cons_zero, List.set_cons_succ]
        refine tkY (i := 25) (d := 41) (v := ?_) rfl rfl ?_ ?_
        rotate_left
        · intro w' hSw; (try dsimp only at hSw); go_simp; try exact rfl
        try simp only [List.setIfInBounds_toArray, List.set_cons_zero, List.set_cons_succ]
        refine wpAnyH_done (by kernel_rfl) ?_ _
        go_wp2
        go_returns
        refine ⟨ret_bool ?_, bela⟩
        unfold okSch
        rw [HE.out, HS.out, hf]
        simp
      rcases Nat.eq_zero_or_pos k with hk0 | hk0
      · subst hk0
        obtain rfl : q = 0 := by simpa using hq
        rw [Nat.zero_mul, Nat.add_zero] at c0 c1
        clear ha hw hL hx hq
        cases hin : inB x.cs.length 1 12 with
        | false =>
          go_wp2_with fail
          refine wp_region_held_drew (S := (fun w' => w'.cell? ⟨wo.heap.size, 0, none⟩ = some (.string x.s) ∧ w'.cell? ⟨wo.heap.size, 1, none⟩ = some (.slice ur x.cs.length cr))) (by kernel_rfl) ?_ (fun hHeld => ?_)
          · (try dsimp only); refine ⟨?_, ?_⟩ <;> first | (go_simp; done) | (exact cell_later (by assumption) (by go_simp))
          refine tkY (i := 0) (d := 16) (v := ?_) rfl rfl ?_ ?_
          rotate_left
          · intro w' hSw; (try dsimp only at hSw); go_simp; try exact rfl
          try simp only [List.setIfInBounds_toArray, List.set_cons_zero, List.set_cons_succ]
          refine tkY (i := 1) (d := 17) (v := ?_) rfl rfl ?_ ?_
          rotate_left
          · intro w' hSw; (try dsimp only at hSw); go_simp; try exact rfl
          try simp only [List.setIfInBounds_toArray, List.set_cons_zero, List.set_cons_succ]
          refine wpAnyH_ready (rs := [2]) (by kernel_rfl) (by simp) ?_
          refine AllReadyH.cons rfl (fun K hK => ?_) AllReadyH.nil
          go_simp
          go_at_call 49
          refine (specName_any x.s _ hxs).mono ?_
          rintro e w1 ⟨rfl, rfl⟩
          try go_wp2_with fail
          refine hK.out _ _ ?_ (fun hHeld2 => ?_)
          · (try dsimp only); refine ⟨?_, ?_⟩ <;> first | (go_simp; done) | (exact cell_later (by assumption) (by go_simp))
          clear hK
          refine tkY (i := 3) (d := 19) (v := ?_) rfl rfl ?_ ?_
          rotate_left
          · intro w' hSw; (try dsimp only at hSw); go_simp; try exact rfl
          try simp only [List.setIfInBounds_toArray, List.set_cons_zero, List.set_cons_succ]
          refine tkY (i := 4) (d := 20) (v := ?_) rfl rfl ?_ ?_
          rotate_left
          · intro w' hSw; (try dsimp only at hSw); go_simp; try exact rfl
          try simp only [List.setIfInBounds_toArray, List.set_cons_zero, List.set_cons_succ]
          refine tkY (i := 5) (d := 21) (v := ?_) rfl rfl ?_ ?_
          rotate_left
          · intro w' hSw; (try dsimp only at hSw); go_simp; try exact rfl
          try simp only [List.setIfInBounds_toArray, List.set_cons_zero, List.set_cons_succ]
          refine tkY (i := 6) (d := 22) (v := ?_) rfl rfl ?_ ?_
          rotate_left
          · intro w' hSw; (try dsimp only at hSw); go_simp; try exact rfl
          try simp only [List.setIfInBounds_toArray, List.set_cons_zero, List.set_cons_succ]
          refine tkY (i := 7) (d := 23) (v := ?_) rfl rfl ?_ ?_
          rotate_left
          · intro w' hSw; (try dsimp only at hSw); go_simp; try exact rfl
          try simp only [List.setIfInBounds_toArray, List.set_cons_zero, List.set_cons_succ]
          refine tkN (i := 8) (d := 24) rfl rfl ?_
          try simp only [List.setIfInBounds_toArray, List.set_cons_zero, List.set_cons_succ]
          refine tkN (i := 9) (d := 25) rfl rfl ?_
          try simp only [List.setIfInBounds_toArray, List.set_cons_zero, List.set_cons_succ]
          refine tkN (i := 10) (d := 26) rfl rfl ?_
          try simp only [List.setIfInBounds_toArray, List.set_cons_zero, List.set_cons_succ]
          refine tkN (i := 11) (d := 27) rfl rfl ?_
          try simp only [List.setIfInBounds_toArray, List.set_cons_zero, List.set_cons_succ]
          refine tkN (i := 12) (d := 28) rfl rfl ?_
          try simp only [List.setIfInBounds_toArray, List.set_cons_zero, List.set_cons_succ]
          refine tkN (i := 13) (d := 29) rfl rfl ?_
          try simp only [List.setIfInBounds_toArray, List.set_cons_zero, List.set_cons_succ]
          refine tkN (i := 14) (d := 30) rfl rfl ?_
          try simp only [List.setIfInBounds_toArray, List.set_cons_zero, List.set_cons_succ]
          refine tkN (i := 15) (d := 31) rfl rfl ?_
          try simp only [List.setIfInBounds_toArray, List.set_cons_zero, List.set_cons_succ]
          refine tkN (i := 16) (d := 32) rfl rfl ?_
          try simp only [List.setIfInBounds_toArray, List.set_cons_zero, List.set_cons_succ]
          refine tkY (i := 17) (d := 33) (v := ?_) rfl rfl ?_ ?_
          rotate_left
          · intro w' hSw; (try dsimp only at hSw); go_simp; try exact rfl
          try simp only [List.setIfInBounds_toArray, List.set_cons_zero, List.set_cons_succ]
          refine tkY (i := 18) (d := 34) (v := ?_) rfl rfl ?_ ?_
          rotate_left
          · intro w' hSw; (try dsimp only at hSw); go_simp; try exact rfl
          try simp only [List.setIfInBounds_toArray, List.set_cons_zero, List.set_cons_succ]
          refine tkY (i := 19) (d := 35) (v := ?_) rfl rfl ?_ ?_
          rotate_left
          · intro w' hSw; (try dsimp only at hSw); go_simp; try exact rfl
          try simp only [List.setIfInBounds_toArray, List.set_cons_zero, List.set_cons_succ]
          refine tkY (i := 20) (d := 36) (v := ?_) rfl rfl ?_ ?_
          rotate_left
          · intro w' hSw; (try dsimp only at hSw); go_simp; try exact rfl
          try simp only [List.setIfInBounds_toArray, List.set_cons_zero, List.set_cons_succ]
          refine tkY (i := 21) (d := 37) (v := ?_) rfl rfl ?_ ?_
          rotate_left
          · intro w' hSw; (try dsimp only at hSw); go_simp; try exact rfl
          try simp only [List.setIfInBounds_toArray, List.set_cons_zero, List.set_cons_succ]
          refine tkY (i := 22) (d := 38) (v := ?_) rfl rfl ?_ ?_
          rotate_left
          · intro w' hSw; (try dsimp only at hSw); go_simp; try exact rfl
          try simp only [List.setIfInBounds_toArray, List.set_cons_zero, List.set_cons_succ]
          refine wpAnyH_ready (rs := [23]) (by kernel_rfl) (by simp) ?_
          refine AllReadyH.cons rfl (fun K hK => ?_) AllReadyH.nil
          go_simp
          go_at_call 51
          refine (l01InN_any _ _ _ _).mono ?_
          rintro e w1 ⟨rfl, rfl⟩
          try go_wp2_with fail
          refine hK.out _ _ ?_ (fun hHeld23 => ?_)
          · (try dsimp only); refine ⟨?_, ?_⟩ <;> first | (go_simp; done) | (exact cell_later (by assumption) (by go_simp))
          clear hK
          refine tkY (i := 24) (d := 40) (v := ?_) rfl rfl ?_ ?_
          rotate_left
          · intro w' hSw; (try dsimp only at hSw); go_simp; try exact rfl
          try simp only [List.setIfInBounds_toArray, List.set_cons_zero, List.set_cons_succ]
          refine tkY (i := 25) (d := 41) (v := ?_) rfl rfl ?_ ?_
          rotate_left
          · intro w' hSw; (try dsimp only at hSw); go_simp; try exact rfl
          try simp only [List.setIfInBounds_toArray, List.set_cons_zero, List.set_cons_succ]
          refine wpAnyH_done (by kernel_rfl) ?_ _
          go_wp2
          go_returns
          refine ⟨ret_bool ?_, bela⟩
          unfold okSch
          rw [HE.out, HS.out, okCols_no hin]
          simp
        | true =>
          go_wp2_with fail
          refine wp_region_held_drew (S := (fun w' => w'.cell? ⟨wo.heap.size, 0, none⟩ = some (.string x.s) ∧ w'.cell? ⟨wo.heap.size, 1, none⟩ = some (.slice ur x.cs.length cr))) (by kernel_rfl) ?_ (fun hHeld => ?_)
          · (try dsimp only); refine ⟨?_, ?_⟩ <;> first | (go_simp; done) | (exact cell_later (by assumption) (by go_simp))
          refine tkY (i := 0) (d := 16) (v := ?_) rfl rfl ?_ ?_
          rotate_left
          · intro w' hSw; (try dsimp only at hSw); go_simp; try exact rfl
          try simp only [List.setIfInBounds_toArray, List.set_cons_zero, List.set_cons_succ]
          refine tkY (i := 1) (d := 17) (v := ?_) rfl rfl ?_ ?_
          rotate_left
          · intro w' hSw; (try dsimp only at hSw); go_simp; try exact rfl
          try simp only [List.setIfInBounds_toArray, List.set_cons_zero, List.set_cons_succ]
          refine wpAnyH_ready (rs := [2]) (by kernel_rfl) (by simp) ?_
          refine AllReadyH.cons rfl (fun K hK => ?_) AllReadyH.nil
          go_simp
          go_at_call 49
          refine (specName_any x.s _ hxs).mono ?_
          rintro e w1 ⟨rfl, rfl⟩
          try go_wp2_with fail
          refine hK.out _ _ ?_ (fun hHeld2 => ?_)
          · (try dsimp only); refine ⟨?_, ?_⟩ <;> first | (go_simp; done) | (exact cell_later (by assumption) (by go_simp))
          clear hK
          refine tkY (i := 3) (d := 19) (v := ?_) rfl rfl ?_ ?_
          rotate_left
          · intro w' hSw; (try dsimp only at hSw); go_simp; try exact rfl
          try simp only [List.setIfInBounds_toArray, List.set_cons_zero, List.set_cons_succ]
          refine tkY (i := 4) (d := 20) (v := ?_) rfl rfl ?_ ?_
          rotate_left
          · intro w' hSw; (try dsimp only at hSw); go_simp; try exact rfl
          try simp only [List.setIfInBounds_toArray, List.set_cons_zero, List.set_cons_succ]
          refine tkY (i := 5) (d := 21) (v := ?_) rfl rfl ?_ ?_
          rotate_left
          · intro w' hSw; (try dsimp only at hSw); go_simp; try exact rfl
          try simp only [List.setIfInBounds_toArray, List.set_cons_zero, List.set_cons_succ]
          refine tkY (i := 6) (d := 22) (v := ?_) rfl rfl ?_ ?_
          rotate_left
          · intro w' hSw; (try dsimp only at hSw); go_simp; try exact rfl
          try simp only [List.setIfInBounds_toArray, List.set_cons_zero, List.set_cons_succ]
          refine tkY (i := 7) (d := 23) (v := ?_) rfl rfl ?_ ?_
          rotate_left
          · intro w' hSw; (try dsimp only at hSw); go_simp; try exact rfl
          try simp only [List.setIfInBounds_toArray, List.set_cons_zero, List.set_cons_succ]
          refine tkN (i := 8) (d := 24) rfl rfl ?_
          try simp only [List.setIfInBounds_toArray, List.set_cons_zero, List.set_cons_succ]
          refine tkN (i := 9) (d := 25) rfl rfl ?_
          try simp only [List.setIfInBounds_toArray, List.set_cons_zero, List.set_cons_succ]
          refine tkN (i := 10) (d := 26) rfl rfl ?_
          try simp only [List.setIfInBounds_toArray, List.set_cons_zero, List.set_cons_succ]
          refine tkN (i := 11) (d := 27) rfl rfl ?_
          try simp only [List.setIfInBounds_toArray, List.set_cons_zero, List.set_cons_succ]
          refine tkN (i := 12) (d := 28) rfl rfl ?_
          try simp only [List.setIfInBounds_toArray, List.set_cons_zero, List.set_cons_succ]
          refine tkN (i := 13) (d := 29) rfl rfl ?_
          try simp only [List.setIfInBounds_toArray, List.set_cons_zero, List.set_cons_succ]
          refine tkN (i := 14) (d := 30) rfl rfl ?_
          try simp only [List.setIfInBounds_toArray, List.set_cons_zero, List.set_cons_succ]
          refine tkN (i := 15) (d := 31) rfl rfl ?_
          try simp only [List.setIfInBounds_toArray, List.set_cons_zero, List.set_cons_succ]
          refine tkN (i := 16) (d := 32) rfl rfl ?_
          try simp only [List.setIfInBounds_toArray, List.set_cons_zero, List.set_cons_succ]
          refine tkY (i := 17) (d := 33) (v := ?_) rfl rfl ?_ ?_
          rotate_left
          · intro w' hSw; (try dsimp only at hSw); go_simp; try exact rfl
          try simp only [List.setIfInBounds_toArray, List.set_cons_zero, List.set_cons_succ]
          refine tkY (i := 18) (d := 34) (v := ?_) rfl rfl ?_ ?_
          rotate_left
          · intro w' hSw; (try dsimp only at hSw); go_simp; try exact rfl
          try simp only [List.setIfInBounds_toArray, List.set_cons_zero, List.set_cons_succ]
          refine tkY (i := 19) (d := 35) (v := ?_) rfl rfl ?_ ?_
          rotate_left
          · intro w' hSw; (try dsimp only at hSw); go_simp; try exact rfl
          try simp only [List.setIfInBounds_toArray, List.set_cons_zero, List.set_cons_succ]
          refine tkY (i := 20) (d := 36) (v := ?_) rfl rfl ?_ ?_
          rotate_left
          · intro w' hSw; (try dsimp only at hSw); go_simp; try exact rfl
          try simp only [List.setIfInBounds_toArray, List.set_cons_zero, List.set_cons_succ]
          refine tkY (i := 21) (d := 37) (v := ?_) rfl rfl ?_ ?_
          rotate_left
          · intro w' hSw; (try dsimp only at hSw); go_simp; try exact rfl
          try simp only [List.setIfInBounds_toArray, List.set_cons_zero, List.set_cons_succ]
          refine tkY (i := 22) (d := 38) (v := ?_) rfl rfl ?_ ?_
          rotate_left
          · intro w' hSw; (try dsimp only at hSw); go_simp; try exact rfl
          try simp only [List.setIfInBounds_toArray, List.set_cons_zero, List.set_cons_succ]
          refine wpAnyH_ready (rs := [23]) (by kernel_rfl) (by simp) ?_
          refine AllReadyH.cons rfl (fun K hK => ?_) AllReadyH.nil
          go_simp
          go_at_call 51
          refine (l01InN_any _ _ _ _).mono ?_
          rintro e w1 ⟨rfl, rfl⟩
          try go_wp2_with fail
          refine hK.out _ _ ?_ (fun hHeld23 => ?_)
          · (try dsimp only); refine ⟨?_, ?_⟩ <;> first | (go_simp; done) | (exact cell_later (by assumption) (by go_simp))
          clear hK
          refine tkY (i := 24) (d := 40) (v := ?_) rfl rfl ?_ ?_
          rotate_left
          · intro w' hSw; (try dsimp only at hSw); go_simp; try exact rfl
          try simp only [List.setIfInBounds_toArray, List.set_cons_zero, List.set_cons_succ]
          refine tkY (i := 25) (d := 41) (v := ?_) rfl rfl ?_ ?_
          rotate_left
          · intro w' hSw; (try dsimp only at hSw); go_simp; try exact rfl
          try simp only [List.setIfInBounds_toArray, List.set_cons_zero, List.set_cons_succ]
          refine wpAnyH_done (by kernel_rfl) ?_ _
          go_wp2_with fail
          have hb5 : Below wo.heap.size wo (wo.alloc (.cells #[.string x.s, .slice ur x.cs.length cr] 91)).drew := bex
          have q1 : ((wo.alloc (.cells #[.string x.s, .slice ur x.cs.length cr] 91)).drew).cell? ⟨wo.heap.size, 1, none⟩ = some (.slice ur x.cs.length cr) := hHeld23.2
          have hs5 : wo.heap.size < ((wo.alloc (.cells #[.string x.s, .slice ur x.cs.length cr] 91)).drew).heap.size := by simp
          clear hHeld hHeld2 hHeld23
          generalize (wo.alloc (.cells #[.string x.s, .slice ur x.cs.length cr] 91)).drew = w5 at hb5 q1 hs5 ⊢
          have hR5 := hR.below hb5
          have hbw5 : Below w.heap.size w w5 := hb.trans (hb5.mono hzb)
          go_loopw [5] (fun i wi => ∃ n : Nat, n ≤ x.cs.length ∧ i = .int .i64 n ∧ Below w5.heap.size w5 wi ∧ colsB [] x.cs = colsB (x.cs.take n) (x.cs.drop n)) (fun i _ => x.cs.length - (intOf i).toNat)
          case atStart => exact ⟨0, Nat.zero_le _, rfl, Below.refl _ _, by simp⟩
          case round =>
            obtain ⟨n, hn, rfl, hbi, heq2⟩ := hrel
            have HE2 : Hid (colsB [] x.cs = colsB (x.cs.take n) (x.cs.drop n)) := heq2
            clear heq2
            have hzi := hbi.size
            have qi : wr.cell? ⟨wo.heap.size, 1, none⟩ = some (.slice ur x.cs.length cr) := (hbi.cell (p := ⟨wo.heap.size, 1, none⟩) hs5).trans q1
            have hsi : wo.heap.size < wr.heap.size := by omega
            have hbwi : Below w.heap.size w wr := hbw5.trans (hbi.mono hbw5.size)
            by_cases hnl : n < x.cs.length
            · have hRi := hR5.below hbi
              obtain ⟨m, hm⟩ : ∃ m, x.cs[n]? = some m := ⟨x.cs[n], by simp [hnl]⟩
              obtain ⟨g', hcut⟩ := hRi.cut hn
              obtain ⟨a', c', bc, oc, e, _, _, _, h4⟩ := hRi.pick
              obtain ⟨rfl, _, rfl⟩ : ur = a' ∧ x.cs.length = x.cs.length ∧ cr = c' := by injection e with e1 e2 e3; exact ⟨e1, e2, e3⟩
              obtain ⟨rfl, hbc, _, hcell⟩ := h4 n hnl
              have hcm1 := hcell n m hm
              have hms := hxw m (List.mem_of_getElem? hm)
              have HS2 : Hid (colsB (x.cs.take n) (x.cs.drop n) = (nameB m && !hasS (x.cs.take n) m && colsB (x.cs.take (n + 1)) (x.cs.drop (n + 1)))) := colsB_step hm
              have HC : Hid (okCols x.cs = colsB [] x.cs) := okCols_cols hin
              have hncr : n ≤ cr := by omega
              clear h4 hcell hm hRi hR5 hR hxw q1 hin e
              by_cases hnm2 : nameB m = true
              rotate_left
              · have hf2 : nameB m = false := by simpa using hnm2
                have HF2 : Hid (nameB m = false) := hf2
                go_wp2_with fail
                refine wp_region_held_drew (S := (fun w' => w'.cell? ⟨wo.heap.size, 1, none⟩ = some (.slice (some ⟨bc, oc, none⟩) x.cs.length cr) ∧ w'.cell? ⟨bc, oc + n, none⟩ = some (.string m))) (by kernel_rfl) ?_ (fun hHeld => ?_)
                · (try dsimp only); refine ⟨?_, ?_⟩ <;> first | (go_simp; done) | (exact cell_later (by assumption) (by go_simp))
                refine tkY (i := 0) (d := 49) (v := ?_) rfl rfl ?_ ?_
                rotate_left
                · intro w' hSw; (try dsimp only at hSw); go_simp; try exact rfl
                try simp only [List.setIfInBounds_toArray, List.set_cons_zero, List.set_cons_succ]
                refine tkY (i := 1) (d := 50) (v := ?_) rfl rfl ?_ ?_
                rotate_left
                · intro w' hSw; (try dsimp only at hSw); go_simp; try exact rfl
                try simp only [List.setIfInBounds_toArray, List.set_cons_zero, List.set_cons_succ]
                refine tkY (i := 2) (d := 51) (v := ?_) rfl rfl ?_ ?_
                rotate_left
                · intro w' hSw; (try dsimp only at hSw); go_simp; try exact rfl
                try simp only [List.setIfInBounds_toArray, List.set_cons_zero, List.set_cons_succ]
                refine tkY (i := 3) (d := 52) (v := ?_) rfl rfl ?_ ?_
                rotate_left
                · intro w' hSw; (try dsimp only at hSw); go_simp; try exact rfl
                try simp only [List.setIfInBounds_toArray, List.set_cons_zero, List.set_cons_succ]
                refine tkY (i := 4) (d := 53) (v := ?_) rfl rfl ?_ ?_
                rotate_left
                · intro w' hSw; (try dsimp only at hSw); go_simp; try exact rfl
                try simp only [List.setIfInBounds_toArray, List.set_cons_zero, List.set_cons_succ]
                refine wpAnyH_ready (rs := [5]) (by kernel_rfl) (by simp) ?_
                refine AllReadyH.cons rfl (fun K hK => ?_) AllReadyH.nil
                go_simp
                go_at_call 49
                refine (specName_any m _ hms).mono ?_
                rintro e w1 ⟨rfl, rfl⟩
                try go_wp2_with fail
                refine hK.out _ _ ?_ (fun hHeld5 => ?_)
                · (try dsimp only); refine ⟨?_, ?_⟩ <;> first | (go_simp; done) | (exact cell_later (by assumption) (by go_simp))
                clear hK
                refine tkY (i := 6) (d := 55) (v := ?_) rfl rfl ?_ ?_
                rotate_left
                · intro w' hSw; (try dsimp only at hSw); go_simp; try exact rfl
                try simp only [List.setIfInBounds_toArray, List.set_cons_zero, List.set_cons_succ]
                refine tkY (i := 7) (d := 56) (v := ?_) rfl rfl ?_ ?_
                rotate_left
                · intro w' hSw; (try dsimp only at hSw); go_simp; try exact rfl
                try simp only [List.setIfInBounds_toArray, List.set_cons_zero, List.set_cons_succ]
                refine tkN (i := 8) (d := 57) rfl rfl ?_
                try simp only [List.setIfInBounds_toArray, List.set_cons_zero, List.set_cons_succ]
                refine tkN (i := 9) (d := 58) rfl rfl ?_
                try simp only [List.setIfInBounds_toArray, List.set_cons_zero, List.set_cons_succ]
                refine tkN (i := 10) (d := 59) rfl rfl ?_
                try simp only [List.setIfInBounds_toArray, List.set_cons_zero, List.set_cons_succ]
                refine tkN (i := 11) (d := 60) rfl rfl ?_
                try simp only [List.setIfInBounds_toArray, List.set_cons_zero, List.set_cons_succ]
                refine tkN (i := 12) (d := 61) rfl rfl ?_
                try simp only [List.setIfInBounds_toArray, List.set_cons_zero, List.set_cons_succ]
                refine tkN (i := 13) (d := 62) rfl rfl ?_
                try simp only [List.setIfInBounds_toArray, List.set_cons_zero, List.set_cons_succ]
                refine tkN (i := 14) (d := 63) rfl rfl ?_
                try simp only [List.setIfInBounds_toArray, List.set_cons_zero, List.set_cons_succ]
                refine tkN (i := 15) (d := 64) rfl rfl ?_
                try simp only [List.setIfInBounds_toArray, List.set_cons_zero, List.set_cons_succ]
                refine tkN (i := 16) (d := 65) rfl rfl ?_
                try simp only [List.setIfInBounds_toArray, List.set_cons_zero, List.set_cons_succ]
                refine wpAnyH_ready (rs := [17]) (by kernel_rfl) (by simp) ?_
                refine AllReadyH.cons rfl (fun K hK => ?_) AllReadyH.nil
                go_simp
                refine hK.out _ _ ?_ (fun hHeld17 => ?_)
                · (try dsimp only); refine ⟨?_, ?_⟩ <;> first | (go_simp; done) | (exact cell_later (by assumption) (by go_simp))
                clear hK
                refine tkY (i := 18) (d := 67) (v := ?_) rfl rfl ?_ ?_
                rotate_left
                · intro w' hSw; (try dsimp only at hSw); go_simp; try exact rfl
                try simp only [List.setIfInBounds_toArray, List.set_cons_zero, List.set_cons_succ]
                refine wpAnyH_done (by kernel_rfl) ?_ _
                go_wp2
                go_returns
                refine ⟨ret_bool ?_, bela⟩
                unfold okSch
                rw [HE.out, HS.out, HC.out, HE2.out, HS2.out, HF2.out]
                simp
              have HN2 : Hid (nameB m = true) := hnm2
              obtain ⟨hs, HH⟩ : ∃ hs, Hid (hasS (x.cs.take n) m = hs) := ⟨_, rfl⟩
              cases hs with
              | true =>
                go_wp2_with fail
                refine wp_region_held_drew (S := (fun w' => w'.cell? ⟨wo.heap.size, 1, none⟩ = some (.slice (some ⟨bc, oc, none⟩) x.cs.length cr) ∧ w'.cell? ⟨bc, oc + n, none⟩ = some (.string m))) (by kernel_rfl) ?_ (fun hHeld => ?_)
                · (try dsimp only); refine ⟨?_, ?_⟩ <;> first | (go_simp; done) | (exact cell_later (by assumption) (by go_simp))
                refine tkY (i := 0) (d := 49) (v := ?_) rfl rfl ?_ ?_
                rotate_left
                · intro w' hSw; (try dsimp only at hSw); go_simp; try exact rfl
                try simp only [List.setIfInBounds_toArray, List.set_cons_zero, List.set_cons_succ]
                refine tkY (i := 1) (d := 50) (v := ?_) rfl rfl ?_ ?_
                rotate_left
                · intro w' hSw; (try dsimp only at hSw); go_simp; try exact rfl
                try simp only [List.setIfInBounds_toArray, List.set_cons_zero, List.set_cons_succ]
                refine tkY (i := 2) (d := 51) (v := ?_) rfl rfl ?_ ?_
                rotate_left
                · intro w' hSw; (try dsimp only at hSw); go_simp; try exact rfl
                try simp only [List.setIfInBounds_toArray, List.set_cons_zero, List.set_cons_succ]
                refine tkY (i := 3) (d := 52) (v := ?_) rfl rfl ?_ ?_
                rotate_left
                · intro w' hSw; (try dsimp only at hSw); go_simp; try exact rfl
                try simp only [List.setIfInBounds_toArray, List.set_cons_zero, List.set_cons_succ]
                refine tkY (i := 4) (d := 53) (v := ?_) rfl rfl ?_ ?_
                rotate_left
                · intro w' hSw; (try dsimp only at hSw); go_simp; try exact rfl
                try simp only [List.setIfInBounds_toArray, List.set_cons_zero, List.set_cons_succ]
                refine wpAnyH_ready (rs := [5]) (by kernel_rfl) (by simp) ?_
                refine AllReadyH.cons rfl (fun K hK => ?_) AllReadyH.nil
                go_simp
                go_at_call 49
                refine (specName_any m _ hms).mono ?_
                rintro e w1 ⟨rfl, rfl⟩
                try go_wp2_with fail
                refine hK.out _ _ ?_ (fun hHeld5 => ?_)
                · (try dsimp only); refine ⟨?_, ?_⟩ <;> first | (go_simp; done) | (exact cell_later (by assumption) (by go_simp))
                clear hK
                refine tkY (i := 6) (d := 55) (v := ?_) rfl rfl ?_ ?_
                rotate_left
                · intro w' hSw; (try dsimp only at hSw); go_simp; try exact rfl
                try simp only [List.setIfInBounds_toArray, List.set_cons_zero, List.set_cons_succ]
                refine tkY (i := 7) (d := 56) (v := ?_) rfl rfl ?_ ?_
                rotate_left
                · intro w' hSw; (try dsimp only at hSw); go_simp; try exact rfl
                try simp only [List.setIfInBounds_toArray, List.set_cons_zero, List.set_cons_succ]
                refine tkY (i := 8) (d := 57) (v := ?_) rfl rfl ?_ ?_
                rotate_left
                · intro w' hSw; (try dsimp only at hSw); go_simp; try exact rfl
                try simp only [List.setIfInBounds_toArray, List.set_cons_zero, List.set_cons_succ]
                refine tkY (i := 9) (d := 58) (v := ?_) rfl rfl ?_ ?_
                rotate_left
                · intro w' hSw; (try dsimp only at hSw); go_simp; try exact rfl
                try simp only [List.setIfInBounds_toArray, List.set_cons_zero, List.set_cons_succ]
                refine tkY (i := 10) (d := 59) (v := ?_) rfl rfl ?_ ?_
                rotate_left
                · intro w' hSw; (try dsimp only at hSw); go_simp; try exact rfl
                try simp only [List.setIfInBounds_toArray, List.set_cons_zero, List.set_cons_succ]
                refine tkY (i := 11) (d := 60) (v := ?_) rfl rfl ?_ ?_
                rotate_left
                · intro w' hSw; (try dsimp only at hSw); go_simp; try exact rfl
                try simp only [List.setIfInBounds_toArray, List.set_cons_zero, List.set_cons_succ]
                refine tkY (i := 12) (d := 61) (v := ?_) rfl rfl ?_ ?_
                rotate_left
                · intro w' hSw; (try dsimp only at hSw); go_simp; try exact rfl
                try simp only [List.setIfInBounds_toArray, List.set_cons_zero, List.set_cons_succ]
                refine tkY (i := 13) (d := 62) (v := ?_) rfl rfl ?_ ?_
                rotate_left
                · intro w' hSw; (try dsimp only at hSw); go_simp; try exact rfl
                try simp only [List.setIfInBounds_toArray, List.set_cons_zero, List.set_cons_succ]
                refine tkY (i := 14) (d := 63) (v := ?_) rfl rfl ?_ ?_
                rotate_left
                · intro w' hSw; (try dsimp only at hSw); go_simp; try exact rfl
                try simp only [List.setIfInBounds_toArray, List.set_cons_zero, List.set_cons_succ]
                refine tkY (i := 15) (d := 64) (v := ?_) rfl rfl ?_ ?_
                rotate_left
                · intro w' hSw; (try dsimp only at hSw); go_simp; try exact rfl
                try simp only [List.setIfInBounds_toArray, List.set_cons_zero, List.set_cons_succ]
                refine tkY (i := 16) (d := 65) (v := ?_) rfl rfl ?_ ?_
                rotate_left
                · intro w' hSw; (try dsimp only at hSw); go_simp; try exact rfl
                try simp only [List.setIfInBounds_toArray, List.set_cons_zero, List.set_cons_succ]
                refine wpAnyH_ready (rs := [17]) (by kernel_rfl) (by simp) ?_
                refine AllReadyH.cons rfl (fun K hK => ?_) AllReadyH.nil
                go_simp
                go_at_call 78
                refine Calls.mono (l03HasF_any _ _ g' m _ (hcut.below (bela))) ?_
                rw [HH.out]
                rintro e w1 ⟨rfl, rfl⟩
                try go_wp2_with fail
                refine hK.out _ _ ?_ (fun hHeld17 => ?_)
                · (try dsimp only); refine ⟨?_, ?_⟩ <;> first | (go_simp; done) | (exact cell_later (by assumption) (by go_simp))
                clear hK
                refine tkY (i := 18) (d := 67) (v := ?_) rfl rfl ?_ ?_
                rotate_left
                · intro w' hSw; (try dsimp only at hSw); go_simp; try exact rfl
                try simp only [List.setIfInBounds_toArray, List.set_cons_zero, List.set_cons_succ]
                refine wpAnyH_done (by kernel_rfl) ?_ _
                go_wp2
                go_returns
                refine ⟨ret_bool ?_, bela⟩
                unfold okSch
                rw [HE.out, HS.out, HC.out, HE2.out, HS2.out, HN2.out, HH.out]
                simp
              | false =>
                go_wp2_with fail
                refine wp_region_held_drew (S := (fun w' => w'.cell? ⟨wo.heap.size, 1, none⟩ = some (.slice (some ⟨bc, oc, none⟩) x.cs.length cr) ∧ w'.cell? ⟨bc, oc + n, none⟩ = some (.string m))) (by kernel_rfl) ?_ (fun hHeld => ?_)
                · (try dsimp only); refine ⟨?_, ?_⟩ <;> first | (go_simp; done) | (exact cell_later (by assumption) (by go_simp))
                refine tkY (i := 0) (d := 49) (v := ?_) rfl rfl ?_ ?_
                rotate_left
                · intro w' hSw; (try dsimp only at hSw); go_simp; try exact rfl
                try simp only [List.setIfInBounds_toArray, List.set_cons_zero, List.set_cons_succ]
                refine tkY (i := 1) (d := 50) (v := ?_) rfl rfl ?_ ?_
                rotate_left
                · intro w' hSw; (try dsimp only at hSw); go_simp; try exact rfl
                try simp only [List.setIfInBounds_toArray, List.set_cons_zero, List.set_cons_succ]
                refine tkY (i := 2) (d := 51) (v := ?_) rfl rfl ?_ ?_
                rotate_left
                · intro w' hSw; (try dsimp only at hSw); go_simp; try exact rfl
                try simp only [List.setIfInBounds_toArray, List.set_cons_zero, List.set_cons_succ]
                refine tkY (i := 3) (d := 52) (v := ?_) rfl rfl ?_ ?_
                rotate_left
                · intro w' hSw; (try dsimp only at hSw); go_simp; try exact rfl
                try simp only [List.setIfInBounds_toArray, List.set_cons_zero, List.set_cons_succ]
                refine tkY (i := 4) (d := 53) (v := ?_) rfl rfl ?_ ?_
                rotate_left
                · intro w' hSw; (try dsimp only at hSw); go_simp; try exact rfl
                try simp only [List.setIfInBounds_toArray, List.set_cons_zero, List.set_cons_succ]
                refine wpAnyH_ready (rs := [5]) (by kernel_rfl) (by simp) ?_
                refine AllReadyH.cons rfl (fun K hK => ?_) AllReadyH.nil
                go_simp
                go_at_call 49
                refine (specName_any m _ hms).mono ?_
                rintro e w1 ⟨rfl, rfl⟩
                try go_wp2_with fail
                refine hK.out _ _ ?_ (fun hHeld5 => ?_)
                · (try dsimp only); refine ⟨?_, ?_⟩ <;> first | (go_simp; done) | (exact cell_later (by assumption) (by go_simp))
                clear hK
                refine tkY (i := 6) (d := 55) (v := ?_) rfl rfl ?_ ?_
                rotate_left
                · intro w' hSw; (try dsimp only at hSw); go_simp; try exact rfl
                try simp only [List.setIfInBounds_toArray, List.set_cons_zero, List.set_cons_succ]
                refine tkY (i := 7) (d := 56) (v := ?_) rfl rfl ?_ ?_
                rotate_left
                · intro w' hSw; (try dsimp only at hSw); go_simp; try exact rfl
                try simp only [List.setIfInBounds_toArray, List.set_cons_zero, List.set_cons_succ]
                refine tkY (i := 8) (d := 57) (v := ?_) rfl rfl ?_ ?_
                rotate_left
                · intro w' hSw; (try dsimp only at hSw); go_simp; try exact rfl
                try simp only [List.setIfInBounds_toArray, List.set_cons_zero, List.set_cons_succ]
                refine tkY (i := 9) (d := 58) (v := ?_) rfl rfl ?_ ?_
                rotate_left
                · intro w' hSw; (try dsimp only at hSw); go_simp; try exact rfl
                try simp only [List.setIfInBounds_toArray, List.set_cons_zero, List.set_cons_succ]
                refine tkY (i := 10) (d := 59) (v := ?_) rfl rfl ?_ ?_
                rotate_left
                · intro w' hSw; (try dsimp only at hSw); go_simp; try exact rfl
                try simp only [List.setIfInBounds_toArray, List.set_cons_zero, List.set_cons_succ]
                refine tkY (i := 11) (d := 60) (v := ?_) rfl rfl ?_ ?_
                rotate_left
                · intro w' hSw; (try dsimp only at hSw); go_simp; try exact rfl
                try simp only [List.setIfInBounds_toArray, List.set_cons_zero, List.set_cons_succ]
                refine tkY (i := 12) (d := 61) (v := ?_) rfl rfl ?_ ?_
                rotate_left
                · intro w' hSw; (try dsimp only at hSw); go_simp; try exact rfl
                try simp only [List.setIfInBounds_toArray, List.set_cons_zero, List.set_cons_succ]
                refine tkY (i := 13) (d := 62) (v := ?_) rfl rfl ?_ ?_
                rotate_left
                · intro w' hSw; (try dsimp only at hSw); go_simp; try exact rfl
                try simp only [List.setIfInBounds_toArray, List.set_cons_zero, List.set_cons_succ]
                refine tkY (i := 14) (d := 63) (v := ?_) rfl rfl ?_ ?_
                rotate_left
                · intro w' hSw; (try dsimp only at hSw); go_simp; try exact rfl
                try simp only [List.setIfInBounds_toArray, List.set_cons_zero, List.set_cons_succ]
                refine tkY (i := 15) (d := 64) (v := ?_) rfl rfl ?_ ?_
                rotate_left
                · intro w' hSw; (try dsimp only at hSw); go_simp; try exact rfl
                try simp only [List.setIfInBounds_toArray, List.set_cons_zero, List.set_cons_succ]
                refine tkY (i := 16) (d := 65) (v := ?_) rfl rfl ?_ ?_
                rotate_left
                · intro w' hSw; (try dsimp only at hSw); go_simp; try exact rfl
                try simp only [List.setIfInBounds_toArray, List.set_cons_zero, List.set_cons_succ]
                refine wpAnyH_ready (rs := [17]) (by kernel_rfl) (by simp) ?_
                refine AllReadyH.cons rfl (fun K hK => ?_) AllReadyH.nil
                go_simp
                go_at_call 78
                refine Calls.mono (l03HasF_any _ _ g' m _ (hcut.below (bela))) ?_
                rw [HH.out]
                rintro e w1 ⟨rfl, rfl⟩
                try go_wp2_with fail
                refine hK.out _ _ ?_ (fun hHeld17 => ?_)
                · (try dsimp only); refine ⟨?_, ?_⟩ <;> first | (go_simp; done) | (exact cell_later (by assumption) (by go_simp))
                clear hK
                refine tkY (i := 18) (d := 67) (v := ?_) rfl rfl ?_ ?_
                rotate_left
                · intro w' hSw; (try dsimp only at hSw); go_simp; try exact rfl
                try simp only [List.setIfInBounds_toArray, List.set_cons_zero, List.set_cons_succ]
                refine wpAnyH_done (by kernel_rfl) ?_ _
                go_wp2
                refine ⟨⟨n + 1, hnl, by simp, by (repeat (first | exact hbi | refine Below.drew ?_)), ?_⟩, by simp [intOf]; omega⟩
                rw [HE2.out, HS2.out, HN2.out, HH.out]
                simp
            · have HC : Hid (okCols x.cs = true) := by
                show okCols x.cs = true
                rw [okCols_cols hin, HE2.out, List.drop_eq_nil_of_le (by omega)]; rfl
              clear hR5 hR hxw hin q1
              go_wp2_with fail
              refine ⟨⟨1, 1, hlt, rfl, by simp, by (repeat (first | exact hbwi | refine Below.drew ?_)), ?_⟩, by simp [intOf]; omega⟩
              rw [HE.out, HS.out, hnm, HC.out, prevH_zero]
              simp [okPrevH]
      · obtain ⟨j, rfl⟩ : ∃ j, k = j + 1 := ⟨k - 1, by omega⟩
        obtain rfl : q = (j : Int) + 1 := by omega
        obtain ⟨y, t, gy, hy, d0, d1, hT, _⟩ := hL.at hblt hb (show j < rs.length by omega)
        have HP : Hid (prevH rs (j + 1) = some y) := prevH_succ hy
        have HQ : Hid (okPrevH (prevH rs (j + 1)) x = Op.bytesLess y.s.toList x.s.toList) := by rw [HP.out]; rfl
        have hw1 : IntKind.i64.wrap (j : Int) = j := by rw [IntKind.wrap_i64]; omega
        have hw2 : IntKind.i64.wrap ((j : Int) + 1 - 1) = j := by rw [IntKind.wrap_i64]; omega
        have hi0 : (0 : Int) ≤ j := by omega
        have hi1 : (j : Int) < rs.length := by omega
        have hi2 : (0 : Int) < (j : Int) + 1 := by omega
        clear ha hw hL hx hy hq d1 hT
        cases hcmp : Op.bytesLess y.s.toList x.s.toList with
        | false =>
          have hor : (Op.bytesLess x.s.toList y.s.toList || x.s.toList == y.s.toList) = true := by
            cases h1 : Op.bytesLess x.s.toList y.s.toList with
            | true => rfl
            | false =>
              cases h2 : x.s.toList == y.s.toList with
              | true => rfl
              | false => have := bless_total h1 (by simpa using h2); rw [hcmp] at this; cases this
          go_wp2_with fail
          refine wp_region_held_drew (S := (fun w' => w'.cell? ⟨wo.heap.size, 0, none⟩ = some (.string x.s) ∧ w'.cell? ⟨wo.heap.size, 1, none⟩ = some (.slice ur x.cs.length cr) ∧ w'.cell? ⟨b, o + j * 2, none⟩ = some (.string y.s))) (by kernel_rfl) ?_ (fun hHeld => ?_)
          · (try dsimp only); refine ⟨?_, ?_, ?_⟩ <;> first | (go_simp; done) | (exact cell_later (by assumption) (by go_simp))
          refine tkY (i := 0) (d := 16) (v := ?_) rfl rfl ?_ ?_
          rotate_left
          · intro w' hSw; (try dsimp only at hSw); go_simp; try exact rfl
          try simp only [List.setIfInBounds_toArray, List.set_cons_zero, List.set_cons_succ]
          refine tkY (i := 1) (d := 17) (v := ?_) rfl rfl ?_ ?_
          rotate_left
          · intro w' hSw; (try dsimp only at hSw); go_simp; try exact rfl
          try simp only [List.setIfInBounds_toArray, List.set_cons_zero, List.set_cons_succ]
          refine wpAnyH_ready (rs := [2]) (by kernel_rfl) (by simp) ?_
          refine AllReadyH.cons rfl (fun K hK => ?_) AllReadyH.nil
          go_simp
          go_at_call 49
          refine (specName_any x.s _ hxs).mono ?_
          rintro e w1 ⟨rfl, rfl⟩
          try go_wp2_with fail
          refine hK.out _ _ ?_ (fun hHeld2 => ?_)
          · (try dsimp only); refine ⟨?_, ?_, ?_⟩ <;> first | (go_simp; done) | (exact cell_later (by assumption) (by go_simp))
          clear hK
          refine tkY (i := 3) (d := 19) (v := ?_) rfl rfl ?_ ?_
          rotate_left
          · intro w' hSw; (try dsimp only at hSw); go_simp; try exact rfl
          try simp only [List.setIfInBounds_toArray, List.set_cons_zero, List.set_cons_succ]
          refine tkY (i := 4) (d := 20) (v := ?_) rfl rfl ?_ ?_
          rotate_left
          · intro w' hSw; (try dsimp only at hSw); go_simp; try exact rfl
          try simp only [List.setIfInBounds_toArray, List.set_cons_zero, List.set_cons_succ]
          refine tkY (i := 5) (d := 21) (v := ?_) rfl rfl ?_ ?_
          rotate_left
          · intro w' hSw; (try dsimp only at hSw); go_simp; try exact rfl
          try simp only [List.setIfInBounds_toArray, List.set_cons_zero, List.set_cons_succ]
          refine tkY (i := 6) (d := 22) (v := ?_) rfl rfl ?_ ?_
          rotate_left
          · intro w' hSw; (try dsimp only at hSw); go_simp; try exact rfl
          try simp only [List.setIfInBounds_toArray, List.set_cons_zero, List.set_cons_succ]
          refine tkY (i := 7) (d := 23) (v := ?_) rfl rfl ?_ ?_
          rotate_left
          · intro w' hSw; (try dsimp only at hSw); go_simp; try exact rfl
          try simp only [List.setIfInBounds_toArray, List.set_cons_zero, List.set_cons_succ]
          refine tkY (i := 8) (d := 24) (v := ?_) rfl rfl ?_ ?_
          rotate_left
          · intro w' hSw; (try dsimp only at hSw); go_simp; try exact rfl
          try simp only [List.setIfInBounds_toArray, List.set_cons_zero, List.set_cons_succ]
          refine tkY (i := 9) (d := 25) (v := ?_) rfl rfl ?_ ?_
          rotate_left
          · intro w' hSw; (try dsimp only at hSw); go_simp; try exact rfl
          try simp only [List.setIfInBounds_toArray, List.set_cons_zero, List.set_cons_succ]
          refine tkY (i := 10) (d := 26) (v := ?_) rfl rfl ?_ ?_
          rotate_left
          · intro w' hSw; (try dsimp only at hSw); go_simp; try exact rfl
          try simp only [List.setIfInBounds_toArray, List.set_cons_zero, List.set_cons_succ]
          refine tkY (i := 11) (d := 27) (v := ?_) rfl rfl ?_ ?_
          rotate_left
          · intro w' hSw; (try dsimp only at hSw); go_simp; try exact rfl
          try simp only [List.setIfInBounds_toArray, List.set_cons_zero, List.set_cons_succ]
          refine tkY (i := 12) (d := 28) (v := ?_) rfl rfl ?_ ?_
          rotate_left
          · intro w' hSw; (try dsimp only at hSw); go_simp; try exact rfl
          try simp only [List.setIfInBounds_toArray, List.set_cons_zero, List.set_cons_succ]
          refine tkY (i := 13) (d := 29) (v := ?_) rfl rfl ?_ ?_
          rotate_left
          · intro w' hSw; (try dsimp only at hSw); go_simp; try exact rfl
          try simp only [List.setIfInBounds_toArray, List.set_cons_zero, List.set_cons_succ]
          refine tkY (i := 14) (d := 30) (v := ?_) rfl rfl ?_ ?_
          rotate_left
          · intro w' hSw; (try dsimp only at hSw); go_simp; try exact rfl
          try simp only [List.setIfInBounds_toArray, List.set_cons_zero, List.set_cons_succ]
          refine tkY (i := 15) (d := 31) (v := ?_) rfl rfl ?_ ?_
          rotate_left
          · intro w' hSw; (try dsimp only at hSw); go_simp; try exact rfl
          try simp only [List.setIfInBounds_toArray, List.set_cons_zero, List.set_cons_succ]
          refine tkY (i := 16) (d := 32) (v := ?_) rfl rfl ?_ ?_
          rotate_left
          · intro w' hSw; (try dsimp only at hSw); go_simp; try exact rfl
          try simp only [List.setIfInBounds_toArray, List.set_cons_zero, List.set_cons_succ]
          refine tkY (i := 17) (d := 33) (v := ?_) rfl rfl ?_ ?_
          rotate_left
          · intro w' hSw; (try dsimp only at hSw); go_simp; try exact rfl
          try simp only [List.setIfInBounds_toArray, List.set_cons_zero, List.set_cons_succ]
          refine tkY (i := 18) (d := 34) (v := ?_) rfl rfl ?_ ?_
          rotate_left
          · intro w' hSw; (try dsimp only at hSw); go_simp; try exact rfl
          try simp only [List.setIfInBounds_toArray, List.set_cons_zero, List.set_cons_succ]
          refine tkY (i := 19) (d := 35) (v := ?_) rfl rfl ?_ ?_
          rotate_left
          · intro w' hSw; (try dsimp only at hSw); go_simp; try exact rfl
          try simp only [List.setIfInBounds_toArray, List.set_cons_zero, List.set_cons_succ]
          refine tkN (i := 20) (d := 36) rfl rfl ?_
          try simp only [List.setIfInBounds_toArray, List.set_cons_zero, List.set_cons_succ]
          refine tkN (i := 21) (d := 37) rfl rfl ?_
          try simp only [List.setIfInBounds_toArray, List.set_cons_zero, List.set_cons_succ]
          refine tkN (i := 22) (d := 38) rfl rfl ?_
          try simp only [List.setIfInBounds_toArray, List.set_cons_zero, List.set_cons_succ]
          refine wpAnyH_ready (rs := [23]) (by kernel_rfl) (by simp) ?_
          refine AllReadyH.cons rfl (fun K hK => ?_) AllReadyH.nil
          go_simp
          refine hK.out _ _ ?_ (fun hHeld23 => ?_)
          · (try dsimp only); refine ⟨?_, ?_, ?_⟩ <;> first | (go_simp; done) | (exact cell_later (by assumption) (by go_simp))
          clear hK
          refine tkN (i := 24) (d := 40) rfl rfl ?_
          try simp only [List.setIfInBounds_toArray, List.set_cons_zero, List.set_cons_succ]
          refine tkY (i := 25) (d := 41) (v := ?_) rfl rfl ?_ ?_
          rotate_left
          · intro w' hSw; (try dsimp only at hSw); go_simp; try exact rfl
          try simp only [List.setIfInBounds_toArray, List.set_cons_zero, List.set_cons_succ]
          refine wpAnyH_done (by kernel_rfl) ?_ _
          go_wp2
          go_returns
          refine ⟨ret_bool ?_, bela⟩
          unfold okSch
          rw [HE.out, HS.out, HQ.out, hcmp]
          simp
        | true =>
          have hno : Op.bytesLess x.s.toList y.s.toList = false := bless_asymm hcmp
          have hne : (x.s.toList == y.s.toList) = false := by
            cases h2 : x.s.toList == y.s.toList with
            | false => rfl
            | true => rw [beq_iff_eq] at h2; rw [h2, bless_irrefl] at hcmp; cases hcmp
          cases hin : inB x.cs.length 1 12 with
          | false =>
            go_wp2_with fail
            refine wp_region_held_drew (S := (fun w' => w'.cell? ⟨wo.heap.size, 0, none⟩ = some (.string x.s) ∧ w'.cell? ⟨wo.heap.size, 1, none⟩ = some (.slice ur x.cs.length cr) ∧ w'.cell? ⟨b, o + j * 2, none⟩ = some (.string y.s))) (by kernel_rfl) ?_ (fun hHeld => ?_)
            · (try dsimp only); refine ⟨?_, ?_, ?_⟩ <;> first | (go_simp; done) | (exact cell_later (by assumption) (by go_simp))
            refine tkY (i := 0) (d := 16) (v := ?_) rfl rfl ?_ ?_
            rotate_left
            · intro w' hSw; (try dsimp only at hSw); go_simp; try exact rfl
            try simp only [List.setIfInBounds_toArray, List.set_cons_zero, List.set_cons_succ]
            refine tkY (i := 1) (d := 17) (v := ?_) rfl rfl ?_ ?_
            rotate_left
            · intro w' hSw; (try dsimp only at hSw); go_simp; try exact rfl
            try simp only [List.setIfInBounds_toArray, List.set_cons_zero, List.set_cons_succ]
            refine wpAnyH_ready (rs := [2]) (by kernel_rfl) (by simp) ?_
            refine AllReadyH.cons rfl (fun K hK => ?_) AllReadyH.nil
            go_simp
            go_at_call 49
            refine (specName_any x.s _ hxs).mono ?_
            rintro e w1 ⟨rfl, rfl⟩
            try go_wp2_with fail
            refine hK.out _ _ ?_ (fun hHeld2 => ?_)
            · (try dsimp only); refine ⟨?_, ?_, ?_⟩ <;> first | (go_simp; done) | (exact cell_later (by assumption) (by go_simp))
            clear hK
            refine tkY (i := 3) (d := 19) (v := ?_) rfl rfl ?_ ?_
            rotate_left
            · intro w' hSw; (try dsimp only at hSw); go_simp; try exact rfl
            try simp only [List.setIfInBounds_toArray, List.set_cons_zero, List.set_cons_succ]
            refine tkY (i := 4) (d := 20) (v := ?_) rfl rfl ?_ ?_
            rotate_left
            · intro w' hSw; (try dsimp only at hSw); go_simp; try exact rfl
            try simp only [List.setIfInBounds_toArray, List.set_cons_zero, List.set_cons_succ]
            refine tkY (i := 5) (d := 21) (v := ?_) rfl rfl ?_ ?_
            rotate_left
            · intro w' hSw; (try dsimp only at hSw); go_simp; try exact rfl
            try simp only [List.setIfInBounds_toArray, List.set_cons_zero, List.set_cons_succ]
            refine tkY (i := 6) (d := 22) (v := ?_) rfl rfl ?_ ?_
            rotate_left
            · intro w' hSw; (try dsimp only at hSw); go_simp; try exact rfl
            try simp only [List.setIfInBounds_toArray, List.set_cons_zero, List.set_cons_succ]
            refine tkY (i := 7) (d := 23) (v := ?_) rfl rfl ?_ ?_
            rotate_left
            · intro w' hSw; (try dsimp only at hSw); go_simp; try exact rfl
            try simp only [List.setIfInBounds_toArray, List.set_cons_zero, List.set_cons_succ]
            refine tkY (i := 8) (d := 24) (v := ?_) rfl rfl ?_ ?_
            rotate_left
            · intro w' hSw; (try dsimp only at hSw); go_simp; try exact rfl
            try simp only [List.setIfInBounds_toArray, List.set_cons_zero, List.set_cons_succ]
            refine tkY (i := 9) (d := 25) (v := ?_) rfl rfl ?_ ?_
            rotate_left
            · intro w' hSw; (try dsimp only at hSw); go_simp; try exact rfl
            try simp only [List.setIfInBounds_toArray, List.set_cons_zero, List.set_cons_succ]
            refine tkY (i := 10) (d := 26) (v := ?_) rfl rfl ?_ ?_
            rotate_left
            · intro w' hSw; (try dsimp only at hSw); go_simp; try exact rfl
            try simp only [List.setIfInBounds_toArray, List.set_cons_zero, List.set_cons_succ]
            refine tkY (i := 11) (d := 27) (v := ?_) rfl rfl ?_ ?_
            rotate_left
            · intro w' hSw; (try dsimp only at hSw); go_simp; try exact rfl
            try simp only [List.setIfInBounds_toArray, List.set_cons_zero, List.set_cons_succ]
            refine tkY (i := 12) (d := 28) (v := ?_) rfl rfl ?_ ?_
            rotate_left
            · intro w' hSw; (try dsimp only at hSw); go_simp; try exact rfl
            try simp only [List.setIfInBounds_toArray, List.set_cons_zero, List.set_cons_succ]
            refine tkY (i := 13) (d := 29) (v := ?_) rfl rfl ?_ ?_
            rotate_left
            · intro w' hSw; (try dsimp only at hSw); go_simp; try exact rfl
            try simp only [List.setIfInBounds_toArray, List.set_cons_zero, List.set_cons_succ]
            refine tkY (i := 14) (d := 30) (v := ?_) rfl rfl ?_ ?_
            rotate_left
            · intro w' hSw; (try dsimp only at hSw); go_simp; try exact rfl
            try simp only [List.setIfInBounds_toArray, List.set_cons_zero, List.set_cons_succ]
            refine tkY (i := 15) (d := 31) (v := ?_) rfl rfl ?_ ?_
            rotate_left
            · intro w' hSw; (try dsimp only at hSw); go_simp; try exact rfl
            try simp only [List.setIfInBounds_toArray, List.set_cons_zero, List.set_cons_succ]
            refine tkY (i := 16) (d := 32) (v := ?_) rfl rfl ?_ ?_
            rotate_left
            · intro w' hSw; (try dsimp only at hSw); go_simp; try exact rfl
            try simp only [List.setIfInBounds_toArray, List.set_cons_zero, List.set_cons_succ]
            refine tkY (i := 17) (d := 33) (v := ?_) rfl rfl ?_ ?_
            rotate_left
            · intro w' hSw; (try dsimp only at hSw); go_simp; try exact rfl
            try simp only [List.setIfInBounds_toArray, List.set_cons_zero, List.set_cons_succ]
            refine tkY (i := 18) (d := 34) (v := ?_) rfl rfl ?_ ?_
            rotate_left
            · intro w' hSw; (try dsimp only at hSw); go_simp; try exact rfl
            try simp only [List.setIfInBounds_toArray, List.set_cons_zero, List.set_cons_succ]
            refine tkY (i := 19) (d := 35) (v := ?_) rfl rfl ?_ ?_
            rotate_left
            · intro w' hSw; (try dsimp only at hSw); go_simp; try exact rfl
            try simp only [List.setIfInBounds_toArray, List.set_cons_zero, List.set_cons_succ]
            refine tkY (i := 20) (d := 36) (v := ?_) rfl rfl ?_ ?_
            rotate_left
            · intro w' hSw; (try dsimp only at hSw); go_simp; try exact rfl
            try simp only [List.setIfInBounds_toArray, List.set_cons_zero, List.set_cons_succ]
            refine tkY (i := 21) (d := 37) (v := ?_) rfl rfl ?_ ?_
            rotate_left
            · intro w' hSw; (try dsimp only at hSw); go_simp; try exact rfl
            try simp only [List.setIfInBounds_toArray, List.set_cons_zero, List.set_cons_succ]
            refine tkY (i := 22) (d := 38) (v := ?_) rfl rfl ?_ ?_
            rotate_left
            · intro w' hSw; (try dsimp only at hSw); go_simp; try exact rfl
            try simp only [List.setIfInBounds_toArray, List.set_cons_zero, List.set_cons_succ]
            refine wpAnyH_ready (rs := [23]) (by kernel_rfl) (by simp) ?_
            refine AllReadyH.cons rfl (fun K hK => ?_) AllReadyH.nil
            go_simp
            go_at_call 51
            refine (l01InN_any _ _ _ _).mono ?_
            rintro e w1 ⟨rfl, rfl⟩
            try go_wp2_with fail
            refine hK.out _ _ ?_ (fun hHeld23 => ?_)
            · (try dsimp only); refine ⟨?_, ?_, ?_⟩ <;> first | (go_simp; done) | (exact cell_later (by assumption) (by go_simp))
            clear hK
            refine tkY (i := 24) (d := 40) (v := ?_) rfl rfl ?_ ?_
            rotate_left
            · intro w' hSw; (try dsimp only at hSw); go_simp; try exact rfl
            try simp only [List.setIfInBounds_toArray, List.set_cons_zero, List.set_cons_succ]
            refine tkY (i := 25) (d := 41) (v := ?_) rfl rfl ?_ ?_
            rotate_left
            · intro w' hSw; (try dsimp only at hSw); go_simp; try exact rfl
            try simp only [List.setIfInBounds_toArray, List.set_cons_zero, List.set_cons_succ]
            refine wpAnyH_done (by kernel_rfl) ?_ _
            go_wp2
            go_returns
            refine ⟨ret_bool ?_, bela⟩
            unfold okSch
            rw [HE.out, HS.out, okCols_no hin]
            simp
          | true =>
            go_wp2_with fail
            refine wp_region_held_drew (S := (fun w' => w'.cell? ⟨wo.heap.size, 0, none⟩ = some (.string x.s) ∧ w'.cell? ⟨wo.heap.size, 1, none⟩ = some (.slice ur x.cs.length cr) ∧ w'.cell? ⟨b, o + j * 2, none⟩ = some (.string y.s))) (by kernel_rfl) ?_ (fun hHeld => ?_)
            · (try dsimp only); refine ⟨?_, ?_, ?_⟩ <;> first | (go_simp; done) | (exact cell_later (by assumption) (by go_simp))
            refine tkY (i := 0) (d := 16) (v := ?_) rfl rfl ?_ ?_
            rotate_left
            · intro w' hSw; (try dsimp only at hSw); go_simp; try exact rfl
            try simp only [List.setIfInBounds_toArray, List.set_cons_zero, List.set_cons_succ]
            refine tkY (i := 1) (d := 17) (v := ?_) rfl rfl ?_ ?_
            rotate_left
            · intro w' hSw; (try dsimp only at hSw); go_simp; try exact rfl
            try simp only [List.setIfInBounds_toArray, List.set_cons_zero, List.set_cons_succ]
            refine wpAnyH_ready (rs := [2]) (by kernel_rfl) (by simp) ?_
            refine AllReadyH.cons rfl (fun K hK => ?_) AllReadyH.nil
            go_simp
            go_at_call 49
            refine (specName_any x.s _ hxs).mono ?_
            rintro e w1 ⟨rfl, rfl⟩
            try go_wp2_with fail
            refine hK.out _ _ ?_ (fun hHeld2 => ?_)
            · (try dsimp only); refine ⟨?_, ?_, ?_⟩ <;> first | (go_simp; done) | (exact cell_later (by assumption) (by go_simp))
            clear hK
            refine tkY (i := 3) (d := 19) (v := ?_) rfl rfl ?_ ?_
            rotate_left
            · intro w' hSw; (try dsimp only at hSw); go_simp; try exact rfl
            try simp only [List.setIfInBounds_toArray, List.set_cons_zero, List.set_cons_succ]
            refine tkY (i := 4) (d := 20) (v := ?_) rfl rfl ?_ ?_
            rotate_left
            · intro w' hSw; (try dsimp only at hSw); go_simp; try exact rfl
            try simp only [List.setIfInBounds_toArray, List.set_cons_zero, List.set_cons_succ]
            refine tkY (i := 5) (d := 21) (v := ?_) rfl rfl ?_ ?_
            rotate_left
            · intro w' hSw; (try dsimp only at hSw); go_simp; try exact rfl
            try simp only [List.setIfInBounds_toArray, List.set_cons_zero, List.set_cons_succ]
            refine tkY (i := 6) (d := 22) (v := ?_) rfl rfl ?_ ?_
            rotate_left
            · intro w' hSw; (try dsimp only at hSw); go_simp; try exact rfl
            try simp only [List.setIfInBounds_toArray, List.set_cons_zero, List.set_cons_succ]
            refine tkY (i := 7) (d := 23) (v := ?_) rfl rfl ?_ ?_
            rotate_left
            · intro w' hSw; (try dsimp only at hSw); go_simp; try exact rfl
            try simp only [List.setIfInBounds_toArray, List.set_cons_zero, List.set_cons_succ]
            refine tkY (i := 8) (d := 24) (v := ?_) rfl rfl ?_ ?_
            rotate_left
            · intro w' hSw; (try dsimp only at hSw); go_simp; try exact rfl
            try simp only [List.setIfInBounds_toArray, List.set_cons_zero, List.set_cons_succ]
            refine tkY (i := 9) (d := 25) (v := ?_) rfl rfl ?_ ?_
            rotate_left
            · intro w' hSw; (try dsimp only at hSw); go_simp; try exact rfl
            try simp only [List.setIfInBounds_toArray, List.set_cons_zero, List.set_cons_succ]
            refine tkY (i := 10) (d := 26) (v := ?_) rfl rfl ?_ ?_
            rotate_left
            · intro w' hSw; (try dsimp only at hSw); go_simp; try exact rfl
            try simp only [List.setIfInBounds_toArray, List.set_cons_zero, List.set_cons_succ]
            refine tkY (i := 11) (d := 27) (v := ?_) rfl rfl ?_ ?_
            rotate_left
            · intro w' hSw; (try dsimp only at hSw); go_simp; try exact rfl
            try simp only [List.setIfInBounds_toArray, List.set_cons_zero, List.set_cons_succ]
            refine tkY (i := 12) (d := 28) (v := ?_) rfl rfl ?_ ?_
            rotate_left
            · intro w' hSw; (try dsimp only at hSw); go_simp; try exact rfl
            try simp only [List.setIfInBounds_toArray, List.set_cons_zero, List.set_cons_succ]
            refine tkY (i := 13) (d := 29) (v := ?_) rfl rfl ?_ ?_
            rotate_left
            · intro w' hSw; (try dsimp only at hSw); go_simp; try exact rfl
            try simp only [List.setIfInBounds_toArray, List.set_cons_zero, List.set_cons_succ]
            refine tkY (i := 14) (d := 30) (v := ?_) rfl rfl ?_ ?_
            rotate_left
            · intro w' hSw; (try dsimp only at hSw); go_simp; try exact rfl
            try simp only [List.setIfInBounds_toArray, List.set_cons_zero, List.set_cons_succ]
            refine tkY (i := 15) (d := 31) (v := ?_) rfl rfl ?_ ?_
            rotate_left
            · intro w' hSw; (try dsimp only at hSw); go_simp; try exact rfl
            try simp only [List.setIfInBounds_toArray, List.set_cons_zero, List.set_cons_succ]
            refine tkY (i := 16) (d := 32) (v := ?_) rfl rfl ?_ ?_
            rotate_left
            · intro w' hSw; (try dsimp only at hSw); go_simp; try exact rfl
            try simp only [List.setIfInBounds_toArray, List.set_cons_zero, List.set_cons_succ]
            refine tkY (i := 17) (d := 33) (v := ?_) rfl rfl ?_ ?_
            rotate_left
            · intro w' hSw; (try dsimp only at hSw); go_simp; try exact rfl
            try simp only [List.setIfInBounds_toArray, List.set_cons_zero, List.set_cons_succ]
            refine tkY (i := 18) (d := 34) (v := ?_) rfl rfl ?_ ?_
            rotate_left
            · intro w' hSw; (try dsimp only at hSw); go_simp; try exact rfl
            try simp only [List.setIfInBounds_toArray, List.set_cons_zero, List.set_cons_succ]
            refine tkY (i := 19) (d := 35) (v := ?_) rfl rfl ?_ ?_
            rotate_left
            · intro w' hSw; (try dsimp only at hSw); go_simp; try exact rfl
            try simp only [List.setIfInBounds_toArray, List.set_cons_zero, List.set_cons_succ]
            refine tkY (i := 20) (d := 36) (v := ?_) rfl rfl ?_ ?_
            rotate_left
            · intro w' hSw; (try dsimp only at hSw); go_simp; try exact rfl
            try simp only [List.setIfInBounds_toArray, List.set_cons_zero, List.set_cons_succ]
            refine tkY (i := 21) (d := 37) (v := ?_) rfl rfl ?_ ?_
            rotate_left
            · intro w' hSw; (try dsimp only at hSw); go_simp; try exact rfl
            try simp only [List.setIfInBounds_toArray, List.set_cons_zero, List.set_cons_succ]
            refine tkY (i := 22) (d := 38) (v := ?_) rfl rfl ?_ ?_
            rotate_left
            · intro w' hSw; (try dsimp only at hSw); go_simp; try exact rfl
            try simp only [List.setIfInBounds_toArray, List.set_cons_zero, List.set_cons_succ]
            refine wpAnyH_ready (rs := [23]) (by kernel_rfl) (by simp) ?_
            refine AllReadyH.cons rfl (fun K hK => ?_) AllReadyH.nil
            go_simp
            go_at_call 51
            refine (l01InN_any _ _ _ _).mono ?_
            rintro e w1 ⟨rfl, rfl⟩
            try go_wp2_with fail
            refine hK.out _ _ ?_ (fun hHeld23 => ?_)
            · (try dsimp only); refine ⟨?_, ?_, ?_⟩ <;> first | (go_simp; done) | (exact cell_later (by assumption) (by go_simp))
            clear hK
            refine tkY (i := 24) (d := 40) (v := ?_) rfl rfl ?_ ?_
            rotate_left
            · intro w' hSw; (try dsimp only at hSw); go_simp; try exact rfl
            try simp only [List.setIfInBounds_toArray, List.set_cons_zero, List.set_cons_succ]
            refine tkY (i := 25) (d := 41) (v := ?_) rfl rfl ?_ ?_
            rotate_left
            · intro w' hSw; (try dsimp only at hSw); go_simp; try exact rfl
            try simp only [List.setIfInBounds_toArray, List.set_cons_zero, List.set_cons_succ]
            refine wpAnyH_done (by kernel_rfl) ?_ _
            go_wp2_with fail
            have hb5 : Below wo.heap.size wo (wo.alloc (.cells #[.string x.s, .slice ur x.cs.length cr] 91)).drew := bex
            have q1 : ((wo.alloc (.cells #[.string x.s, .slice ur x.cs.length cr] 91)).drew).cell? ⟨wo.heap.size, 1, none⟩ = some (.slice ur x.cs.length cr) := hHeld23.2.1
            have hs5 : wo.heap.size < ((wo.alloc (.cells #[.string x.s, .slice ur x.cs.length cr] 91)).drew).heap.size := by simp
            clear hHeld hHeld2 hHeld23
            generalize (wo.alloc (.cells #[.string x.s, .slice ur x.cs.length cr] 91)).drew = w5 at hb5 q1 hs5 ⊢
            have hR5 := hR.below hb5
            have hbw5 : Below w.heap.size w w5 := hb.trans (hb5.mono hzb)
            go_loopw [5] (fun i wi => ∃ n : Nat, n ≤ x.cs.length ∧ i = .int .i64 n ∧ Below w5.heap.size w5 wi ∧ colsB [] x.cs = colsB (x.cs.take n) (x.cs.drop n)) (fun i _ => x.cs.length - (intOf i).toNat)
            case atStart => exact ⟨0, Nat.zero_le _, rfl, Below.refl _ _, by simp⟩
            case round =>
              obtain ⟨n, hn, rfl, hbi, heq2⟩ := hrel
              have HE2 : Hid (colsB [] x.cs = colsB (x.cs.take n) (x.cs.drop n)) := heq2
              clear heq2
              have hzi := hbi.size
              have qi : wr.cell? ⟨wo.heap.size, 1, none⟩ = some (.slice ur x.cs.length cr) := (hbi.cell (p := ⟨wo.heap.size, 1, none⟩) hs5).trans q1
              have hsi : wo.heap.size < wr.heap.size := by omega
              have hbwi : Below w.heap.size w wr := hbw5.trans (hbi.mono hbw5.size)
              by_cases hnl : n < x.cs.length
              · have hRi := hR5.below hbi
                obtain ⟨m, hm⟩ : ∃ m, x.cs[n]? = some m := ⟨x.cs[n], by simp [hnl]⟩
                obtain ⟨g', hcut⟩ := hRi.cut hn
                obtain ⟨a', c', bc, oc, e, _, _, _, h4⟩ := hRi.pick
                obtain ⟨rfl, _, rfl⟩ : ur = a' ∧ x.cs.length = x.cs.length ∧ cr = c' := by injection e with e1 e2 e3; exact ⟨e1, e2, e3⟩
                obtain ⟨rfl, hbc, _, hcell⟩ := h4 n hnl
                have hcm1 := hcell n m hm
                have hms := hxw m (List.mem_of_getElem? hm)
                have HS2 : Hid (colsB (x.cs.take n) (x.cs.drop n) = (nameB m && !hasS (x.cs.take n) m && colsB (x.cs.take (n + 1)) (x.cs.drop (n + 1)))) := colsB_step hm
                have HC : Hid (okCols x.cs = colsB [] x.cs) := okCols_cols hin
                have hncr : n ≤ cr := by omega
                clear h4 hcell hm hRi hR5 hR hxw q1 hin e
                by_cases hnm2 : nameB m = true
                rotate_left
                · have hf2 : nameB m = false := by simpa using hnm2
                  have HF2 : Hid (nameB m = false) := hf2
                  go_wp2_with fail
                  refine wp_region_held_drew (S := (fun w' => w'.cell? ⟨wo.heap.size, 1, none⟩ = some (.slice (some ⟨bc, oc, none⟩) x.cs.length cr) ∧ w'.cell? ⟨bc, oc + n, none⟩ = some (.string m))) (by kernel_rfl) ?_ (fun hHeld => ?_)
                  · (try dsimp only); refine ⟨?_, ?_⟩ <;> first | (go_simp; done) | (exact cell_later (by assumption) (by go_simp))
                  refine tkY (i := 0) (d := 49) (v := ?_) rfl rfl ?_ ?_
                  rotate_left
                  · intro w' hSw; (try dsimp only at hSw); go_simp; try exact rfl
                  try simp only [List.setIfInBounds_toArray, List.set_cons_zero, List.set_cons_succ]
                  refine tkY (i := 1) (d := 50) (v := ?_) rfl rfl ?_ ?_
                  rotate_left
                  · intro w' hSw; (try dsimp only at hSw); go_simp; try exact rfl
                  try simp only [List.setIfInBounds_toArray, List.set_cons_zero, List.set_cons_succ]
                  refine tkY (i := 2) (d := 51) (v := ?_) rfl rfl ?_ ?_
                  rotate_left
                  · intro w' hSw; (try dsimp only at hSw); go_simp; try exact rfl
                  try simp only [List.setIfInBounds_toArray, List.set_cons_zero, List.set_cons_succ]
                  refine tkY (i := 3) (d := 52) (v := ?_) rfl rfl ?_ ?_
                  rotate_left
                  · intro w' hSw; (try dsimp only at hSw); go_simp; try exact rfl
                  try simp only [List.setIfInBounds_toArray, List.set_cons_zero, List.set_cons_succ]
                  refine tkY (i := 4) (d := 53) (v := ?_) rfl rfl ?_ ?_
                  rotate_left
                  · intro w' hSw; (try dsimp only at hSw); go_simp; try exact rfl
                  try simp only [List.setIfInBounds_toArray, List.set_cons_zero, List.set_cons_succ]
                  refine wpAnyH_ready (rs := [5]) (by kernel_rfl) (by simp) ?_
                  refine AllReadyH.cons rfl (fun K hK => ?_) AllReadyH.nil
                  go_simp
                  go_at_call 49
                  refine (specName_any m _ hms).mono ?_
                  rintro e w1 ⟨rfl, rfl⟩
                  try go_wp2_with fail
                  refine hK.out _ _ ?_ (fun hHeld5 => ?_)
                  · (try dsimp only); refine ⟨?_, ?_⟩ <;> first | (go_simp; done) | (exact cell_later (by assumption) (by go_simp))
                  clear hK
                  refine tkY (i := 6) (d := 55) (v := ?_) rfl rfl ?_ ?_
                  rotate_left
                  · intro w' hSw; (try dsimp only at hSw); go_simp; try exact rfl
                  try simp only [List.setIfInBounds_toArray, List.set_cons_zero, List.set_cons_succ]
                  refine tkY (i := 7) (d := 56) (v := ?_) rfl rfl ?_ ?_
                  rotate_left
                  · intro w' hSw; (try dsimp only at hSw); go_simp; try exact rfl
                  try simp only [List.setIfInBounds_toArray, List.set_cons_zero, List.set_cons_succ]
                  refine tkN (i := 8) (d := 57) rfl rfl ?_
                  try simp only [List.setIfInBounds_toArray, List.set_cons_zero, List.set_cons_succ]
                  refine tkN (i := 9) (d := 58) rfl rfl ?_
                  try simp only [List.setIfInBounds_toArray, List.set_cons_zero, List.set_cons_succ]
                  refine tkN (i := 10) (d := 59) rfl rfl ?_
                  try simp only [List.setIfInBounds_toArray, List.set_cons_zero, List.set_cons_succ]
                  refine tkN (i := 11) (d := 60) rfl rfl ?_
                  try simp only [List.setIfInBounds_toArray, List.set_cons_zero, List.set_cons_succ]
                  refine tkN (i := 12) (d := 61) rfl rfl ?_
                  try simp only [List.setIfInBounds_toArray, List.set_cons_zero, List.set_cons_succ]
                  refine tkN (i := 13) (d := 62) rfl rfl ?_
                  try simp only [List.setIfInBounds_toArray, List.set_cons_zero, List.set_cons_succ]
                  refine tkN (i := 14) (d := 63) rfl rfl ?_
                  try simp only [List.setIfInBounds_toArray, List.set_cons_zero, List.set_cons_succ]
                  refine tkN (i := 15) (d := 64) rfl rfl ?_
                  try simp only [List.setIfInBounds_toArray, List.set_cons_zero, List.set_cons_succ]
                  refine tkN (i := 16) (d := 65) rfl rfl ?_
                  try simp only [List.setIfInBounds_toArray, List.set_cons_zero, List.set_cons_succ]
                  refine wpAnyH_ready (rs := [17]) (by kernel_rfl) (by simp) ?_
                  refine AllReadyH.cons rfl (fun K hK => ?_) AllReadyH.nil
                  go_simp
                  refine hK.out _ _ ?_ (fun hHeld17 => ?_)
                  · (try dsimp only); refine ⟨?_, ?_⟩ <;> first | (go_simp; done) | (exact cell_later (by assumption) (by go_simp))
                  clear hK
                  refine tkY (i := 18) (d := 67) (v := ?_) rfl rfl ?_ ?_
                  rotate_left
                  · intro w' hSw; (try dsimp only at hSw); go_simp; try exact rfl
                  try simp only [List.setIfInBounds_toArray, List.set_cons_zero, List.set_cons_succ]
                  refine wpAnyH_done (by kernel_rfl) ?_ _
                  go_wp2
                  go_returns
                  refine ⟨ret_bool ?_, bela⟩
                  unfold okSch
                  rw [HE.out, HS.out, HC.out, HE2.out, HS2.out, HF2.out]
                  simp
                have HN2 : Hid (nameB m = true) := hnm2
                obtain ⟨hs, HH⟩ : ∃ hs, Hid (hasS (x.cs.take n) m = hs) := ⟨_, rfl⟩
                cases hs with
                | true =>
                  go_wp2_with fail
                  refine wp_region_held_drew (S := (fun w' => w'.cell? ⟨wo.heap.size, 1, none⟩ = some (.slice (some ⟨bc, oc, none⟩) x.cs.length cr) ∧ w'.cell? ⟨bc, oc + n, none⟩ = some (.string m))) (by kernel_rfl) ?_ (fun hHeld => ?_)
                  · (try dsimp only); refine ⟨?_, ?_⟩ <;> first | (go_simp; done) | (exact cell_later (by assumption) (by go_simp))
                  refine tkY (i := 0) (d := 49) (v := ?_) rfl rfl ?_ ?_
                  rotate_left
                  · intro w' hSw; (try dsimp only at hSw); go_simp; try exact rfl
                  try simp only [List.setIfInBounds_toArray, List.set_cons_zero, List.set_cons_succ]
                  refine tkY (i := 1) (d := 50) (v := ?_) rfl rfl ?_ ?_
                  rotate_left
                  · intro w' hSw; (try dsimp only at hSw); go_simp; try exact rfl
                  try simp only [List.setIfInBounds_toArray, List.set_cons_zero, List.set_cons_succ]
                  refine tkY (i := 2) (d := 51) (v := ?_) rfl rfl ?_ ?_
                  rotate_left
                  · intro w' hSw; (try dsimp only at hSw); go_simp; try exact rfl
                  try simp only [List.setIfInBounds_toArray, List.set_cons_zero, List.set_cons_succ]
                  refine tkY (i := 3) (d := 52) (v := ?_) rfl rfl ?_ ?_
                  rotate_left
                  · intro w' hSw; (try dsimp only at hSw); go_simp; try exact rfl
                  try simp only [List.setIfInBounds_toArray, List.set_cons_zero, List.set_cons_succ]
                  refine tkY (i := 4) (d := 53) (v := ?_) rfl rfl ?_ ?_
                  rotate_left
                  · intro w' hSw; (try dsimp only at hSw); go_simp; try exact rfl
                  try simp only [List.setIfInBounds_toArray, List.set_cons_zero, List.set_cons_succ]
                  refine wpAnyH_ready (rs := [5]) (by kernel_rfl) (by simp) ?_
                  refine AllReadyH.cons rfl (fun K hK => ?_) AllReadyH.nil
                  go_simp
                  go_at_call 49
                  refine (specName_any m _ hms).mono ?_
                  rintro e w1 ⟨rfl, rfl⟩
                  try go_wp2_with fail
                  refine hK.out _ _ ?_ (fun hHeld5 => ?_)
                  · (try dsimp only); refine ⟨?_, ?_⟩ <;> first | (go_simp; done) | (exact cell_later (by assumption) (by go_simp))
                  clear hK
                  refine tkY (i := 6) (d := 55) (v := ?_) rfl rfl ?_ ?_
                  rotate_left
                  · intro w' hSw; (try dsimp only at hSw); go_simp; try exact rfl
                  try simp only [List.setIfInBounds_toArray, List.set_cons_zero, List.set_cons_succ]
                  refine tkY (i := 7) (d := 56) (v := ?_) rfl rfl ?_ ?_
                  rotate_left
                  · intro w' hSw; (try dsimp only at hSw); go_simp; try exact rfl
                  try simp only [List.setIfInBounds_toArray, List.set_cons_zero, List.set_cons_succ]
                  refine tkY (i := 8) (d := 57) (v := ?_) rfl rfl ?_ ?_
                  rotate_left
                  · intro w' hSw; (try dsimp only at hSw); go_simp; try exact rfl
                  try simp only [List.setIfInBounds_toArray, List.set_cons_zero, List.set_cons_succ]
                  refine tkY (i := 9) (d := 58) (v := ?_) rfl rfl ?_ ?_
                  rotate_left
                  · intro w' hSw; (try dsimp only at hSw); go_simp; try exact rfl
                  try simp only [List.setIfInBounds_toArray, List.set_cons_zero, List.set_cons_succ]
                  refine tkY (i := 10) (d := 59) (v := ?_) rfl rfl ?_ ?_
                  rotate_left
                  · intro w' hSw; (try dsimp only at hSw); go_simp; try exact rfl
                  try simp only [List.setIfInBounds_toArray, List.set_cons_zero, List.set_cons_succ]
                  refine tkY (i := 11) (d := 60) (v := ?_) rfl rfl ?_ ?_
                  rotate_left
                  · intro w' hSw; (try dsimp only at hSw); go_simp; try exact rfl
                  try simp only [List.setIfInBounds_toArray, List.set_cons_zero, List.set_cons_succ]
                  refine tkY (i := 12) (d := 61) (v := ?_) rfl rfl ?_ ?_
                  rotate_left
                  · intro w' hSw; (try dsimp only at hSw); go_simp; try exact rfl
                  try simp only [List.setIfInBounds_toArray, List.set_cons_zero, List.set_cons_succ]
                  refine tkY (i := 13) (d := 62) (v := ?_) rfl rfl ?_ ?_
                  rotate_left
                  · intro w' hSw; (try dsimp only at hSw); go_simp; try exact rfl
                  try simp only [List.setIfInBounds_toArray, List.set_cons_zero, List.set_cons_succ]
                  refine tkY (i := 14) (d := 63) (v := ?_) rfl rfl ?_ ?_
                  rotate_left
                  · intro w' hSw; (try dsimp only at hSw); go_simp; try exact rfl
                  try simp only [List.setIfInBounds_toArray, List.set_cons_zero, List.set_cons_succ]
                  refine tkY (i := 15) (d := 64) (v := ?_) rfl rfl ?_ ?_
                  rotate_left
                  · intro w' hSw; (try dsimp only at hSw); go_simp; try exact rfl
                  try simp only [List.setIfInBounds_toArray, List.set_cons_zero, List.set_cons_succ]
                  refine tkY (i := 16) (d := 65) (v := ?_) rfl rfl ?_ ?_
                  rotate_left
                  · intro w' hSw; (try dsimp only at hSw); go_simp; try exact rfl
                  try simp only [List.setIfInBounds_toArray, List.set_cons_zero, List.set_cons_succ]
                  refine wpAnyH_ready (rs := [17]) (by kernel_rfl) (by simp) ?_
                  refine AllReadyH.cons rfl (fun K hK => ?_) AllReadyH.nil
                  go_simp
                  go_at_call 78
                  refine Calls.mono (l03HasF_any _ _ g' m _ (hcut.below (bela))) ?_
                  rw [HH.out]
                  rintro e w1 ⟨rfl, rfl⟩
                  try go_wp2_with fail
                  refine hK.out _ _ ?_ (fun hHeld17 => ?_)
                  · (try dsimp only); refine ⟨?_, ?_⟩ <;> first | (go_simp; done) | (exact cell_later (by assumption) (by go_simp))
                  clear hK
                  refine tkY (i := 18) (d := 67) (v := ?_) rfl rfl ?_ ?_
                  rotate_left
                  · intro w' hSw; (try dsimp only at hSw); go_simp; try exact rfl
                  try simp only [List.setIfInBounds_toArray, List.set_cons_zero, List.set_cons_succ]
                  refine wpAnyH_done (by kernel_rfl) ?_ _
                  go_wp2
                  go_returns
                  refine ⟨ret_bool ?_, bela⟩
                  unfold okSch
                  rw [HE.out, HS.out, HC.out, HE2.out, HS2.out, HN2.out, HH.out]
                  simp
                | false =>
                  go_wp2_with fail
                  refine wp_region_held_drew (S := (fun w' => w'.cell? ⟨wo.heap.size, 1, none⟩ = some (.slice (some ⟨bc, oc, none⟩) x.cs.length cr) ∧ w'.cell? ⟨bc, oc + n, none⟩ = some (.string m))) (by kernel_rfl) ?_ (fun hHeld => ?_)
                  · (try dsimp only); refine ⟨?_, ?_⟩ <;> first | (go_simp; done) | (exact cell_later (by assumption) (by go_simp))
                  refine tkY (i := 0) (d := 49) (v := ?_) rfl rfl ?_ ?_
                  rotate_left
                  · intro w' hSw; (try dsimp only at hSw); go_simp; try exact rfl
                  try simp only [List.setIfInBounds_toArray, List.set_cons_zero, List.set_cons_succ]
                  refine tkY (i := 1) (d := 50) (v := ?_) rfl rfl ?_ ?_
                  rotate_left
                  · intro w' hSw; (try dsimp only at hSw); go_simp; try exact rfl
                  try simp only [List.setIfInBounds_toArray, List.set_cons_zero, List.set_cons_succ]
                  refine tkY (i := 2) (d := 51) (v := ?_) rfl rfl ?_ ?_
                  rotate_left
                  · intro w' hSw; (try dsimp only at hSw); go_simp; try exact rfl
                  try simp only [List.setIfInBounds_toArray, List.set_cons_zero, List.set_cons_succ]
                  refine tkY (i := 3) (d := 52) (v := ?_) rfl rfl ?_ ?_
                  rotate_left
                  · intro w' hSw; (try dsimp only at hSw); go_simp; try exact rfl
                  try simp only [List.setIfInBounds_toArray, List.set_cons_zero, List.set_cons_succ]
                  refine tkY (i := 4) (d := 53) (v := ?_) rfl rfl ?_ ?_
                  rotate_left
                  · intro w' hSw; (try dsimp only at hSw); go_simp; try exact rfl
                  try simp only [List.setIfInBounds_toArray, List.set_cons_zero, List.set_cons_succ]
                  refine wpAnyH_ready (rs := [5]) (by kernel_rfl) (by simp) ?_
                  refine AllReadyH.cons rfl (fun K hK => ?_) AllReadyH.nil
                  go_simp
                  go_at_call 49
                  refine (specName_any m _ hms).mono ?_
                  rintro e w1 ⟨rfl, rfl⟩
                  try go_wp2_with fail
                  refine hK.out _ _ ?_ (fun hHeld5 => ?_)
                  · (try dsimp only); refine ⟨?_, ?_⟩ <;> first | (go_simp; done) | (exact cell_later (by assumption) (by go_simp))
                  clear hK
                  refine tkY (i := 6) (d := 55) (v := ?_) rfl rfl ?_ ?_
                  rotate_left
                  · intro w' hSw; (try dsimp only at hSw); go_simp; try exact rfl
                  try simp only [List.setIfInBounds_toArray, List.set_cons_zero, List.set_cons_succ]
                  refine tkY (i := 7) (d := 56) (v := ?_) rfl rfl ?_ ?_
                  rotate_left
                  · intro w' hSw; (try dsimp only at hSw); go_simp; try exact rfl
                  try simp only [List.setIfInBounds_toArray, List.set_cons_zero, List.set_cons_succ]
                  refine tkY (i := 8) (d := 57) (v := ?_) rfl rfl ?_ ?_
                  rotate_left
                  · intro w' hSw; (try dsimp only at hSw); go_simp; try exact rfl
                  try simp only [List.setIfInBounds_toArray, List.set_cons_zero, List.set_cons_succ]
                  refine tkY (i := 9) (d := 58) (v := ?_) rfl rfl ?_ ?_
                  rotate_left
                  · intro w' hSw; (try dsimp only at hSw); go_simp; try exact rfl
                  try simp only [List.setIfInBounds_toArray, List.set_cons_zero, List.set_cons_succ]
                  refine tkY (i := 10) (d := 59) (v := ?_) rfl rfl ?_ ?_
                  rotate_left
                  · intro w' hSw; (try dsimp only at hSw); go_simp; try exact rfl
                  try simp only [List.setIfInBounds_toArray, List.set_cons_zero, List.set_cons_succ]
                  refine tkY (i := 11) (d := 60) (v := ?_) rfl rfl ?_ ?_
                  rotate_left
                  · intro w' hSw; (try dsimp only at hSw); go_simp; try exact rfl
                  try simp only [List.setIfInBounds_toArray, List.set_cons_zero, List.set_cons_succ]
                  refine tkY (i := 12) (d := 61) (v := ?_) rfl rfl ?_ ?_
                  rotate_left
                  · intro w' hSw; (try dsimp only at hSw); go_simp; try exact rfl
                  try simp only [List.setIfInBounds_toArray, List.set_cons_zero, List.set_cons_succ]
                  refine tkY (i := 13) (d := 62) (v := ?_) rfl rfl ?_ ?_
                  rotate_left
                  · intro w' hSw; (try dsimp only at hSw); go_simp; try exact rfl
                  try simp only [List.setIfInBounds_toArray, List.set_cons_zero, List.set_cons_succ]
                  refine tkY (i := 14) (d := 63) (v := ?_) rfl rfl ?_ ?_
                  rotate_left
                  · intro w' hSw; (try dsimp only at hSw); go_simp; try exact rfl
                  try simp only [List.setIfInBounds_toArray, List.set_cons_zero, List.set_cons_succ]
                  refine tkY (i := 15) (d := 64) (v := ?_) rfl rfl ?_ ?_
                  rotate_left
                  · intro w' hSw; (try dsimp only at hSw); go_simp; try exact rfl
                  try simp only [List.setIfInBounds_toArray, List.set_cons_zero, List.set_cons_succ]
                  refine tkY (i := 16) (d := 65) (v := ?_) rfl rfl ?_ ?_
                  rotate_left
                  · intro w' hSw; (try dsimp only at hSw); go_simp; try exact rfl
                  try simp only [List.setIfInBounds_toArray, List.set_cons_zero, List.set_cons_succ]
                  refine wpAnyH_ready (rs := [17]) (by kernel_rfl) (by simp) ?_
                  refine AllReadyH.cons rfl (fun K hK => ?_) AllReadyH.nil
                  go_simp
                  go_at_call 78
                  refine Calls.mono (l03HasF_any _ _ g' m _ (hcut.below (bela))) ?_
                  rw [HH.out]
                  rintro e w1 ⟨rfl, rfl⟩
                  try go_wp2_with fail
                  refine hK.out _ _ ?_ (fun hHeld17 => ?_)
                  · (try dsimp only); refine ⟨?_, ?_⟩ <;> first | (go_simp; done) | (exact cell_later (by assumption) (by go_simp))
                  clear hK
                  refine tkY (i := 18) (d := 67) (v := ?_) rfl rfl ?_ ?_
                  rotate_left
                  · intro w' hSw; (try dsimp only at hSw); go_simp; try exact rfl
                  try simp only [List.setIfInBounds_toArray, List.set_cons_zero, List.set_cons_succ]
                  refine wpAnyH_done (by kernel_rfl) ?_ _
                  go_wp2
                  refine ⟨⟨n + 1, hnl, by simp, by (repeat (first | exact hbi | refine Below.drew ?_)), ?_⟩, by simp [intOf]; omega⟩
                  rw [HE2.out, HS2.out, HN2.out, HH.out]
                  simp
              · have HC : Hid (okCols x.cs = true) := by
                  show okCols x.cs = true
                  rw [okCols_cols hin, HE2.out, List.drop_eq_nil_of_le (by omega)]; rfl
                clear hR5 hR hxw hin q1
                go_wp2_with fail
                refine ⟨⟨j + 1 + 1, (j : Int) + 1 + 1, hlt, by omega, by simp, by (repeat (first | exact hbwi | refine Below.drew ?_)), ?_⟩, by simp [intOf]; omega⟩
                rw [HE.out, HS.out, HQ.out, hnm, HC.out, hcmp]
                simp
    · have HN : Hid (okHs none rs = true) := by rw [HE.out, List.drop_eq_nil_of_le (by omega)]; rfl
      clear ha hw
      go_wp2
      go_returns
      refine ⟨ret_bool ?_, hb⟩
      unfold okSch
      rw [HN.out, Bool.and_true]
      first | rfl | (rw [Bool.eq_iff_iff]; simp; omega) | (simp; omega)
end Go.Proofs.YtbmoimfimeiglaaGreat
