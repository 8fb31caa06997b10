/- Own texts, joined: contracts that the law's proof goes by. -/
import Derived.Test.YtbmoimfimeiglaaGreatGLFnLog2
import Derived.Test.YtbmoimfimeiglaaGreatGLFnLog7
import Derived.Test.YtbmoimfimeiglaaGreatGLFnLog14
import Derived.Handy
import Derived.Deep.RegionHeld3
import Derived.Test.YtbmoimfimeiglaaGreatGLFnLog10
namespace Go.Proofs.YtbmoimfimeiglaaGreat
open Go.RowKit
set_option linter.unusedVariables false
def cmpW (x y : V3) : Int := cmpV x.k x.n x.s y.k y.n y.s
def cmpRow : List V3 → List V3 → Int
  | [], [] => 0
  | [], _ :: _ => -1
  | _ :: _, [] => 1
  | x :: xs, y :: ys => if cmpW x y = 0 then cmpRow xs ys else cmpW x y
theorem cmpRow_step {vs us : List V3} {k : Nat} {x y : V3} (hx : vs[k]? = some x) (hy : us[k]? = some y) :
    cmpRow (vs.drop k) (us.drop k) = if cmpW x y = 0 then cmpRow (vs.drop (k + 1)) (us.drop (k + 1)) else cmpW x y := by
  obtain ⟨h1, rfl⟩ := List.getElem?_eq_some_iff.1 hx
  obtain ⟨h2, rfl⟩ := List.getElem?_eq_some_iff.1 hy
  rw [List.drop_eq_getElem_cons h1, List.drop_eq_getElem_cons h2]
  rfl
theorem cmpRow_end {vs us : List V3} {k : Nat} (hk : k ≤ vs.length) (hk' : k ≤ us.length) (h : ¬ (k < vs.length ∧ k < us.length)) : cmpRow (vs.drop k) (us.drop k) = cmpI vs.length us.length := by
  by_cases h1 : k < vs.length
  · have h2 : us.drop k = [] := by simp; omega
    rw [h2, List.drop_eq_getElem_cons h1]
    simp only [cmpRow, cmpI]
    rw [if_neg (by omega), if_pos (by omega)]
  · have h2 : vs.drop k = [] := by simp; omega
    rw [h2]
    by_cases h3 : k < us.length
    · rw [List.drop_eq_getElem_cons h3]
      simp only [cmpRow, cmpI]
      rw [if_pos (by omega)]
    · have h4 : us.drop k = [] := by simp; omega
      rw [h4]
      simp only [cmpRow, cmpI]
      rw [if_neg (by omega), if_neg (by omega)]
set_option maxHeartbeats 4000000 in
set_option maxRecDepth 100000 in
theorem specRow_any (v u : Value) (vs us : List V3) (w : World) (hr : RowIs w v vs) (hu : RowIs w u us) :
    Calls Tryz.prog 80 #[v, u] w fun e w' => e = .returned (.int .i64 (cmpRow vs us)) ∧ Below w.heap.size w w' := by
  obtain ⟨a, c, b, o, rfl, hl, hc, ha⟩ := hr.pick
  obtain ⟨a', c', b', o', rfl, hl', hc', ha'⟩ := hu.pick
  unfold maxLen at hc hc'
  clear hr hu
  go_enter Tryz.func80, Tryz.ntmps80
  go_wp2
  go_loopw [5] (fun i wr => ∃ k : Nat, k ≤ vs.length ∧ k ≤ us.length ∧ i = .int .i64 k ∧ Below w.heap.size w wr ∧ cmpRow vs us = cmpRow (vs.drop k) (us.drop k)) (fun i _ => vs.length - (intOf i).toNat)
  case atStart => exact ⟨0, Nat.zero_le _, Nat.zero_le _, rfl, by go_grown, by simp⟩
  case round =>
    obtain ⟨k, hk, hk', rfl, hb, heq⟩ := hrel
    have HE : Hid (cmpRow vs us = cmpRow (vs.drop k) (us.drop k)) := heq
    clear heq
    by_cases hlt : k < vs.length
    · by_cases hlt' : k < us.length
      · have hzb := hb.size
        obtain ⟨rfl, hblt, hL⟩ := ha k hlt
        obtain ⟨rfl, hblt', hL'⟩ := ha' k hlt'
        obtain ⟨x, hx, c0, c1, c2, hbr⟩ := hL.at hblt hb hlt
        obtain ⟨y, hy, c0', c1', c2', hbr'⟩ := hL'.at hblt' hb hlt'
        have HS : Hid (cmpRow (vs.drop k) (us.drop k) = if cmpW x y = 0 then cmpRow (vs.drop (k + 1)) (us.drop (k + 1)) else cmpW x y) := cmpRow_step hx hy
        clear ha ha' hL hL' hx hy
        go_wp2_with fail
        go_region_held3 (fun w' => w'.cell? ⟨b, o + k * 3, none⟩ = some (.int .i64 x.k) ∧ w'.cell? ⟨b, o + k * 3 + 1, none⟩ = some (.int .i64 x.n) ∧ w'.cell? ⟨b, o + k * 3 + 2, none⟩ = some (.string x.s) ∧ w'.cell? ⟨b', o' + k * 3, none⟩ = some (.int .i64 y.k) ∧ w'.cell? ⟨b', o' + k * 3 + 1, none⟩ = some (.int .i64 y.n) ∧ w'.cell? ⟨b', o' + k * 3 + 2, none⟩ = some (.string y.s)) (refine ⟨?_, ?_, ?_, ?_, ?_, ?_⟩ <;> first | (go_simp; done) | (exact cell_later (by assumption) (by go_simp))) (first | (go_at_call 106; refine (specCmp_any _ _ _ _ _ _ _).mono ?_; rintro e w1 ⟨rfl, hb1⟩))
        by_cases hz : cmpV x.k x.n x.s y.k y.n y.s = 0
        · go_wp2
          go_roundw
          case rel =>
            refine ⟨k + 1, hlt, hlt', by simp, bela, ?_⟩
            rw [HE.out, HS.out, if_pos (show cmpW x y = 0 from hz)]
          case measure => simp [intOf]; omega
        · go_wp2
          go_returns
          refine ⟨ret_int ?_, bela⟩
          rw [HE.out, HS.out, if_neg (show ¬ cmpW x y = 0 from hz)]
          rfl
      · have HN : Hid (cmpRow (vs.drop k) (us.drop k) = cmpI vs.length us.length) := cmpRow_end hk hk' (by omega)
        clear ha ha'
        go_wp2
        all_goals (go_returns; refine ⟨ret_int ?_, by first | exact hb | exact bela⟩)
        all_goals (rw [HE.out, HN.out]; try rfl)
        all_goals (unfold cmpI; first | (rw [if_pos (by omega)]; done) | (rw [if_neg (by omega), if_pos (by omega)]; done) | (rw [if_neg (by omega), if_neg (by omega)]; done))
    · have HN : Hid (cmpRow (vs.drop k) (us.drop k) = cmpI vs.length us.length) := cmpRow_end hk hk' (by omega)
      clear ha ha'
      go_wp2
      all_goals (go_returns; refine ⟨ret_int ?_, by first | exact hb | exact bela⟩)
      all_goals (rw [HE.out, HN.out]; try rfl)
      all_goals (unfold cmpI; first | (rw [if_pos (by omega)]; done) | (rw [if_neg (by omega), if_pos (by omega)]; done) | (rw [if_neg (by omega), if_neg (by omega)]; done))
set_option maxHeartbeats 4000000 in
set_option maxRecDepth 100000 in
theorem implRow_any (v u : Value) (vs us : List V3) (w : World) (hr : RowIs w v vs) (hu : RowIs w u us) :
    Calls Tryz.prog 92 #[v, u] w fun e w' => e = .returned (.int .i64 (cmpRow vs us)) ∧ Below w.heap.size w w' := by
  obtain ⟨a, c, b, o, rfl, hl, hc, ha⟩ := hr.pick
  obtain ⟨a', c', b', o', rfl, hl', hc', ha'⟩ := hu.pick
  unfold maxLen at hc hc'
  clear hr hu
  go_enter Tryz.func92, Tryz.ntmps92
  go_wp2
  go_loopw [5] (fun i wr => ∃ k : Nat, k ≤ vs.length ∧ k ≤ us.length ∧ i = .int .i64 k ∧ Below w.heap.size w wr ∧ cmpRow vs us = cmpRow (vs.drop k) (us.drop k)) (fun i _ => vs.length - (intOf i).toNat)
  case atStart => exact ⟨0, Nat.zero_le _, Nat.zero_le _, rfl, by go_grown, by simp⟩
  case round =>
    obtain ⟨k, hk, hk', rfl, hb, heq⟩ := hrel
    have HE : Hid (cmpRow vs us = cmpRow (vs.drop k) (us.drop k)) := heq
    clear heq
    by_cases hlt : k < vs.length
    · by_cases hlt' : k < us.length
      · have hzb := hb.size
        obtain ⟨rfl, hblt, hL⟩ := ha k hlt
        obtain ⟨rfl, hblt', hL'⟩ := ha' k hlt'
        obtain ⟨x, hx, c0, c1, c2, hbr⟩ := hL.at hblt hb hlt
        obtain ⟨y, hy, c0', c1', c2', hbr'⟩ := hL'.at hblt' hb hlt'
        have HS : Hid (cmpRow (vs.drop k) (us.drop k) = if cmpW x y = 0 then cmpRow (vs.drop (k + 1)) (us.drop (k + 1)) else cmpW x y) := cmpRow_step hx hy
        clear ha ha' hL hL' hx hy
        go_wp2_with fail
        go_region_held3 (fun w' => w'.cell? ⟨b, o + k * 3, none⟩ = some (.int .i64 x.k) ∧ w'.cell? ⟨b, o + k * 3 + 1, none⟩ = some (.int .i64 x.n) ∧ w'.cell? ⟨b, o + k * 3 + 2, none⟩ = some (.string x.s) ∧ w'.cell? ⟨b', o' + k * 3, none⟩ = some (.int .i64 y.k) ∧ w'.cell? ⟨b', o' + k * 3 + 1, none⟩ = some (.int .i64 y.n) ∧ w'.cell? ⟨b', o' + k * 3 + 2, none⟩ = some (.string y.s)) (refine ⟨?_, ?_, ?_, ?_, ?_, ?_⟩ <;> first | (go_simp; done) | (exact cell_later (by assumption) (by go_simp))) (first | (go_at_call 111; refine (implCmp_any _ _ _ _ _ _ _).mono ?_; rintro e w1 ⟨rfl, hb1⟩))
        by_cases hz : cmpV x.k x.n x.s y.k y.n y.s = 0
        · go_wp2
          go_roundw
          case rel =>
            refine ⟨k + 1, hlt, hlt', by simp, bela, ?_⟩
            rw [HE.out, HS.out, if_pos (show cmpW x y = 0 from hz)]
          case measure => simp [intOf]; omega
        · go_wp2
          go_returns
          refine ⟨ret_int ?_, bela⟩
          rw [HE.out, HS.out, if_neg (show ¬ cmpW x y = 0 from hz)]
          rfl
      · have HN : Hid (cmpRow (vs.drop k) (us.drop k) = cmpI vs.length us.length) := cmpRow_end hk hk' (by omega)
        clear ha ha'
        go_wp2_with (go_at_call 112; refine (cmpInt_any _ _ _).mono ?_; rintro e w1 ⟨rfl, rfl⟩)
        all_goals (go_returns; refine ⟨ret_int ?_, by first | exact hb | exact bela⟩)
        all_goals (rw [HE.out, HN.out]; try rfl)
        all_goals (unfold cmpI; first | (rw [if_pos (by omega)]; done) | (rw [if_neg (by omega), if_pos (by omega)]; done) | (rw [if_neg (by omega), if_neg (by omega)]; done))
    · have HN : Hid (cmpRow (vs.drop k) (us.drop k) = cmpI vs.length us.length) := cmpRow_end hk hk' (by omega)
      clear ha ha'
      go_wp2_with (go_at_call 112; refine (cmpInt_any _ _ _).mono ?_; rintro e w1 ⟨rfl, rfl⟩)
      all_goals (go_returns; refine ⟨ret_int ?_, by first | exact hb | exact bela⟩)
      all_goals (rw [HE.out, HN.out]; try rfl)
      all_goals (unfold cmpI; first | (rw [if_pos (by omega)]; done) | (rw [if_neg (by omega), if_pos (by omega)]; done) | (rw [if_neg (by omega), if_neg (by omega)]; done))
end Go.Proofs.YtbmoimfimeiglaaGreat
namespace Go.Proofs.YtbmoimfimeiglaaGreat
open Go.RowKit
set_option linter.unusedVariables false
def okPrev (p : Option C2) (x : C2) : Bool := match p with
  | none => true
  | some y => decide (cmpRow y.r x.r < 0)
def okCs (W : Int) : Option C2 → List C2 → Bool
  | _, [] => true
  | p, x :: xs => okRow x.r W && okN x.n && okPrev p x && okCs W (some x) xs
def prev (cs : List C2) (k : Nat) : Option C2 := if k = 0 then none else cs[k - 1]?
def okBag (W : Int) (cs : List C2) : Bool := decide (0 ≤ W) && decide (W ≤ 12) && decide (cs.length ≤ 400) && okCs W none cs
theorem okCs_step {W : Int} {cs : List C2} {k : Nat} {x : C2} (h : cs[k]? = some x) :
    okCs W (prev cs k) (cs.drop k) = (okRow x.r W && okN x.n && okPrev (prev cs k) x && okCs W (prev cs (k + 1)) (cs.drop (k + 1))) := by
  obtain ⟨hk, rfl⟩ := List.getElem?_eq_some_iff.1 h
  rw [List.drop_eq_getElem_cons hk]
  simp [okCs, prev, hk]
theorem prev_zero (cs : List C2) : prev cs 0 = none := rfl
theorem prev_succ {cs : List C2} {j : Nat} {y : C2} (h : cs[j]? = some y) : prev cs (j + 1) = some y := by simp [prev, h]
set_option maxHeartbeats 4000000 in
set_option maxRecDepth 100000 in
theorem implBagOk_any (W : Int) (v : Value) (cs : List C2) (w : World) (hw : CsWf cs) (hr : RowsIs w v cs) :
    Calls Tryz.prog 63 #[.agg #[.int .i64 W, v]] w fun e w' => e = .returned (.bool (okBag W cs)) ∧ Below w.heap.size w w' := by
  obtain ⟨a, c, b, o, rfl, hl, hc, ha⟩ := hr.pick
  unfold maxLen at hc
  clear hr
  by_cases h0 : W < 0
  · go_enter Tryz.func63, Tryz.ntmps63
    go_wp2
    go_returns
    exact ⟨ret_bool (by simp [okBag, show ¬ 0 ≤ W from by omega]), by go_grown⟩
  by_cases h1 : 12 < W
  · go_enter Tryz.func63, Tryz.ntmps63
    go_wp2
    go_returns
    exact ⟨ret_bool (by simp [okBag, show ¬ W ≤ 12 from by omega]), by go_grown⟩
  by_cases h2 : 400 < (cs.length : Int)
  · go_enter Tryz.func63, Tryz.ntmps63
    go_wp2
    go_returns
    exact ⟨ret_bool (by simp [okBag, show ¬ cs.length ≤ 400 from by omega]), by go_grown⟩
  have HB : Hid (okBag W cs = okCs W none cs) := by simp [Hid, okBag, show 0 ≤ W from by omega, show W ≤ 12 from by omega, show cs.length ≤ 400 from by omega]
  go_enter Tryz.func63, Tryz.ntmps63
  go_wp2
  go_loopw [22] (fun i wr => ∃ (k : Nat) (q : Int), k ≤ cs.length ∧ q = k ∧ i = .int .i64 q ∧ Below w.heap.size w wr ∧ w.heap.size < wr.heap.size ∧ wr.cell? ⟨w.heap.size, 0, none⟩ = some (.int .i64 W) ∧ wr.cell? ⟨w.heap.size, 1, none⟩ = some (.slice a cs.length c) ∧ okCs W none cs = okCs W (prev cs k) (cs.drop k)) (fun i _ => cs.length - (intOf i).toNat)
  case atStart => exact ⟨0, 0, Nat.zero_le _, rfl, rfl, by go_grown, by simp, by go_simp, by go_simp, by simp [prev]⟩
  case round =>
    obtain ⟨k, q, hk, hq, rfl, hb, hsz, p0, p1, heq⟩ := hrel
    have HE : Hid (okCs W none cs = okCs W (prev cs k) (cs.drop k)) := heq
    have hzb := hb.size
    clear heq
    by_cases hlt : k < cs.length
    · obtain ⟨rfl, hblt, hL⟩ := ha k hlt
      obtain ⟨x, u, hx, c0, hR, c1, hbr⟩ := hL.at hblt hb hlt
      obtain ⟨ur, lr, cr, rfl⟩ := hR.shape
      have hxw : VsWf x.r := (hw x (List.mem_of_getElem? hx)).1
      have HS : Hid (okCs W (prev cs k) (cs.drop k) = (okRow x.r W && okN x.n && okPrev (prev cs k) x && okCs W (prev cs (k + 1)) (cs.drop (k + 1)))) := okCs_step hx
      by_cases hok : okRow x.r W = true
      · by_cases hcn : okN x.n = true
        · rcases Nat.eq_zero_or_pos k with hk0 | hk0
          · subst hk0
            obtain rfl : q = 0 := by simpa using hq
            rw [Nat.zero_mul, Nat.add_zero] at c0
            rw [Nat.zero_mul, Nat.add_zero] at c1
            clear ha hw hL hx hq
            go_wp2_with (first | (go_at_call 90; refine Calls.mono (rowOk_any _ x.r W _ (hR.below (bela)) hxw) ?_; rintro e w1 ⟨rfl, hb1⟩; have hz1 := hb1.size; (try simp at hz1); have hf1 := (bcell hb1).2; have q0 : w1.cell? ⟨wr.heap.size, 0, none⟩ = some (.slice ur lr cr) := cell_later hb1 (by go_simp); have q1 : w1.cell? ⟨wr.heap.size, 1, none⟩ = some (.int .i64 x.n) := cell_later hb1 (by go_simp); have p0' : w1.cell? ⟨w.heap.size, 0, none⟩ = some (.int .i64 W) := cell_later hb1 (by go_simp); have p1' : w1.cell? ⟨w.heap.size, 1, none⟩ = some (.slice (some ⟨b, o, none⟩) cs.length c) := cell_later hb1 (by go_simp)) | (go_at_call 91; refine (countOk_any _ _).mono ?_; rintro e w2 ⟨rfl, hb2⟩; have hz2 := hb2.size; (try simp at hz2); have q0'' : w2.cell? ⟨wr.heap.size, 0, none⟩ = some (.slice ur lr cr) := cell_later hb2 (by go_simp); have p0'' : w2.cell? ⟨w.heap.size, 0, none⟩ = some (.int .i64 W) := cell_later hb2 (by go_simp); have p1'' : w2.cell? ⟨w.heap.size, 1, none⟩ = some (.slice (some ⟨b, o, none⟩) cs.length c) := cell_later hb2 (by go_simp)) | fail)
            go_region
            go_wp2
            go_roundw
            case rel =>
              refine ⟨1, 1, hlt, rfl, by simp, bela, by (first | omega | (simp; omega)), p0'', p1'', ?_⟩
              rw [HE.out, HS.out, hok, hcn, prev_zero]
              simp [okPrev]
            case measure => simp [intOf]; omega
          · obtain ⟨j, rfl⟩ : ∃ j, k = j + 1 := ⟨k - 1, by omega⟩
            obtain rfl : q = (j : Int) + 1 := by omega
            obtain ⟨y, t, hy, d0, hT, d1, _⟩ := hL.at hblt hb (show j < cs.length by omega)
            have HP : Hid (prev cs (j + 1) = some y) := prev_succ hy
            clear ha hw hL hx hy hq
            go_wp2_with (first | (go_at_call 90; refine Calls.mono (rowOk_any _ x.r W _ (hR.below (bela)) hxw) ?_; rintro e w1 ⟨rfl, hb1⟩; have hz1 := hb1.size; (try simp at hz1); have hf1 := (bcell hb1).2; have q0 : w1.cell? ⟨wr.heap.size, 0, none⟩ = some (.slice ur lr cr) := cell_later hb1 (by go_simp); have q1 : w1.cell? ⟨wr.heap.size, 1, none⟩ = some (.int .i64 x.n) := cell_later hb1 (by go_simp); have p0' : w1.cell? ⟨w.heap.size, 0, none⟩ = some (.int .i64 W) := cell_later hb1 (by go_simp); have p1' : w1.cell? ⟨w.heap.size, 1, none⟩ = some (.slice (some ⟨b, o, none⟩) cs.length c) := cell_later hb1 (by go_simp); have d1' : w1.cell? ⟨b, o + j * 2, none⟩ = some t := cell_later hb1 (by go_simp)) | (go_at_call 91; refine (countOk_any _ _).mono ?_; rintro e w2 ⟨rfl, hb2⟩; have hz2 := hb2.size; (try simp at hz2); have q0'' : w2.cell? ⟨wr.heap.size, 0, none⟩ = some (.slice ur lr cr) := cell_later hb2 (by go_simp); have p0'' : w2.cell? ⟨w.heap.size, 0, none⟩ = some (.int .i64 W) := cell_later hb2 (by go_simp); have p1'' : w2.cell? ⟨w.heap.size, 1, none⟩ = some (.slice (some ⟨b, o, none⟩) cs.length c) := cell_later hb2 (by go_simp); have d2 : w2.cell? ⟨b, o + j * 2, none⟩ = some t := cell_later hb2 (by go_simp)) | fail)
            have hT2 : RowIs w2 t y.r := hT.below (bela)
            have hR2 : RowIs w2 (.slice ur lr cr) x.r := hR.below (bela)
            have hw1 : IntKind.i64.wrap (j : Int) = j := by rw [IntKind.wrap_i64]; omega
            have hw2 : IntKind.i64.wrap ((j : Int) + 1 - 1) = j := by rw [IntKind.wrap_i64]; omega
            have hi0 : (0 : Int) ≤ j := by omega
            have hi1 : (j : Int) < cs.length := by omega
            have hi2 : (0 : Int) < (j : Int) + 1 := by omega
            go_region_held3 (fun w' => w'.cell? ⟨w.heap.size, 0, none⟩ = some (.int .i64 W) ∧ w'.cell? ⟨w.heap.size, 1, none⟩ = some (.slice (some ⟨b, o, none⟩) cs.length c) ∧ w'.cell? ⟨wr.heap.size, 0, none⟩ = some (.slice ur lr cr) ∧ w'.cell? ⟨b, o + j * 2, none⟩ = some t) (refine ⟨?_, ?_, ?_, ?_⟩ <;> first | (go_simp; done) | (exact cell_later (by assumption) (by go_simp))) (first | (go_at_call 92; refine Calls.mono (implRow_any t (.slice ur lr cr) y.r x.r _ (hT2.below (bela)) (hR2.below (bela))) ?_; rintro e w3 ⟨rfl, hb3⟩))
            have hz3 := hb3.size
            simp at hz3
            have HQ : Hid (okPrev (prev cs (j + 1)) x = decide (cmpRow y.r x.r < 0)) := by rw [HP.out]; rfl
            have r0 : w3.cell? ⟨w.heap.size, 0, none⟩ = some (.int .i64 W) := cell_later hb3 (by go_simp)
            have r1 : w3.cell? ⟨w.heap.size, 1, none⟩ = some (.slice (some ⟨b, o, none⟩) cs.length c) := cell_later hb3 (by go_simp)
            by_cases hcmp : 0 ≤ cmpRow y.r x.r
            · go_wp2
              go_returns
              refine ⟨ret_bool ?_, bela⟩
              rw [HB.out, HE.out, HS.out, HQ.out]
              simp [show ¬ cmpRow y.r x.r < 0 from by omega]
            · go_wp2
              go_roundw
              case rel =>
                refine ⟨j + 1 + 1, (j : Int) + 1 + 1, hlt, by omega, by simp, bela, by (first | omega | (simp; omega)), r0, r1, ?_⟩
                rw [HE.out, HS.out, HQ.out, hok, hcn]
                simp [show cmpRow y.r x.r < 0 from by omega]
              case measure => simp [intOf]; omega
        · clear ha hw hL hx
          go_wp2_with (first | (go_at_call 90; refine Calls.mono (rowOk_any _ x.r W _ (hR.below (bela)) hxw) ?_; rintro e w1 ⟨rfl, hb1⟩; have hz1 := hb1.size; (try simp at hz1); have hf1 := (bcell hb1).2; have q0 : w1.cell? ⟨wr.heap.size, 0, none⟩ = some (.slice ur lr cr) := cell_later hb1 (by go_simp); have q1 : w1.cell? ⟨wr.heap.size, 1, none⟩ = some (.int .i64 x.n) := cell_later hb1 (by go_simp); have p0' : w1.cell? ⟨w.heap.size, 0, none⟩ = some (.int .i64 W) := cell_later hb1 (by go_simp); have p1' : w1.cell? ⟨w.heap.size, 1, none⟩ = some (.slice (some ⟨b, o, none⟩) cs.length c) := cell_later hb1 (by go_simp)) | (go_at_call 91; refine (countOk_any _ _).mono ?_; rintro e w2 ⟨rfl, hb2⟩; have hz2 := hb2.size; (try simp at hz2); have q0'' : w2.cell? ⟨wr.heap.size, 0, none⟩ = some (.slice ur lr cr) := cell_later hb2 (by go_simp); have p0'' : w2.cell? ⟨w.heap.size, 0, none⟩ = some (.int .i64 W) := cell_later hb2 (by go_simp); have p1'' : w2.cell? ⟨w.heap.size, 1, none⟩ = some (.slice (some ⟨b, o, none⟩) cs.length c) := cell_later hb2 (by go_simp)) | fail)
          go_returns
          refine ⟨ret_bool ?_, bela⟩
          have hf : okN x.n = false := by simpa using hcn
          rw [HB.out, HE.out, HS.out, hf]
          simp
      · clear ha hw hL hx
        go_wp2_with (first | (go_at_call 90; refine Calls.mono (rowOk_any _ x.r W _ (hR.below (bela)) hxw) ?_; rintro e w1 ⟨rfl, hb1⟩; have hz1 := hb1.size; (try simp at hz1); have hf1 := (bcell hb1).2; have q0 : w1.cell? ⟨wr.heap.size, 0, none⟩ = some (.slice ur lr cr) := cell_later hb1 (by go_simp); have q1 : w1.cell? ⟨wr.heap.size, 1, none⟩ = some (.int .i64 x.n) := cell_later hb1 (by go_simp); have p0' : w1.cell? ⟨w.heap.size, 0, none⟩ = some (.int .i64 W) := cell_later hb1 (by go_simp); have p1' : w1.cell? ⟨w.heap.size, 1, none⟩ = some (.slice (some ⟨b, o, none⟩) cs.length c) := cell_later hb1 (by go_simp)) | (go_at_call 91; refine (countOk_any _ _).mono ?_; rintro e w2 ⟨rfl, hb2⟩; have hz2 := hb2.size; (try simp at hz2); have q0'' : w2.cell? ⟨wr.heap.size, 0, none⟩ = some (.slice ur lr cr) := cell_later hb2 (by go_simp); have p0'' : w2.cell? ⟨w.heap.size, 0, none⟩ = some (.int .i64 W) := cell_later hb2 (by go_simp); have p1'' : w2.cell? ⟨w.heap.size, 1, none⟩ = some (.slice (some ⟨b, o, none⟩) cs.length c) := cell_later hb2 (by go_simp)) | fail)
        go_returns
        refine ⟨ret_bool ?_, bela⟩
        have hf : okRow x.r W = false := by simpa using hok
        rw [HB.out, HE.out, HS.out, hf]
        simp
    · clear ha hw
      go_wp2
      go_returns
      refine ⟨ret_bool ?_, hb⟩
      rw [HB.out, HE.out, List.drop_eq_nil_of_le (by omega)]
      rfl
end Go.Proofs.YtbmoimfimeiglaaGreat
namespace Go.Proofs.YtbmoimfimeiglaaGreat
open Go.RowKit
set_option linter.unusedVariables false
theorem okN_zero {n : Int} (h : n = 0) : okN n = false := by simp [okN, h]
theorem okN_out {n : Int} (h : ¬ (decide (-1000000000 ≤ n) && decide (n ≤ 1000000000)) = true) : okN n = false := by
  unfold okN
  rw [Bool.and_assoc, show (decide (-1000000000 ≤ n) && decide (n ≤ 1000000000)) = false from by simpa using h, Bool.and_false]
theorem okN_in {n : Int} (h0 : ¬ n = 0) (h : (decide (-1000000000 ≤ n) && decide (n ≤ 1000000000)) = true) : okN n = true := by
  unfold okN
  rw [Bool.and_assoc, h]
  simp [h0]
set_option maxHeartbeats 8000000 in
set_option maxRecDepth 100000 in
theorem specBagOk_any (W : Int) (v : Value) (cs : List C2) (w : World) (hw : CsWf cs) (hr : RowsIs w v cs) :
    Calls Tryz.prog 50 #[.agg #[.int .i64 W, v]] w fun e w' => e = .returned (.bool (okBag W cs)) ∧ Below w.heap.size w w' := by
  obtain ⟨a, c, b, o, rfl, hl, hc, ha⟩ := hr.pick
  unfold maxLen at hc
  clear hr
  go_enter Tryz.func50, Tryz.ntmps50
  go_wp2
  go_loopw [3] (fun i wr => ∃ (k : Nat) (q : Int), k ≤ cs.length ∧ q = k ∧ i = .int .i64 q ∧ Below w.heap.size w wr ∧ w.heap.size < wr.heap.size ∧ wr.cell? ⟨w.heap.size, 0, none⟩ = some (.int .i64 W) ∧ wr.cell? ⟨w.heap.size, 1, none⟩ = some (.slice a cs.length c) ∧ okCs W none cs = okCs W (prev cs k) (cs.drop k)) (fun i _ => cs.length - (intOf i).toNat)
  case atStart => exact ⟨0, 0, Nat.zero_le _, rfl, rfl, by go_grown, by simp, by go_simp, by go_simp, by simp [prev]⟩
  case round =>
    obtain ⟨k, q, hk, hq, rfl, hb, hsz, p0, p1, heq⟩ := hrel
    have HE : Hid (okCs W none cs = okCs W (prev cs k) (cs.drop k)) := heq
    have hzb := hb.size
    clear heq
    by_cases hlt : k < cs.length
    · obtain ⟨rfl, hblt, hL⟩ := ha k hlt
      obtain ⟨x, u, hx, c0, hR, c1, hbr⟩ := hL.at hblt hb hlt
      obtain ⟨ur, lr, cr, rfl⟩ := hR.shape
      have hxw : VsWf x.r := (hw x (List.mem_of_getElem? hx)).1
      have HS : Hid (okCs W (prev cs k) (cs.drop k) = (okRow x.r W && okN x.n && okPrev (prev cs k) x && okCs W (prev cs (k + 1)) (cs.drop (k + 1)))) := okCs_step hx
      by_cases hok : okRow x.r W = true
      rotate_left
      · have hf : okRow x.r W = false := by simpa using hok
        subst hq
        clear ha hw hL hx
        go_wp2_with fail
        refine wp_region_held_drew (S := (fun w' => w'.cell? ⟨w.heap.size, 0, none⟩ = some (.int .i64 W) ∧ w'.cell? ⟨w.heap.size, 1, none⟩ = some (.slice (some ⟨b, o, none⟩) cs.length c) ∧ w'.cell? ⟨wr.heap.size, 0, none⟩ = some (.slice ur lr cr) ∧ w'.cell? ⟨wr.heap.size, 1, none⟩ = some (.int .i64 x.n))) (by kernel_rfl) ?_ (fun hHeld => ?_)
        · (try dsimp only); refine ⟨?_, ?_, ?_, ?_⟩ <;> first | (go_simp; done) | (exact cell_later (by assumption) (by go_simp))
        refine tkY (i := 0) (d := 17) (v := ?_) rfl rfl ?_ ?_
        rotate_left
        · intro w' hSw; (try dsimp only at hSw); go_simp; try exact rfl
        try simp only [List.setIfInBounds_toArray, List.set_cons_zero, List.set_cons_succ]
        refine tkY (i := 1) (d := 18) (v := ?_) rfl rfl ?_ ?_
        rotate_left
        · intro w' hSw; (try dsimp only at hSw); go_simp; try exact rfl
        try simp only [List.setIfInBounds_toArray, List.set_cons_zero, List.set_cons_succ]
        refine tkY (i := 2) (d := 19) (v := ?_) rfl rfl ?_ ?_
        rotate_left
        · intro w' hSw; (try dsimp only at hSw); go_simp; try exact rfl
        try simp only [List.setIfInBounds_toArray, List.set_cons_zero, List.set_cons_succ]
        refine tkY (i := 3) (d := 20) (v := ?_) rfl rfl ?_ ?_
        rotate_left
        · intro w' hSw; (try dsimp only at hSw); go_simp; try exact rfl
        try simp only [List.setIfInBounds_toArray, List.set_cons_zero, List.set_cons_succ]
        refine wpAnyH_ready (rs := [4]) (by kernel_rfl) (by simp) ?_
        refine AllReadyH.cons rfl (fun K hK => ?_) AllReadyH.nil
        go_simp
        go_at_call 79
        refine Calls.mono (l02Row_any (.slice ur lr cr) x.r W _ (hR.below (bela)) hxw) ?_
        rintro e w1 ⟨rfl, hb1⟩
        have hz1 := hb1.size
        (try simp at hz1)
        try go_wp2_with fail
        refine hK.out _ _ ?_ (fun hHeld4 => ?_)
        · (try dsimp only); refine ⟨?_, ?_, ?_, ?_⟩ <;> first | (go_simp; done) | (exact cell_later (by assumption) (by go_simp))
        clear hK
        refine tkY (i := 5) (d := 22) (v := ?_) rfl rfl ?_ ?_
        rotate_left
        · intro w' hSw; (try dsimp only at hSw); go_simp; try exact rfl
        try simp only [List.setIfInBounds_toArray, List.set_cons_zero, List.set_cons_succ]
        refine tkY (i := 6) (d := 23) (v := ?_) rfl rfl ?_ ?_
        rotate_left
        · intro w' hSw; (try dsimp only at hSw); go_simp; try exact rfl
        try simp only [List.setIfInBounds_toArray, List.set_cons_zero, List.set_cons_succ]
        refine tkN (i := 7) (d := 24) rfl rfl ?_
        try simp only [List.setIfInBounds_toArray, List.set_cons_zero, List.set_cons_succ]
        refine tkN (i := 8) (d := 25) rfl rfl ?_
        try simp only [List.setIfInBounds_toArray, List.set_cons_zero, List.set_cons_succ]
        refine tkN (i := 9) (d := 26) rfl rfl ?_
        try simp only [List.setIfInBounds_toArray, List.set_cons_zero, List.set_cons_succ]
        refine tkY (i := 10) (d := 27) (v := ?_) rfl rfl ?_ ?_
        rotate_left
        · intro w' hSw; (try dsimp only at hSw); go_simp; try exact rfl
        try simp only [List.setIfInBounds_toArray, List.set_cons_zero, List.set_cons_succ]
        refine tkY (i := 11) (d := 28) (v := ?_) rfl rfl ?_ ?_
        rotate_left
        · intro w' hSw; (try dsimp only at hSw); go_simp; try exact rfl
        try simp only [List.setIfInBounds_toArray, List.set_cons_zero, List.set_cons_succ]
        refine tkN (i := 12) (d := 29) rfl rfl ?_
        try simp only [List.setIfInBounds_toArray, List.set_cons_zero, List.set_cons_succ]
        refine tkN (i := 13) (d := 30) rfl rfl ?_
        try simp only [List.setIfInBounds_toArray, List.set_cons_zero, List.set_cons_succ]
        refine wpAnyH_ready (rs := [14]) (by kernel_rfl) (by simp) ?_
        refine AllReadyH.cons rfl (fun K hK => ?_) AllReadyH.nil
        go_simp
        refine hK.out _ _ ?_ (fun hHeld14 => ?_)
        · (try dsimp only); refine ⟨?_, ?_, ?_, ?_⟩ <;> first | (go_simp; done) | (exact cell_later (by assumption) (by go_simp))
        clear hK
        refine tkN (i := 15) (d := 32) rfl rfl ?_
        try simp only [List.setIfInBounds_toArray, List.set_cons_zero, List.set_cons_succ]
        refine tkY (i := 16) (d := 33) (v := ?_) rfl rfl ?_ ?_
        rotate_left
        · intro w' hSw; (try dsimp only at hSw); go_simp; try exact rfl
        try simp only [List.setIfInBounds_toArray, List.set_cons_zero, List.set_cons_succ]
        refine tkY (i := 17) (d := 34) (v := ?_) rfl rfl ?_ ?_
        rotate_left
        · intro w' hSw; (try dsimp only at hSw); go_simp; try exact rfl
        try simp only [List.setIfInBounds_toArray, List.set_cons_zero, List.set_cons_succ]
        refine tkN (i := 18) (d := 35) rfl rfl ?_
        try simp only [List.setIfInBounds_toArray, List.set_cons_zero, List.set_cons_succ]
        refine tkN (i := 19) (d := 36) rfl rfl ?_
        try simp only [List.setIfInBounds_toArray, List.set_cons_zero, List.set_cons_succ]
        refine tkN (i := 20) (d := 37) rfl rfl ?_
        try simp only [List.setIfInBounds_toArray, List.set_cons_zero, List.set_cons_succ]
        refine tkN (i := 21) (d := 38) rfl rfl ?_
        try simp only [List.setIfInBounds_toArray, List.set_cons_zero, List.set_cons_succ]
        refine tkN (i := 22) (d := 39) rfl rfl ?_
        try simp only [List.setIfInBounds_toArray, List.set_cons_zero, List.set_cons_succ]
        refine tkN (i := 23) (d := 40) rfl rfl ?_
        try simp only [List.setIfInBounds_toArray, List.set_cons_zero, List.set_cons_succ]
        refine tkN (i := 24) (d := 41) rfl rfl ?_
        try simp only [List.setIfInBounds_toArray, List.set_cons_zero, List.set_cons_succ]
        refine tkN (i := 25) (d := 42) rfl rfl ?_
        try simp only [List.setIfInBounds_toArray, List.set_cons_zero, List.set_cons_succ]
        refine tkN (i := 26) (d := 43) rfl rfl ?_
        try simp only [List.setIfInBounds_toArray, List.set_cons_zero, List.set_cons_succ]
        refine tkN (i := 27) (d := 44) rfl rfl ?_
        try simp only [List.setIfInBounds_toArray, List.set_cons_zero, List.set_cons_succ]
        refine tkN (i := 28) (d := 45) rfl rfl ?_
        try simp only [List.setIfInBounds_toArray, List.set_cons_zero, List.set_cons_succ]
        refine tkN (i := 29) (d := 46) rfl rfl ?_
        try simp only [List.setIfInBounds_toArray, List.set_cons_zero, List.set_cons_succ]
        refine wpAnyH_ready (rs := [30]) (by kernel_rfl) (by simp) ?_
        refine AllReadyH.cons rfl (fun K hK => ?_) AllReadyH.nil
        go_simp
        refine hK.out _ _ ?_ (fun hHeld30 => ?_)
        · (try dsimp only); refine ⟨?_, ?_, ?_, ?_⟩ <;> first | (go_simp; done) | (exact cell_later (by assumption) (by go_simp))
        clear hK
        refine tkN (i := 31) (d := 48) rfl rfl ?_
        try simp only [List.setIfInBounds_toArray, List.set_cons_zero, List.set_cons_succ]
        refine tkN (i := 32) (d := 49) rfl rfl ?_
        try simp only [List.setIfInBounds_toArray, List.set_cons_zero, List.set_cons_succ]
        refine tkY (i := 33) (d := 50) (v := ?_) rfl rfl ?_ ?_
        rotate_left
        · intro w' hSw; (try dsimp only at hSw); go_simp; try exact rfl
        try simp only [List.setIfInBounds_toArray, List.set_cons_zero, List.set_cons_succ]
        refine wpAnyH_done (by kernel_rfl) ?_ _
        go_wp2
        go_returns
        refine ⟨ret_bool ?_, bela⟩
        unfold okBag
        rw [HE.out, HS.out, hf]
        simp
      by_cases hn0 : x.n = 0
      · have HN : Hid (okN x.n = false) := okN_zero hn0
        have hn1 : (x.n == 0) = true := by simpa using hn0
        subst hq
        clear ha hw hL hx hn0
        go_wp2_with fail
        refine wp_region_held_drew (S := (fun w' => w'.cell? ⟨w.heap.size, 0, none⟩ = some (.int .i64 W) ∧ w'.cell? ⟨w.heap.size, 1, none⟩ = some (.slice (some ⟨b, o, none⟩) cs.length c) ∧ w'.cell? ⟨wr.heap.size, 0, none⟩ = some (.slice ur lr cr) ∧ w'.cell? ⟨wr.heap.size, 1, none⟩ = some (.int .i64 x.n))) (by kernel_rfl) ?_ (fun hHeld => ?_)
        · (try dsimp only); refine ⟨?_, ?_, ?_, ?_⟩ <;> first | (go_simp; done) | (exact cell_later (by assumption) (by go_simp))
        refine tkY (i := 0) (d := 17) (v := ?_) rfl rfl ?_ ?_
        rotate_left
        · intro w' hSw; (try dsimp only at hSw); go_simp; try exact rfl
        try simp only [List.setIfInBounds_toArray, List.set_cons_zero, List.set_cons_succ]
        refine tkY (i := 1) (d := 18) (v := ?_) rfl rfl ?_ ?_
        rotate_left
        · intro w' hSw; (try dsimp only at hSw); go_simp; try exact rfl
        try simp only [List.setIfInBounds_toArray, List.set_cons_zero, List.set_cons_succ]
        refine tkY (i := 2) (d := 19) (v := ?_) rfl rfl ?_ ?_
        rotate_left
        · intro w' hSw; (try dsimp only at hSw); go_simp; try exact rfl
        try simp only [List.setIfInBounds_toArray, List.set_cons_zero, List.set_cons_succ]
        refine tkY (i := 3) (d := 20) (v := ?_) rfl rfl ?_ ?_
        rotate_left
        · intro w' hSw; (try dsimp only at hSw); go_simp; try exact rfl
        try simp only [List.setIfInBounds_toArray, List.set_cons_zero, List.set_cons_succ]
        refine wpAnyH_ready (rs := [4]) (by kernel_rfl) (by simp) ?_
        refine AllReadyH.cons rfl (fun K hK => ?_) AllReadyH.nil
        go_simp
        go_at_call 79
        refine Calls.mono (l02Row_any (.slice ur lr cr) x.r W _ (hR.below (bela)) hxw) ?_
        rintro e w1 ⟨rfl, hb1⟩
        have hz1 := hb1.size
        (try simp at hz1)
        try go_wp2_with fail
        refine hK.out _ _ ?_ (fun hHeld4 => ?_)
        · (try dsimp only); refine ⟨?_, ?_, ?_, ?_⟩ <;> first | (go_simp; done) | (exact cell_later (by assumption) (by go_simp))
        clear hK
        refine tkY (i := 5) (d := 22) (v := ?_) rfl rfl ?_ ?_
        rotate_left
        · intro w' hSw; (try dsimp only at hSw); go_simp; try exact rfl
        try simp only [List.setIfInBounds_toArray, List.set_cons_zero, List.set_cons_succ]
        refine tkY (i := 6) (d := 23) (v := ?_) rfl rfl ?_ ?_
        rotate_left
        · intro w' hSw; (try dsimp only at hSw); go_simp; try exact rfl
        try simp only [List.setIfInBounds_toArray, List.set_cons_zero, List.set_cons_succ]
        refine tkY (i := 7) (d := 24) (v := ?_) rfl rfl ?_ ?_
        rotate_left
        · intro w' hSw; (try dsimp only at hSw); go_simp; try exact rfl
        try simp only [List.setIfInBounds_toArray, List.set_cons_zero, List.set_cons_succ]
        refine tkY (i := 8) (d := 25) (v := ?_) rfl rfl ?_ ?_
        rotate_left
        · intro w' hSw; (try dsimp only at hSw); go_simp; try exact rfl
        try simp only [List.setIfInBounds_toArray, List.set_cons_zero, List.set_cons_succ]
        refine tkY (i := 9) (d := 26) (v := ?_) rfl rfl ?_ ?_
        rotate_left
        · intro w' hSw; (try dsimp only at hSw); go_simp; try exact rfl
        try simp only [List.setIfInBounds_toArray, List.set_cons_zero, List.set_cons_succ]
        refine tkY (i := 10) (d := 27) (v := ?_) rfl rfl ?_ ?_
        rotate_left
        · intro w' hSw; (try dsimp only at hSw); go_simp; try exact rfl
        try simp only [List.setIfInBounds_toArray, List.set_cons_zero, List.set_cons_succ]
        refine tkY (i := 11) (d := 28) (v := ?_) rfl rfl ?_ ?_
        rotate_left
        · intro w' hSw; (try dsimp only at hSw); go_simp; try exact rfl
        try simp only [List.setIfInBounds_toArray, List.set_cons_zero, List.set_cons_succ]
        refine tkN (i := 12) (d := 29) rfl rfl ?_
        try simp only [List.setIfInBounds_toArray, List.set_cons_zero, List.set_cons_succ]
        refine tkN (i := 13) (d := 30) rfl rfl ?_
        try simp only [List.setIfInBounds_toArray, List.set_cons_zero, List.set_cons_succ]
        refine wpAnyH_ready (rs := [14]) (by kernel_rfl) (by simp) ?_
        refine AllReadyH.cons rfl (fun K hK => ?_) AllReadyH.nil
        go_simp
        refine hK.out _ _ ?_ (fun hHeld14 => ?_)
        · (try dsimp only); refine ⟨?_, ?_, ?_, ?_⟩ <;> first | (go_simp; done) | (exact cell_later (by assumption) (by go_simp))
        clear hK
        refine tkN (i := 15) (d := 32) rfl rfl ?_
        try simp only [List.setIfInBounds_toArray, List.set_cons_zero, List.set_cons_succ]
        refine tkY (i := 16) (d := 33) (v := ?_) rfl rfl ?_ ?_
        rotate_left
        · intro w' hSw; (try dsimp only at hSw); go_simp; try exact rfl
        try simp only [List.setIfInBounds_toArray, List.set_cons_zero, List.set_cons_succ]
        refine tkY (i := 17) (d := 34) (v := ?_) rfl rfl ?_ ?_
        rotate_left
        · intro w' hSw; (try dsimp only at hSw); go_simp; try exact rfl
        try simp only [List.setIfInBounds_toArray, List.set_cons_zero, List.set_cons_succ]
        refine tkN (i := 18) (d := 35) rfl rfl ?_
        try simp only [List.setIfInBounds_toArray, List.set_cons_zero, List.set_cons_succ]
        refine tkN (i := 19) (d := 36) rfl rfl ?_
        try simp only [List.setIfInBounds_toArray, List.set_cons_zero, List.set_cons_succ]
        refine tkN (i := 20) (d := 37) rfl rfl ?_
        try simp only [List.setIfInBounds_toArray, List.set_cons_zero, List.set_cons_succ]
        refine tkN (i := 21) (d := 38) rfl rfl ?_
        try simp only [List.setIfInBounds_toArray, List.set_cons_zero, List.set_cons_succ]
        refine tkN (i := 22) (d := 39) rfl rfl ?_
        try simp only [List.setIfInBounds_toArray, List.set_cons_zero, List.set_cons_succ]
        refine tkN (i := 23) (d := 40) rfl rfl ?_
        try simp only [List.setIfInBounds_toArray, List.set_cons_zero, List.set_cons_succ]
        refine tkN (i := 24) (d := 41) rfl rfl ?_
        try simp only [List.setIfInBounds_toArray, List.set_cons_zero, List.set_cons_succ]
        refine tkN (i := 25) (d := 42) rfl rfl ?_
        try simp only [List.setIfInBounds_toArray, List.set_cons_zero, List.set_cons_succ]
        refine tkN (i := 26) (d := 43) rfl rfl ?_
        try simp only [List.setIfInBounds_toArray, List.set_cons_zero, List.set_cons_succ]
        refine tkN (i := 27) (d := 44) rfl rfl ?_
        try simp only [List.setIfInBounds_toArray, List.set_cons_zero, List.set_cons_succ]
        refine tkN (i := 28) (d := 45) rfl rfl ?_
        try simp only [List.setIfInBounds_toArray, List.set_cons_zero, List.set_cons_succ]
        refine tkN (i := 29) (d := 46) rfl rfl ?_
        try simp only [List.setIfInBounds_toArray, List.set_cons_zero, List.set_cons_succ]
        refine wpAnyH_ready (rs := [30]) (by kernel_rfl) (by simp) ?_
        refine AllReadyH.cons rfl (fun K hK => ?_) AllReadyH.nil
        go_simp
        refine hK.out _ _ ?_ (fun hHeld30 => ?_)
        · (try dsimp only); refine ⟨?_, ?_, ?_, ?_⟩ <;> first | (go_simp; done) | (exact cell_later (by assumption) (by go_simp))
        clear hK
        refine tkN (i := 31) (d := 48) rfl rfl ?_
        try simp only [List.setIfInBounds_toArray, List.set_cons_zero, List.set_cons_succ]
        refine tkN (i := 32) (d := 49) rfl rfl ?_
        try simp only [List.setIfInBounds_toArray, List.set_cons_zero, List.set_cons_succ]
        refine tkY (i := 33) (d := 50) (v := ?_) rfl rfl ?_ ?_
        rotate_left
        · intro w' hSw; (try dsimp only at hSw); go_simp; try exact rfl
        try simp only [List.setIfInBounds_toArray, List.set_cons_zero, List.set_cons_succ]
        refine wpAnyH_done (by kernel_rfl) ?_ _
        go_wp2
        go_returns
        refine ⟨ret_bool ?_, bela⟩
        unfold okBag
        rw [HE.out, HS.out, HN.out]
        simp
      have hn1 : (x.n == 0) = false := by simpa using hn0
      by_cases hcn : (decide (-1000000000 ≤ x.n) && decide (x.n ≤ 1000000000)) = true
      rotate_left
      · have HN : Hid (okN x.n = false) := okN_out hcn
        have hcf : (decide (-1000000000 ≤ x.n) && decide (x.n ≤ 1000000000)) = false := by simpa using hcn
        subst hq
        clear ha hw hL hx hn0 hcn
        go_wp2_with fail
        refine wp_region_held_drew (S := (fun w' => w'.cell? ⟨w.heap.size, 0, none⟩ = some (.int .i64 W) ∧ w'.cell? ⟨w.heap.size, 1, none⟩ = some (.slice (some ⟨b, o, none⟩) cs.length c) ∧ w'.cell? ⟨wr.heap.size, 0, none⟩ = some (.slice ur lr cr) ∧ w'.cell? ⟨wr.heap.size, 1, none⟩ = some (.int .i64 x.n))) (by kernel_rfl) ?_ (fun hHeld => ?_)
        · (try dsimp only); refine ⟨?_, ?_, ?_, ?_⟩ <;> first | (go_simp; done) | (exact cell_later (by assumption) (by go_simp))
        refine tkY (i := 0) (d := 17) (v := ?_) rfl rfl ?_ ?_
        rotate_left
        · intro w' hSw; (try dsimp only at hSw); go_simp; try exact rfl
        try simp only [List.setIfInBounds_toArray, List.set_cons_zero, List.set_cons_succ]
        refine tkY (i := 1) (d := 18) (v := ?_) rfl rfl ?_ ?_
        rotate_left
        · intro w' hSw; (try dsimp only at hSw); go_simp; try exact rfl
        try simp only [List.setIfInBounds_toArray, List.set_cons_zero, List.set_cons_succ]
        refine tkY (i := 2) (d := 19) (v := ?_) rfl rfl ?_ ?_
        rotate_left
        · intro w' hSw; (try dsimp only at hSw); go_simp; try exact rfl
        try simp only [List.setIfInBounds_toArray, List.set_cons_zero, List.set_cons_succ]
        refine tkY (i := 3) (d := 20) (v := ?_) rfl rfl ?_ ?_
        rotate_left
        · intro w' hSw; (try dsimp only at hSw); go_simp; try exact rfl
        try simp only [List.setIfInBounds_toArray, List.set_cons_zero, List.set_cons_succ]
        refine wpAnyH_ready (rs := [4]) (by kernel_rfl) (by simp) ?_
        refine AllReadyH.cons rfl (fun K hK => ?_) AllReadyH.nil
        go_simp
        go_at_call 79
        refine Calls.mono (l02Row_any (.slice ur lr cr) x.r W _ (hR.below (bela)) hxw) ?_
        rintro e w1 ⟨rfl, hb1⟩
        have hz1 := hb1.size
        (try simp at hz1)
        try go_wp2_with fail
        refine hK.out _ _ ?_ (fun hHeld4 => ?_)
        · (try dsimp only); refine ⟨?_, ?_, ?_, ?_⟩ <;> first | (go_simp; done) | (exact cell_later (by assumption) (by go_simp))
        clear hK
        refine tkY (i := 5) (d := 22) (v := ?_) rfl rfl ?_ ?_
        rotate_left
        · intro w' hSw; (try dsimp only at hSw); go_simp; try exact rfl
        try simp only [List.setIfInBounds_toArray, List.set_cons_zero, List.set_cons_succ]
        refine tkY (i := 6) (d := 23) (v := ?_) rfl rfl ?_ ?_
        rotate_left
        · intro w' hSw; (try dsimp only at hSw); go_simp; try exact rfl
        try simp only [List.setIfInBounds_toArray, List.set_cons_zero, List.set_cons_succ]
        refine tkY (i := 7) (d := 24) (v := ?_) rfl rfl ?_ ?_
        rotate_left
        · intro w' hSw; (try dsimp only at hSw); go_simp; try exact rfl
        try simp only [List.setIfInBounds_toArray, List.set_cons_zero, List.set_cons_succ]
        refine tkY (i := 8) (d := 25) (v := ?_) rfl rfl ?_ ?_
        rotate_left
        · intro w' hSw; (try dsimp only at hSw); go_simp; try exact rfl
        try simp only [List.setIfInBounds_toArray, List.set_cons_zero, List.set_cons_succ]
        refine tkY (i := 9) (d := 26) (v := ?_) rfl rfl ?_ ?_
        rotate_left
        · intro w' hSw; (try dsimp only at hSw); go_simp; try exact rfl
        try simp only [List.setIfInBounds_toArray, List.set_cons_zero, List.set_cons_succ]
        refine tkY (i := 10) (d := 27) (v := ?_) rfl rfl ?_ ?_
        rotate_left
        · intro w' hSw; (try dsimp only at hSw); go_simp; try exact rfl
        try simp only [List.setIfInBounds_toArray, List.set_cons_zero, List.set_cons_succ]
        refine tkY (i := 11) (d := 28) (v := ?_) rfl rfl ?_ ?_
        rotate_left
        · intro w' hSw; (try dsimp only at hSw); go_simp; try exact rfl
        try simp only [List.setIfInBounds_toArray, List.set_cons_zero, List.set_cons_succ]
        refine tkY (i := 12) (d := 29) (v := ?_) rfl rfl ?_ ?_
        rotate_left
        · intro w' hSw; (try dsimp only at hSw); go_simp; try exact rfl
        try simp only [List.setIfInBounds_toArray, List.set_cons_zero, List.set_cons_succ]
        refine tkY (i := 13) (d := 30) (v := ?_) rfl rfl ?_ ?_
        rotate_left
        · intro w' hSw; (try dsimp only at hSw); go_simp; try exact rfl
        try simp only [List.setIfInBounds_toArray, List.set_cons_zero, List.set_cons_succ]
        refine wpAnyH_ready (rs := [14]) (by kernel_rfl) (by simp) ?_
        refine AllReadyH.cons rfl (fun K hK => ?_) AllReadyH.nil
        go_simp
        go_at_call 51
        refine Calls.mono (l01In_any x.n (-1000000000) 1000000000 _) ?_
        rintro e w2 ⟨rfl, hb2⟩
        have hz2 := hb2.size
        (try simp at hz2)
        try go_wp2_with fail
        refine hK.out _ _ ?_ (fun hHeld14 => ?_)
        · (try dsimp only); refine ⟨?_, ?_, ?_, ?_⟩ <;> first | (go_simp; done) | (exact cell_later (by assumption) (by go_simp))
        clear hK
        refine tkY (i := 15) (d := 32) (v := ?_) rfl rfl ?_ ?_
        rotate_left
        · intro w' hSw; (try dsimp only at hSw); go_simp; try exact rfl
        try simp only [List.setIfInBounds_toArray, List.set_cons_zero, List.set_cons_succ]
        refine tkY (i := 16) (d := 33) (v := ?_) rfl rfl ?_ ?_
        rotate_left
        · intro w' hSw; (try dsimp only at hSw); go_simp; try exact rfl
        try simp only [List.setIfInBounds_toArray, List.set_cons_zero, List.set_cons_succ]
        refine tkY (i := 17) (d := 34) (v := ?_) rfl rfl ?_ ?_
        rotate_left
        · intro w' hSw; (try dsimp only at hSw); go_simp; try exact rfl
        try simp only [List.setIfInBounds_toArray, List.set_cons_zero, List.set_cons_succ]
        refine tkN (i := 18) (d := 35) rfl rfl ?_
        try simp only [List.setIfInBounds_toArray, List.set_cons_zero, List.set_cons_succ]
        refine tkN (i := 19) (d := 36) rfl rfl ?_
        try simp only [List.setIfInBounds_toArray, List.set_cons_zero, List.set_cons_succ]
        refine tkN (i := 20) (d := 37) rfl rfl ?_
        try simp only [List.setIfInBounds_toArray, List.set_cons_zero, List.set_cons_succ]
        refine tkN (i := 21) (d := 38) rfl rfl ?_
        try simp only [List.setIfInBounds_toArray, List.set_cons_zero, List.set_cons_succ]
        refine tkN (i := 22) (d := 39) rfl rfl ?_
        try simp only [List.setIfInBounds_toArray, List.set_cons_zero, List.set_cons_succ]
        refine tkN (i := 23) (d := 40) rfl rfl ?_
        try simp only [List.setIfInBounds_toArray, List.set_cons_zero, List.set_cons_succ]
        refine tkN (i := 24) (d := 41) rfl rfl ?_
        try simp only [List.setIfInBounds_toArray, List.set_cons_zero, List.set_cons_succ]
        refine tkN (i := 25) (d := 42) rfl rfl ?_
        try simp only [List.setIfInBounds_toArray, List.set_cons_zero, List.set_cons_succ]
        refine tkN (i := 26) (d := 43) rfl rfl ?_
        try simp only [List.setIfInBounds_toArray, List.set_cons_zero, List.set_cons_succ]
        refine tkN (i := 27) (d := 44) rfl rfl ?_
        try simp only [List.setIfInBounds_toArray, List.set_cons_zero, List.set_cons_succ]
        refine tkN (i := 28) (d := 45) rfl rfl ?_
        try simp only [List.setIfInBounds_toArray, List.set_cons_zero, List.set_cons_succ]
        refine tkN (i := 29) (d := 46) rfl rfl ?_
        try simp only [List.setIfInBounds_toArray, List.set_cons_zero, List.set_cons_succ]
        refine wpAnyH_ready (rs := [30]) (by kernel_rfl) (by simp) ?_
        refine AllReadyH.cons rfl (fun K hK => ?_) AllReadyH.nil
        go_simp
        refine hK.out _ _ ?_ (fun hHeld30 => ?_)
        · (try dsimp only); refine ⟨?_, ?_, ?_, ?_⟩ <;> first | (go_simp; done) | (exact cell_later (by assumption) (by go_simp))
        clear hK
        refine tkN (i := 31) (d := 48) rfl rfl ?_
        try simp only [List.setIfInBounds_toArray, List.set_cons_zero, List.set_cons_succ]
        refine tkN (i := 32) (d := 49) rfl rfl ?_
        try simp only [List.setIfInBounds_toArray, List.set_cons_zero, List.set_cons_succ]
        refine tkY (i := 33) (d := 50) (v := ?_) rfl rfl ?_ ?_
        rotate_left
        · intro w' hSw; (try dsimp only at hSw); go_simp; try exact rfl
        try simp only [List.setIfInBounds_toArray, List.set_cons_zero, List.set_cons_succ]
        refine wpAnyH_done (by kernel_rfl) ?_ _
        go_wp2
        go_returns
        refine ⟨ret_bool ?_, bela⟩
        unfold okBag
        rw [HE.out, HS.out, HN.out]
        simp
      have HN : Hid (okN x.n = true) := okN_in hn0 hcn
      clear hn0
      rcases Nat.eq_zero_or_pos k with hk0 | hk0
      · subst hk0
        obtain rfl : q = 0 := by simpa using hq
        rw [Nat.zero_mul, Nat.add_zero] at c0
        rw [Nat.zero_mul, Nat.add_zero] at c1
        clear ha hw hL hx hq
        go_wp2_with fail
        refine wp_region_held_drew (S := (fun w' => w'.cell? ⟨w.heap.size, 0, none⟩ = some (.int .i64 W) ∧ w'.cell? ⟨w.heap.size, 1, none⟩ = some (.slice (some ⟨b, o, none⟩) cs.length c) ∧ w'.cell? ⟨wr.heap.size, 0, none⟩ = some (.slice ur lr cr) ∧ w'.cell? ⟨wr.heap.size, 1, none⟩ = some (.int .i64 x.n))) (by kernel_rfl) ?_ (fun hHeld => ?_)
        · (try dsimp only); refine ⟨?_, ?_, ?_, ?_⟩ <;> first | (go_simp; done) | (exact cell_later (by assumption) (by go_simp))
        refine tkY (i := 0) (d := 17) (v := ?_) rfl rfl ?_ ?_
        rotate_left
        · intro w' hSw; (try dsimp only at hSw); go_simp; try exact rfl
        try simp only [List.setIfInBounds_toArray, List.set_cons_zero, List.set_cons_succ]
        refine tkY (i := 1) (d := 18) (v := ?_) rfl rfl ?_ ?_
        rotate_left
        · intro w' hSw; (try dsimp only at hSw); go_simp; try exact rfl
        try simp only [List.setIfInBounds_toArray, List.set_cons_zero, List.set_cons_succ]
        refine tkY (i := 2) (d := 19) (v := ?_) rfl rfl ?_ ?_
        rotate_left
        · intro w' hSw; (try dsimp only at hSw); go_simp; try exact rfl
        try simp only [List.setIfInBounds_toArray, List.set_cons_zero, List.set_cons_succ]
        refine tkY (i := 3) (d := 20) (v := ?_) rfl rfl ?_ ?_
        rotate_left
        · intro w' hSw; (try dsimp only at hSw); go_simp; try exact rfl
        try simp only [List.setIfInBounds_toArray, List.set_cons_zero, List.set_cons_succ]
        refine wpAnyH_ready (rs := [4]) (by kernel_rfl) (by simp) ?_
        refine AllReadyH.cons rfl (fun K hK => ?_) AllReadyH.nil
        go_simp
        go_at_call 79
        refine Calls.mono (l02Row_any (.slice ur lr cr) x.r W _ (hR.below (bela)) hxw) ?_
        rintro e w1 ⟨rfl, hb1⟩
        have hz1 := hb1.size
        (try simp at hz1)
        try go_wp2_with fail
        refine hK.out _ _ ?_ (fun hHeld4 => ?_)
        · (try dsimp only); refine ⟨?_, ?_, ?_, ?_⟩ <;> first | (go_simp; done) | (exact cell_later (by assumption) (by go_simp))
        clear hK
        refine tkY (i := 5) (d := 22) (v := ?_) rfl rfl ?_ ?_
        rotate_left
        · intro w' hSw; (try dsimp only at hSw); go_simp; try exact rfl
        try simp only [List.setIfInBounds_toArray, List.set_cons_zero, List.set_cons_succ]
        refine tkY (i := 6) (d := 23) (v := ?_) rfl rfl ?_ ?_
        rotate_left
        · intro w' hSw; (try dsimp only at hSw); go_simp; try exact rfl
        try simp only [List.setIfInBounds_toArray, List.set_cons_zero, List.set_cons_succ]
        refine tkY (i := 7) (d := 24) (v := ?_) rfl rfl ?_ ?_
        rotate_left
        · intro w' hSw; (try dsimp only at hSw); go_simp; try exact rfl
        try simp only [List.setIfInBounds_toArray, List.set_cons_zero, List.set_cons_succ]
        refine tkY (i := 8) (d := 25) (v := ?_) rfl rfl ?_ ?_
        rotate_left
        · intro w' hSw; (try dsimp only at hSw); go_simp; try exact rfl
        try simp only [List.setIfInBounds_toArray, List.set_cons_zero, List.set_cons_succ]
        refine tkY (i := 9) (d := 26) (v := ?_) rfl rfl ?_ ?_
        rotate_left
        · intro w' hSw; (try dsimp only at hSw); go_simp; try exact rfl
        try simp only [List.setIfInBounds_toArray, List.set_cons_zero, List.set_cons_succ]
        refine tkY (i := 10) (d := 27) (v := ?_) rfl rfl ?_ ?_
        rotate_left
        · intro w' hSw; (try dsimp only at hSw); go_simp; try exact rfl
        try simp only [List.setIfInBounds_toArray, List.set_cons_zero, List.set_cons_succ]
        refine tkY (i := 11) (d := 28) (v := ?_) rfl rfl ?_ ?_
        rotate_left
        · intro w' hSw; (try dsimp only at hSw); go_simp; try exact rfl
        try simp only [List.setIfInBounds_toArray, List.set_cons_zero, List.set_cons_succ]
        refine tkY (i := 12) (d := 29) (v := ?_) rfl rfl ?_ ?_
        rotate_left
        · intro w' hSw; (try dsimp only at hSw); go_simp; try exact rfl
        try simp only [List.setIfInBounds_toArray, List.set_cons_zero, List.set_cons_succ]
        refine tkY (i := 13) (d := 30) (v := ?_) rfl rfl ?_ ?_
        rotate_left
        · intro w' hSw; (try dsimp only at hSw); go_simp; try exact rfl
        try simp only [List.setIfInBounds_toArray, List.set_cons_zero, List.set_cons_succ]
        refine wpAnyH_ready (rs := [14]) (by kernel_rfl) (by simp) ?_
        refine AllReadyH.cons rfl (fun K hK => ?_) AllReadyH.nil
        go_simp
        go_at_call 51
        refine Calls.mono (l01In_any x.n (-1000000000) 1000000000 _) ?_
        rintro e w2 ⟨rfl, hb2⟩
        have hz2 := hb2.size
        (try simp at hz2)
        try go_wp2_with fail
        refine hK.out _ _ ?_ (fun hHeld14 => ?_)
        · (try dsimp only); refine ⟨?_, ?_, ?_, ?_⟩ <;> first | (go_simp; done) | (exact cell_later (by assumption) (by go_simp))
        clear hK
        refine tkY (i := 15) (d := 32) (v := ?_) rfl rfl ?_ ?_
        rotate_left
        · intro w' hSw; (try dsimp only at hSw); go_simp; try exact rfl
        try simp only [List.setIfInBounds_toArray, List.set_cons_zero, List.set_cons_succ]
        refine tkY (i := 16) (d := 33) (v := ?_) rfl rfl ?_ ?_
        rotate_left
        · intro w' hSw; (try dsimp only at hSw); go_simp; try exact rfl
        try simp only [List.setIfInBounds_toArray, List.set_cons_zero, List.set_cons_succ]
        refine tkY (i := 17) (d := 34) (v := ?_) rfl rfl ?_ ?_
        rotate_left
        · intro w' hSw; (try dsimp only at hSw); go_simp; try exact rfl
        try simp only [List.setIfInBounds_toArray, List.set_cons_zero, List.set_cons_succ]
        refine tkY (i := 18) (d := 35) (v := ?_) rfl rfl ?_ ?_
        rotate_left
        · intro w' hSw; (try dsimp only at hSw); go_simp; try exact rfl
        try simp only [List.setIfInBounds_toArray, List.set_cons_zero, List.set_cons_succ]
        refine tkY (i := 19) (d := 36) (v := ?_) rfl rfl ?_ ?_
        rotate_left
        · intro w' hSw; (try dsimp only at hSw); go_simp; try exact rfl
        try simp only [List.setIfInBounds_toArray, List.set_cons_zero, List.set_cons_succ]
        refine tkY (i := 20) (d := 37) (v := ?_) rfl rfl ?_ ?_
        rotate_left
        · intro w' hSw; (try dsimp only at hSw); go_simp; try exact rfl
        try simp only [List.setIfInBounds_toArray, List.set_cons_zero, List.set_cons_succ]
        refine tkN (i := 21) (d := 38) rfl rfl ?_
        try simp only [List.setIfInBounds_toArray, List.set_cons_zero, List.set_cons_succ]
        refine tkN (i := 22) (d := 39) rfl rfl ?_
        try simp only [List.setIfInBounds_toArray, List.set_cons_zero, List.set_cons_succ]
        refine tkN (i := 23) (d := 40) rfl rfl ?_
        try simp only [List.setIfInBounds_toArray, List.set_cons_zero, List.set_cons_succ]
        refine tkN (i := 24) (d := 41) rfl rfl ?_
        try simp only [List.setIfInBounds_toArray, List.set_cons_zero, List.set_cons_succ]
        refine tkN (i := 25) (d := 42) rfl rfl ?_
        try simp only [List.setIfInBounds_toArray, List.set_cons_zero, List.set_cons_succ]
        refine tkN (i := 26) (d := 43) rfl rfl ?_
        try simp only [List.setIfInBounds_toArray, List.set_cons_zero, List.set_cons_succ]
        refine tkN (i := 27) (d := 44) rfl rfl ?_
        try simp only [List.setIfInBounds_toArray, List.set_cons_zero, List.set_cons_succ]
        refine tkN (i := 28) (d := 45) rfl rfl ?_
        try simp only [List.setIfInBounds_toArray, List.set_cons_zero, List.set_cons_succ]
        refine tkN (i := 29) (d := 46) rfl rfl ?_
        try simp only [List.setIfInBounds_toArray, List.set_cons_zero, List.set_cons_succ]
        refine wpAnyH_ready (rs := [30]) (by kernel_rfl) (by simp) ?_
        refine AllReadyH.cons rfl (fun K hK => ?_) AllReadyH.nil
        go_simp
        refine hK.out _ _ ?_ (fun hHeld30 => ?_)
        · (try dsimp only); refine ⟨?_, ?_, ?_, ?_⟩ <;> first | (go_simp; done) | (exact cell_later (by assumption) (by go_simp))
        clear hK
        refine tkN (i := 31) (d := 48) rfl rfl ?_
        try simp only [List.setIfInBounds_toArray, List.set_cons_zero, List.set_cons_succ]
        refine tkY (i := 32) (d := 49) (v := ?_) rfl rfl ?_ ?_
        rotate_left
        · intro w' hSw; (try dsimp only at hSw); go_simp; try exact rfl
        try simp only [List.setIfInBounds_toArray, List.set_cons_zero, List.set_cons_succ]
        refine tkY (i := 33) (d := 50) (v := ?_) rfl rfl ?_ ?_
        rotate_left
        · intro w' hSw; (try dsimp only at hSw); go_simp; try exact rfl
        try simp only [List.setIfInBounds_toArray, List.set_cons_zero, List.set_cons_succ]
        refine wpAnyH_done (by kernel_rfl) ?_ _
        obtain ⟨r0, r1, _⟩ := hHeld30
        go_wp2
        go_roundw
        case rel =>
          refine ⟨1, 1, hlt, rfl, by simp, bela, by (first | omega | (simp; omega)), r0, r1, ?_⟩
          rw [HE.out, HS.out, hok, HN.out, prev_zero]
          simp [okPrev]
        case measure => simp [intOf]; omega
      · obtain ⟨j, rfl⟩ : ∃ j, k = j + 1 := ⟨k - 1, by omega⟩
        obtain rfl : q = (j : Int) + 1 := by omega
        obtain ⟨y, t, hy, d0, hT, d1, _⟩ := hL.at hblt hb (show j < cs.length by omega)
        have HP : Hid (prev cs (j + 1) = some y) := prev_succ hy
        have HQ : Hid (okPrev (prev cs (j + 1)) x = decide (cmpRow y.r x.r < 0)) := by rw [HP.out]; rfl
        have hw1 : IntKind.i64.wrap (j : Int) = j := by rw [IntKind.wrap_i64]; omega
        have hw2 : IntKind.i64.wrap ((j : Int) + 1 - 1) = j := by rw [IntKind.wrap_i64]; omega
        have hi0 : (0 : Int) ≤ j := by omega
        have hi1 : (j : Int) < cs.length := by omega
        have hi2 : (0 : Int) < (j : Int) + 1 := by omega
        clear ha hw hL hx hy hq
        go_wp2_with fail
        go_region_held3 (fun w' => w'.cell? ⟨w.heap.size, 0, none⟩ = some (.int .i64 W) ∧ w'.cell? ⟨w.heap.size, 1, none⟩ = some (.slice (some ⟨b, o, none⟩) cs.length c) ∧ w'.cell? ⟨wr.heap.size, 0, none⟩ = some (.slice ur lr cr) ∧ w'.cell? ⟨wr.heap.size, 1, none⟩ = some (.int .i64 x.n) ∧ w'.cell? ⟨b, o + j * 2, none⟩ = some t) (refine ⟨?_, ?_, ?_, ?_, ?_⟩ <;> first | (go_simp; done) | (exact cell_later (by assumption) (by go_simp))) (first | (go_at_call 79; refine Calls.mono (l02Row_any (.slice ur lr cr) x.r W _ (hR.below (bela)) hxw) ?_; rintro e w1 ⟨rfl, hb1⟩; have hz1 := hb1.size; (try simp at hz1)) | (go_at_call 51; refine Calls.mono (l01In_any x.n (-1000000000) 1000000000 _) ?_; rintro e w2 ⟨rfl, hb2⟩; have hz2 := hb2.size; (try simp at hz2)) | (go_at_call 80; refine Calls.mono (specRow_any t (.slice ur lr cr) y.r x.r _ (hT.below (bela)) (hR.below (bela))) ?_; rintro e w3 ⟨rfl, hb3⟩; have hz3 := hb3.size; (try simp at hz3)))
        rename_i hHeld
        obtain ⟨r0, r1, _⟩ := hHeld
        by_cases hcmp : 0 ≤ cmpRow y.r x.r
        · go_wp2
          go_returns
          refine ⟨ret_bool ?_, bela⟩
          unfold okBag
          rw [HE.out, HS.out, HQ.out]
          simp [show ¬ cmpRow y.r x.r < 0 from by omega]
        · go_wp2
          go_roundw
          case rel =>
            refine ⟨j + 1 + 1, (j : Int) + 1 + 1, hlt, by omega, by simp, bela, by (first | omega | (simp; omega)), r0, r1, ?_⟩
            rw [HE.out, HS.out, HQ.out, hok, HN.out]
            simp [show cmpRow y.r x.r < 0 from by omega]
          case measure => simp [intOf]; omega
    · have HN : Hid (okCs W none cs = true) := by rw [HE.out, List.drop_eq_nil_of_le (by omega)]; exact rfl
      clear ha hw
      by_cases h0 : (decide (0 ≤ W) && decide (W ≤ 12)) = true
      · go_wp2_with (first | (go_at_call 51; refine Calls.mono (l01In_any W 0 12 _) ?_; rintro e w1 ⟨rfl, hb1⟩; have hz1 := hb1.size; have r1 : w1.cell? ⟨w.heap.size, 1, none⟩ = some (.slice a cs.length c) := cell_later hb1 (by go_simp)) | fail)
        all_goals go_returns
        all_goals refine ⟨ret_bool ?_, bela⟩
        all_goals (unfold okBag; rw [HN.out, h0, Bool.and_true, Bool.true_and])
        all_goals first | rfl | (simp; try omega)
      · go_wp2_with (first | (go_at_call 51; refine Calls.mono (l01In_any W 0 12 _) ?_; rintro e w1 ⟨rfl, hb1⟩; have hz1 := hb1.size; have r1 : w1.cell? ⟨w.heap.size, 1, none⟩ = some (.slice a cs.length c) := cell_later hb1 (by go_simp)) | fail)
        all_goals go_returns
        all_goals refine ⟨ret_bool ?_, bela⟩
        all_goals (unfold okBag; rw [show (decide (0 ≤ W) && decide (W ≤ 12)) = false from by simpa using h0, Bool.false_and, Bool.false_and])
        all_goals first | rfl | (simp_all; try omega)
end Go.Proofs.YtbmoimfimeiglaaGreat
