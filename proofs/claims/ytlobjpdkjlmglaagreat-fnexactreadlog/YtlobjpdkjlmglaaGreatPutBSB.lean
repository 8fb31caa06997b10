/- Own text. The contract of spec.PutBag. -/
import Derived.Test.YtlobjpdkjlmglaaGreatPutS
import Derived.Test.YtlobjpdkjlmglaaGreatPutBD
import Derived.Handy
namespace Go.Proofs.YtlobjpdkjlmglaaGreat
open Go.RowKit
set_option linter.unusedVariables false
theorem numL_byte {n : Int} {j : Nat} {y : Int} (h : y ∈ numL n j) : 0 ≤ y ∧ y < 256 := by
  unfold numL at h
  rcases List.mem_cons.1 h with rfl | h
  · omega
  · obtain ⟨q, _, rfl⟩ := List.mem_map.1 h
    unfold numB
    omega
theorem cells_numL (n : Int) : Lib.strCells (strOfNums (numL n 8)) = (numL n 8).map (Value.int .u8) := by
  unfold Lib.strCells
  rw [strOfNums_data, List.map_map]
  refine List.map_congr_left fun y hy => ?_
  obtain ⟨h0, h1⟩ := numL_byte hy
  simp only [Function.comp]
  congr 1
  rw [UInt8.toNat_ofNat']
  omega
theorem put_num (n : Int) : putS 1 n ⟨#[]⟩ = strOfNums (numL n 8) := putS_1 n ⟨#[]⟩ (by rw [okB_1]; simp)
theorem bytes_cells (w : World) (s : ByteArray) (gc : Nat) (m : Nat × Nat) : ∀ (j : Nat) (u : Value), (Lib.strCells s)[j]? = some u → (w.alloc (.cells (bytesRow s gc) 5 m)).drew.cell? ((⟨w.heap.size, 0, none⟩ : Addr).add j) = some u := by
  intro j u hj
  have hlt : j < s.data.size := by
    obtain ⟨h, _⟩ := List.getElem?_eq_some_iff.1 hj
    simpa [Lib.strCells] using h
  have e : ((⟨w.heap.size, 0, none⟩ : Addr).add j) = ⟨w.heap.size, j, none⟩ := by unfold Addr.add; split <;> simp_all
  have hb := heap_alloc_new w (.cells (bytesRow s gc) 5 m)
  rw [e]
  show (w.alloc (.cells (bytesRow s gc) 5 m)).cell? ⟨w.heap.size, j, none⟩ = some u
  simp only [World.cell?, hb]
  have := bytesRow_at s gc j hlt
  simp only [Option.isSome_none, Bool.false_eq_true, if_false]
  rw [this]
  simp only [Lib.strCells, List.getElem?_map, Option.map_eq_some_iff] at hj
  obtain ⟨a, ha, rfl⟩ := hj
  rw [Array.getElem?_toList, Array.getElem?_eq_getElem hlt] at ha
  cases ha
  rfl
set_option maxHeartbeats 1000000 in
theorem l01Int_any (n : Int) (w : World) :
    Calls Tryz.prog 83 #[.int .i64 n] w fun e w' => e = .returned (.agg #[.int .i64 1, .int .i64 n, .string ⟨#[]⟩]) ∧ Below w.heap.size w w' := by
  go_enter Tryz.func83, Tryz.ntmps83
  go_wp2
  go_returns
  exact ⟨rfl, by go_grown⟩
set_option maxHeartbeats 4000000 in
set_option maxRecDepth 100000 in
theorem specPutBag_any (W : Int) (v : Value) (cs : List C2) (w : World) (hw : CsWf cs) (hr : RowsIs w v cs) :
    Calls Tryz.prog 44 #[.agg #[.int .i64 W, v]] w fun e w' => e = .returned (.string (putB W cs)) ∧ Below w.heap.size w w' := by
  obtain ⟨i0, hi, hi0, hi1, hi2⟩ := info_parts info5
  have hr0 := hr
  obtain ⟨a, c, b, o, rfl, hl, hc, ha⟩ := hr.pick
  unfold maxLen at hc
  go_enter Tryz.func44, Tryz.ntmps44
  go_wp2_with fail
  refine Calls.mono (specBagOk_any W (.slice a cs.length c) cs _ hw (hr0.below ?hb)) ?_
  case hb => repeat (first | exact Below.refl _ _ | refine Below.drew ?_ | refine Below.alloc ?_ (by first | (simp; done) | (simp; omega) | omega) _ | refine Below.setCell ?_ (by first | (simp; done) | (simp; omega) | omega) _ | refine bstep (by assumption) (by first | (simp; done) | (simp; omega) | omega) ?_)
  rintro e w1 ⟨rfl, hb1⟩
  have hz1 := hb1.size
  simp only [World.size_alloc] at hz1
  have p0 : w1.cell? ⟨w.heap.size, 0, none⟩ = some (.int .i64 W) := cell_later hb1 (by go_simp)
  have p1 : w1.cell? ⟨w.heap.size, 1, none⟩ = some (.slice a cs.length c) := cell_later hb1 (by go_simp)
  have bel1 : Below w.heap.size w w1 := by repeat (first | exact Below.refl _ _ | refine Below.drew ?_ | refine Below.alloc ?_ (by first | (simp; done) | (simp; omega) | omega) _ | refine Below.setCell ?_ (by first | (simp; done) | (simp; omega) | omega) _ | refine bstep (by assumption) (by first | (simp; done) | (simp; omega) | omega) ?_)
  have hsz1 : w.heap.size < w1.heap.size := by omega
  by_cases hok : okBag W cs = true
  rotate_left
  · have hf : okBag W cs = false := by simpa using hok
    go_wp2
    go_returns
    exact ⟨by simp [putB, hf], bel1⟩
  obtain ⟨hW0, hW1, hlen, hrl⟩ := okBag_facts hok
  have hWm : W % 256 = W := by omega
  have HP : Hid (putB W cs = strOfNums (bagN W cs)) := by simp [Hid, putB, hok]
  have hr1 := hr0.below bel1
  clear hr hr0 ha
  obtain ⟨a', c', b, o, hv', _, _, ha⟩ := hr1.pick
  obtain ⟨rfl, rfl⟩ : a = a' ∧ c = c' := by simpa using hv'
  clear hv' hr1
  go_wp2
  go_loopw [3, 4] (fun v i wr => ∃ k : Nat, k ≤ cs.length ∧ i = .int .i64 k ∧ wr.ownsRow w1.heap.size 5 1 v (bagN W (cs.take k)).length ((bagN W (cs.take k)).map (Value.int .u8)) ∧ Below w1.heap.size w1 wr) (fun _ i _ => cs.length - (intOf i).toNat)
  case atStart => exact ⟨0, Nat.zero_le _, rfl, own_start w1 W, by repeat (first | exact Below.refl _ _ | refine Below.drew ?_ | refine Below.alloc ?_ (by first | (simp; done) | (simp; omega) | omega) _ | refine Below.setCell ?_ (by first | (simp; done) | (simp; omega) | omega) _ | refine bstep (by assumption) (by first | (simp; done) | (simp; omega) | omega) ?_)⟩
  case round =>
    obtain ⟨k, hk, rfl, hown, hb⟩ := hrel
    have hzb := hb.size
    have p1r : wr.cell? ⟨w.heap.size, 1, none⟩ = some (.slice a cs.length c) := (hb.cell (p := ⟨w.heap.size, 1, none⟩) hsz1).trans p1
    have hkl : (bagN W (cs.take k)).length ≤ 500000 := by
      have := csN_len (cs := cs.take k) fun x hx => hrl x (List.mem_of_mem_take hx)
      have h2 : (cs.take k).length ≤ 400 := by simp; omega
      simp only [bagN, List.length_cons]; omega
    by_cases hlt : k < cs.length
    · obtain ⟨rfl, hblt, hL⟩ := ha k hlt
      obtain ⟨x, hx⟩ : ∃ x, cs[k]? = some x := ⟨cs[k], by simp [hlt]⟩
      obtain ⟨u, e0, hR, e2⟩ := hL k x hx
      have c0 : wr.cell? ⟨b, o + k * 2, none⟩ = some u := (hb.cell (p := ⟨b, o + k * 2, none⟩) hblt).trans e0
      have c1 : wr.cell? ⟨b, o + k * 2 + 1, none⟩ = some (.int .i64 x.n) := (hb.cell (p := ⟨b, o + k * 2 + 1, none⟩) hblt).trans e2
      have hbr : b < wr.heap.size := Nat.lt_of_lt_of_le hblt hzb
      obtain ⟨ur, cr, br, oo, rfl, _, hcr, hrr⟩ := hR.pick
      unfold maxLen at hcr
      have HX : Hid (cs[k]? = some x) := hx
      have hxw : VsWf x.r := (hw x (List.mem_of_getElem? hx)).1
      have hxl : x.r.length ≤ 12 := hrl x (List.mem_of_getElem? hx)
      have hxu := rowU_len x.r
      clear ha hL hx hw hrl
      go_wp2_with fail
      refine (l01Int_any x.n wr).mono ?_
      rintro e w2 ⟨rfl, hb2⟩
      have hz2 := hb2.size
      have hown2 := own_below hown hb2
      go_wp2_with fail
      refine (specPut_any 1 x.n ⟨#[]⟩ w2 (Nat.zero_le _)).mono ?_
      rintro e w3 ⟨rfl, hb3⟩
      have hz3 := hb3.size
      have hown3 := own_below hown2 hb3
      have hcv := run_bytes_of_string (P := Tryz.prog) w3 9 22 5 (putS 1 x.n ⟨#[]⟩) Tryz.underlying9 Tryz.underlying22 Tryz.underlying5
      generalize hg : grownCap w3 (putS 1 x.n ⟨#[]⟩).size 0 5 = gc at hcv
      have hs9 : (putS 1 x.n ⟨#[]⟩).size = 9 := by rw [put_num, nums_size, numL_len]
      have hown4 : (w3.alloc (.cells (bytesRow (putS 1 x.n ⟨#[]⟩) gc) 5 ((bytesRow (putS 1 x.n ⟨#[]⟩) gc).size, (bytesRow (putS 1 x.n ⟨#[]⟩) gc).size + 1))).drew.ownsRow w1.heap.size 5 1 _ _ _ := hown3.alloc _
      have bel4 : Below w1.heap.size w1 (w3.alloc (.cells (bytesRow (putS 1 x.n ⟨#[]⟩) gc) 5 ((bytesRow (putS 1 x.n ⟨#[]⟩) gc).size, (bytesRow (putS 1 x.n ⟨#[]⟩) gc).size + 1))).drew := by repeat (first | exact Below.refl _ _ | refine Below.drew ?_ | refine Below.alloc ?_ (by first | (simp; done) | (simp; omega) | omega) _ | refine Below.setCell ?_ (by first | (simp; done) | (simp; omega) | omega) _ | refine bstep (by assumption) (by first | (simp; done) | (simp; omega) | omega) ?_)
      go_wp2_with (at_builtin; refine wpList_append_own _ rfl _ _ 22 rfl w1.heap.size 5 i0 (.int .u8 0) 1 1 Tryz.underlying22 hi hi0 hi1 hi2 rfl (by decide) _ _ _ rfl hown4 ⟨w3.heap.size, 0, none⟩ 9 gc (Lib.strCells (putS 1 x.n ⟨#[]⟩)) rfl (by rw [Lib.strCells_length, hs9]) (bytes_cells _ _ _ _) (Lib.strCells_oneCell _) ?c3 ?c4 ?c5 ?_)
      case c3 => unfold maxLen; omega
      case c4 => omega
      case c5 => simp; omega
      intro v5 w5 hown5 hgr5 _
      have hz5 := hgr5.size
      simp at hz5
      have bel5 : Below w1.heap.size w1 w5 := bel4.grown hgr5 (by simp; omega) (fun k hk => (hown4.lt k hk).1)
      have R5 : w5.ownsRow w1.heap.size 5 1 v5 (bagN W (cs.take k) ++ (numL x.n 8 ++ nb (rowU (x.r.take 0)))).length ((bagN W (cs.take k) ++ (numL x.n 8 ++ nb (rowU (x.r.take 0)))).map (Value.int .u8)) := by
        refine own_eq hown5 ?_ ?_
        · simp [numL_len, nb_len, rowU]
        · rw [put_num, cells_numL]; simp [rowU, nb]
      clear hown hown2 hown3 hown4 hown5 hgr5 hcv hg hs9
      have hkl2 : (bagN W (cs.take k) ++ numL x.n 8).length ≤ 500009 := by simp [numL_len]; omega
      clear hz2 hz3 hb2 hb3 hb bel4 p1r c0 c1 hzb hkl
      have hz5' := bel5.size
      go_wp2
      go_loopw [3, 5] (fun v i wq => ∃ m : Nat, m ≤ x.r.length ∧ i = .int .i64 m ∧ wq.ownsRow w1.heap.size 5 1 v (bagN W (cs.take k) ++ (numL x.n 8 ++ nb (rowU (x.r.take m)))).length ((bagN W (cs.take k) ++ (numL x.n 8 ++ nb (rowU (x.r.take m)))).map (Value.int .u8)) ∧ Below w1.heap.size w1 wq) (fun _ i _ => x.r.length - (intOf i).toNat)
      case atStart => exact ⟨0, Nat.zero_le _, rfl, R5, bel5⟩
      case round =>
        obtain ⟨m, hm, rfl, hown, hb⟩ := hrel
        have hzb := hb.size
        clear R5 hz5 hz5'
        have p1r : wr.cell? ⟨w.heap.size, 1, none⟩ = some (.slice (some ⟨b, o, none⟩) cs.length c) := (hb.cell (p := ⟨w.heap.size, 1, none⟩) hsz1).trans p1
        have c0 : wr.cell? ⟨b, o + k * 2, none⟩ = some (.slice ur x.r.length cr) := (hb.cell (p := ⟨b, o + k * 2, none⟩) hblt).trans e0
        have hul : (rowU (x.r.take m)).length ≤ 1224 := by
          have h1 := rowU_len (x.r.take m)
          have h2 : (x.r.take m).length ≤ 12 := by simp; omega
          omega
        have hln : (bagN W (cs.take k) ++ (numL x.n 8 ++ nb (rowU (x.r.take m)))).length ≤ 502000 := by
          rw [← List.append_assoc, List.length_append, nb_len]; omega
        by_cases hmt : m < x.r.length
        · obtain ⟨rfl, hbrl, hLr⟩ := hrr m hmt
          obtain ⟨y, hy, d0, d1, d2, _⟩ := hLr.at hbrl hb hmt
          have HY : Hid (x.r[m]? = some y) := hy
          have hys : y.s.size ≤ maxLen := (hxw y (List.mem_of_getElem? hy)).2.2
          have hp := putS_size y.k y.n y.s
          clear hrr hLr hy hxw
          go_wp2_with fail
          refine (specPut_any y.k y.n y.s wr hys).mono ?_
          rintro e w2 ⟨rfl, hb2⟩
          have hz2 := hb2.size
          have hown2 := own_below hown hb2
          have hcv := run_bytes_of_string (P := Tryz.prog) w2 9 22 5 (putS y.k y.n y.s) Tryz.underlying9 Tryz.underlying22 Tryz.underlying5
          generalize hg : grownCap w2 (putS y.k y.n y.s).size 0 5 = gd at hcv
          have hown4 : (w2.alloc (.cells (bytesRow (putS y.k y.n y.s) gd) 5 ((bytesRow (putS y.k y.n y.s) gd).size, (bytesRow (putS y.k y.n y.s) gd).size + 1))).drew.ownsRow w1.heap.size 5 1 _ _ _ := hown2.alloc _
          have bel4 : Below w1.heap.size w1 (w2.alloc (.cells (bytesRow (putS y.k y.n y.s) gd) 5 ((bytesRow (putS y.k y.n y.s) gd).size, (bytesRow (putS y.k y.n y.s) gd).size + 1))).drew := by repeat (first | exact Below.refl _ _ | refine Below.drew ?_ | refine Below.alloc ?_ (by first | (simp; done) | (simp; omega) | omega) _ | refine Below.setCell ?_ (by first | (simp; done) | (simp; omega) | omega) _ | refine bstep (by assumption) (by first | (simp; done) | (simp; omega) | omega) ?_)
          go_wp2_with (at_builtin; refine wpList_append_own _ rfl _ _ 22 rfl w1.heap.size 5 i0 (.int .u8 0) 1 1 Tryz.underlying22 hi hi0 hi1 hi2 rfl (by decide) _ _ _ rfl hown4 ⟨w2.heap.size, 0, none⟩ (putS y.k y.n y.s).size gd (Lib.strCells (putS y.k y.n y.s)) rfl (by rw [Lib.strCells_length, Nat.mul_one]) (bytes_cells _ _ _ _) (Lib.strCells_oneCell _) ?c3 ?c4 ?c5 ?_)
          case c3 => unfold maxLen; omega
          case c4 => omega
          case c5 => simp; omega
          intro v6 w6 hown6 hgr6 _
          have hz6 := hgr6.size
          have bel6 : Below w1.heap.size w1 w6 := bel4.grown hgr6 (by simp; omega) (fun k hk => (hown4.lt k hk).1)
          have R6 : w6.ownsRow w1.heap.size 5 1 v6 (bagN W (cs.take k) ++ (numL x.n 8 ++ nb (rowU (x.r.take (m + 1))))).length ((bagN W (cs.take k) ++ (numL x.n 8 ++ nb (rowU (x.r.take (m + 1))))).map (Value.int .u8)) := by
            have eU : rowU (x.r.take (m + 1)) = rowU (x.r.take m) ++ (putS y.k y.n y.s).data.toList := rowU_take HY.out
            refine own_eq hown6 ?_ ?_
            · have : (putS y.k y.n y.s).data.toList.length = (putS y.k y.n y.s).size := Array.length_toList
              simp only [List.length_append, nb_len, eU]; omega
            · rw [eU]; simp only [List.map_append, nb_cells, Lib.byteCells_append, Lib.strCells_eq]
          clear hown hown2 hown4 hown6 hgr6 hcv hg bel4
          go_wp2
          go_roundw
          case rel => exact ⟨m + 1, hmt, by simp, R6, bel6⟩
          case measure => simp [intOf]; omega
        · clear hrr
          obtain rfl : m = x.r.length := by omega
          rw [List.take_length] at hown
          have eN : bagN W (cs.take (k + 1)) = bagN W (cs.take k) ++ (numL x.n 8 ++ nb (rowU x.r)) := by unfold bagN; rw [csN_take HX.out]; rfl
          have R7 : wr.ownsRow w1.heap.size 5 1 u3 (bagN W (cs.take (k + 1))).length ((bagN W (cs.take (k + 1))).map (Value.int .u8)) := by rw [eN]; exact hown
          clear hown eN
          go_wp2
          go_roundw
          case rel => exact ⟨k + 1, hlt, by simp, R7, hb⟩
          case measure => simp [intOf]; omega
    · clear ha hw hrl
      obtain rfl : k = cs.length := by omega
      rw [List.take_length] at hown
      have hcv := conv_own (bagN W cs) hown (by simp [bagN])
      go_wp2
      go_returns
      exact ⟨ret_str HP.out.symm, bel1.trans (hb.mono (by omega))⟩
end Go.Proofs.YtlobjpdkjlmglaaGreat
