/- Own texts, joined: contracts that the law's proof goes by. -/
import Derived.Test.YtbmoimfimeiglaaGreatGLFnLog11
import Derived.Test.YtbmoimfimeiglaaGreatGLFnLog7
import Derived.Test.YtbmoimfimeiglaaGreatGLFnLog13
import Derived.Handy
import Derived.Test.YtbmoimfimeiglaaGreatGLFnLog23
import Derived.Laws.BytesArg
namespace Go.Proofs.YtbmoimfimeiglaaGreat
open Go.RowKit
set_option linter.unusedVariables false
theorem numL_byte {n : Int} {j : Nat} {y : Int} (h : y ∈ numL n j) : 0 ≤ y ∧ y < 256 := by
  unfold numL at h
  rcases List.mem_cons.1 h with rfl | h
  · omega
  · obtain ⟨q, _, rfl⟩ := List.mem_map.1 h
    unfold numB
    omega
theorem cells_numL (n : Int) : Lib.strCells (strOfNums (numL n 8)) = (numL n 8).map (Value.int .u8) := by
  unfold Lib.strCells
  rw [strOfNums_data, List.map_map]
  refine List.map_congr_left fun y hy => ?_
  obtain ⟨h0, h1⟩ := numL_byte hy
  simp only [Function.comp]
  congr 1
  rw [UInt8.toNat_ofNat']
  omega
theorem put_num (n : Int) : putS 1 n ⟨#[]⟩ = strOfNums (numL n 8) := putS_1 n ⟨#[]⟩ (by rw [okB_1]; simp)
theorem bytes_cells (w : World) (s : ByteArray) (gc : Nat) (m : Nat × Nat) : ∀ (j : Nat) (u : Value), (Lib.strCells s)[j]? = some u → (w.alloc (.cells (bytesRow s gc) 5 m)).drew.cell? ((⟨w.heap.size, 0, none⟩ : Addr).add j) = some u := by
  intro j u hj
  have hlt : j < s.data.size := by
    obtain ⟨h, _⟩ := List.getElem?_eq_some_iff.1 hj
    simpa [Lib.strCells] using h
  have e : ((⟨w.heap.size, 0, none⟩ : Addr).add j) = ⟨w.heap.size, j, none⟩ := by unfold Addr.add; split <;> simp_all
  have hb := heap_alloc_new w (.cells (bytesRow s gc) 5 m)
  rw [e]
  show (w.alloc (.cells (bytesRow s gc) 5 m)).cell? ⟨w.heap.size, j, none⟩ = some u
  simp only [World.cell?, hb]
  have := bytesRow_at s gc j hlt
  simp only [Option.isSome_none, Bool.false_eq_true, if_false]
  rw [this]
  simp only [Lib.strCells, List.getElem?_map, Option.map_eq_some_iff] at hj
  obtain ⟨a, ha, rfl⟩ := hj
  rw [Array.getElem?_toList, Array.getElem?_eq_getElem hlt] at ha
  cases ha
  rfl
set_option maxHeartbeats 1000000 in
theorem l01Int_any (n : Int) (w : World) :
    Calls Tryz.prog 73 #[.int .i64 n] w fun e w' => e = .returned (.agg #[.int .i64 1, .int .i64 n, .string ⟨#[]⟩]) ∧ Below w.heap.size w w' := by
  go_enter Tryz.func73, Tryz.ntmps73
  go_wp2
  go_returns
  exact ⟨rfl, by go_grown⟩
set_option maxHeartbeats 4000000 in
set_option maxRecDepth 100000 in
theorem specPutBag_any (W : Int) (v : Value) (cs : List C2) (w : World) (hw : CsWf cs) (hr : RowsIs w v cs) :
    Calls Tryz.prog 40 #[.agg #[.int .i64 W, v]] w fun e w' => e = .returned (.string (putB W cs)) ∧ Below w.heap.size w w' := by
  obtain ⟨i0, hi, hi0, hi1, hi2⟩ := info_parts info5
  have hr0 := hr
  obtain ⟨a, c, b, o, rfl, hl, hc, ha⟩ := hr.pick
  unfold maxLen at hc
  go_enter Tryz.func40, Tryz.ntmps40
  go_wp2_with fail
  refine Calls.mono (specBagOk_any W (.slice a cs.length c) cs _ hw (hr0.below ?hb)) ?_
  case hb => exact bela
  rintro e w1 ⟨rfl, hb1⟩
  have hz1 := hb1.size
  simp only [World.size_alloc] at hz1
  have p0 : w1.cell? ⟨w.heap.size, 0, none⟩ = some (.int .i64 W) := cell_later hb1 (by go_simp)
  have p1 : w1.cell? ⟨w.heap.size, 1, none⟩ = some (.slice a cs.length c) := cell_later hb1 (by go_simp)
  have bel1 : Below w.heap.size w w1 := bela
  have hsz1 : w.heap.size < w1.heap.size := by omega
  by_cases hok : okBag W cs = true
  rotate_left
  · have hf : okBag W cs = false := by simpa using hok
    go_wp2
    go_returns
    exact ⟨by simp [putB, hf], bel1⟩
  obtain ⟨hW0, hW1, hlen, hrl⟩ := okBag_facts hok
  have hWm : W % 256 = W := by omega
  have HP : Hid (putB W cs = strOfNums (bagN W cs)) := by simp [Hid, putB, hok]
  have hr1 := hr0.below bel1
  clear hr hr0 ha
  obtain ⟨a', c', b, o, hv', _, _, ha⟩ := hr1.pick
  obtain ⟨rfl, rfl⟩ : a = a' ∧ c = c' := by simpa using hv'
  clear hv' hr1
  go_wp2
  go_loopw [3, 4] (fun v i wr => ∃ k : Nat, k ≤ cs.length ∧ i = .int .i64 k ∧ wr.ownsRow w1.heap.size 5 1 v (bagN W (cs.take k)).length ((bagN W (cs.take k)).map (Value.int .u8)) ∧ Below w1.heap.size w1 wr) (fun _ i _ => cs.length - (intOf i).toNat)
  case atStart => exact ⟨0, Nat.zero_le _, rfl, own_start w1 W, bela⟩
  case round =>
    obtain ⟨k, hk, rfl, hown, hb⟩ := hrel
    have hzb := hb.size
    have p1r : wr.cell? ⟨w.heap.size, 1, none⟩ = some (.slice a cs.length c) := (hb.cell (p := ⟨w.heap.size, 1, none⟩) hsz1).trans p1
    have hkl : (bagN W (cs.take k)).length ≤ 500000 := by
      have := csN_len (cs := cs.take k) fun x hx => hrl x (List.mem_of_mem_take hx)
      have h2 : (cs.take k).length ≤ 400 := by simp; omega
      simp only [bagN, List.length_cons]; omega
    by_cases hlt : k < cs.length
    · obtain ⟨rfl, hblt, hL⟩ := ha k hlt
      obtain ⟨x, hx⟩ : ∃ x, cs[k]? = some x := ⟨cs[k], by simp [hlt]⟩
      obtain ⟨u, e0, hR, e2⟩ := hL k x hx
      have c0 : wr.cell? ⟨b, o + k * 2, none⟩ = some u := (hb.cell (p := ⟨b, o + k * 2, none⟩) hblt).trans e0
      have c1 : wr.cell? ⟨b, o + k * 2 + 1, none⟩ = some (.int .i64 x.n) := (hb.cell (p := ⟨b, o + k * 2 + 1, none⟩) hblt).trans e2
      have hbr : b < wr.heap.size := Nat.lt_of_lt_of_le hblt hzb
      obtain ⟨ur, cr, br, oo, rfl, _, hcr, hrr⟩ := hR.pick
      unfold maxLen at hcr
      have HX : Hid (cs[k]? = some x) := hx
      have hxw : VsWf x.r := (hw x (List.mem_of_getElem? hx)).1
      have hxl : x.r.length ≤ 12 := hrl x (List.mem_of_getElem? hx)
      have hxu := rowU_len x.r
      clear ha hL hx hw hrl
      go_wp2_with fail
      refine (l01Int_any x.n wr).mono ?_
      rintro e w2 ⟨rfl, hb2⟩
      have hz2 := hb2.size
      have hown2 := own_below hown hb2
      go_wp2_with fail
      refine (specPut_any 1 x.n ⟨#[]⟩ w2 (Nat.zero_le _)).mono ?_
      rintro e w3 ⟨rfl, hb3⟩
      have hz3 := hb3.size
      have hown3 := own_below hown2 hb3
      have hcv := run_bytes_of_string (P := Tryz.prog) w3 9 22 5 (putS 1 x.n ⟨#[]⟩) Tryz.underlying9 Tryz.underlying22 Tryz.underlying5
      generalize hg : grownCap w3 (putS 1 x.n ⟨#[]⟩).size 0 5 = gc at hcv
      have hs9 : (putS 1 x.n ⟨#[]⟩).size = 9 := by rw [put_num, nums_size, numL_len]
      have hown4 : (w3.alloc (.cells (bytesRow (putS 1 x.n ⟨#[]⟩) gc) 5 ((bytesRow (putS 1 x.n ⟨#[]⟩) gc).size, (bytesRow (putS 1 x.n ⟨#[]⟩) gc).size + 1))).drew.ownsRow w1.heap.size 5 1 _ _ _ := hown3.alloc _
      have bel4 : Below w1.heap.size w1 (w3.alloc (.cells (bytesRow (putS 1 x.n ⟨#[]⟩) gc) 5 ((bytesRow (putS 1 x.n ⟨#[]⟩) gc).size, (bytesRow (putS 1 x.n ⟨#[]⟩) gc).size + 1))).drew := bela
      go_wp2_with (at_builtin; refine wpList_append_own _ rfl _ _ 22 rfl w1.heap.size 5 i0 (.int .u8 0) 1 1 Tryz.underlying22 hi hi0 hi1 hi2 rfl (by decide) _ _ _ rfl hown4 ⟨w3.heap.size, 0, none⟩ 9 gc (Lib.strCells (putS 1 x.n ⟨#[]⟩)) rfl (by rw [Lib.strCells_length, hs9]) (bytes_cells _ _ _ _) (Lib.strCells_oneCell _) ?c3 ?c4 ?c5 ?_)
      case c3 => unfold maxLen; omega
      case c4 => omega
      case c5 => simp; omega
      intro v5 w5 hown5 hgr5 _
      have hz5 := hgr5.size
      simp at hz5
      have bel5 : Below w1.heap.size w1 w5 := bel4.grown hgr5 (by simp; omega) (fun k hk => (hown4.lt k hk).1)
      have R5 : w5.ownsRow w1.heap.size 5 1 v5 (bagN W (cs.take k) ++ (numL x.n 8 ++ nb (rowU (x.r.take 0)))).length ((bagN W (cs.take k) ++ (numL x.n 8 ++ nb (rowU (x.r.take 0)))).map (Value.int .u8)) := by
        refine own_eq hown5 ?_ ?_
        · simp [numL_len, nb_len, rowU]
        · rw [put_num, cells_numL]; simp [rowU, nb]
      clear hown hown2 hown3 hown4 hown5 hgr5 hcv hg hs9
      have hkl2 : (bagN W (cs.take k) ++ numL x.n 8).length ≤ 500009 := by simp [numL_len]; omega
      clear hz2 hz3 hb2 hb3 hb bel4 p1r c0 c1 hzb hkl
      have hz5' := bel5.size
      go_wp2
      go_loopw [3, 5] (fun v i wq => ∃ m : Nat, m ≤ x.r.length ∧ i = .int .i64 m ∧ wq.ownsRow w1.heap.size 5 1 v (bagN W (cs.take k) ++ (numL x.n 8 ++ nb (rowU (x.r.take m)))).length ((bagN W (cs.take k) ++ (numL x.n 8 ++ nb (rowU (x.r.take m)))).map (Value.int .u8)) ∧ Below w1.heap.size w1 wq) (fun _ i _ => x.r.length - (intOf i).toNat)
      case atStart => exact ⟨0, Nat.zero_le _, rfl, R5, bel5⟩
      case round =>
        obtain ⟨m, hm, rfl, hown, hb⟩ := hrel
        have hzb := hb.size
        clear R5 hz5 hz5'
        have p1r : wr.cell? ⟨w.heap.size, 1, none⟩ = some (.slice (some ⟨b, o, none⟩) cs.length c) := (hb.cell (p := ⟨w.heap.size, 1, none⟩) hsz1).trans p1
        have c0 : wr.cell? ⟨b, o + k * 2, none⟩ = some (.slice ur x.r.length cr) := (hb.cell (p := ⟨b, o + k * 2, none⟩) hblt).trans e0
        have hul : (rowU (x.r.take m)).length ≤ 1224 := by
          have h1 := rowU_len (x.r.take m)
          have h2 : (x.r.take m).length ≤ 12 := by simp; omega
          omega
        have hln : (bagN W (cs.take k) ++ (numL x.n 8 ++ nb (rowU (x.r.take m)))).length ≤ 502000 := by
          rw [← List.append_assoc, List.length_append, nb_len]; omega
        by_cases hmt : m < x.r.length
        · obtain ⟨rfl, hbrl, hLr⟩ := hrr m hmt
          obtain ⟨y, hy, d0, d1, d2, _⟩ := hLr.at hbrl hb hmt
          have HY : Hid (x.r[m]? = some y) := hy
          have hys : y.s.size ≤ maxLen := (hxw y (List.mem_of_getElem? hy)).2.2
          have hp := putS_size y.k y.n y.s
          clear hrr hLr hy hxw
          go_wp2_with fail
          refine (specPut_any y.k y.n y.s wr hys).mono ?_
          rintro e w2 ⟨rfl, hb2⟩
          have hz2 := hb2.size
          have hown2 := own_below hown hb2
          have hcv := run_bytes_of_string (P := Tryz.prog) w2 9 22 5 (putS y.k y.n y.s) Tryz.underlying9 Tryz.underlying22 Tryz.underlying5
          generalize hg : grownCap w2 (putS y.k y.n y.s).size 0 5 = gd at hcv
          have hown4 : (w2.alloc (.cells (bytesRow (putS y.k y.n y.s) gd) 5 ((bytesRow (putS y.k y.n y.s) gd).size, (bytesRow (putS y.k y.n y.s) gd).size + 1))).drew.ownsRow w1.heap.size 5 1 _ _ _ := hown2.alloc _
          have bel4 : Below w1.heap.size w1 (w2.alloc (.cells (bytesRow (putS y.k y.n y.s) gd) 5 ((bytesRow (putS y.k y.n y.s) gd).size, (bytesRow (putS y.k y.n y.s) gd).size + 1))).drew := bela
          go_wp2_with (at_builtin; refine wpList_append_own _ rfl _ _ 22 rfl w1.heap.size 5 i0 (.int .u8 0) 1 1 Tryz.underlying22 hi hi0 hi1 hi2 rfl (by decide) _ _ _ rfl hown4 ⟨w2.heap.size, 0, none⟩ (putS y.k y.n y.s).size gd (Lib.strCells (putS y.k y.n y.s)) rfl (by rw [Lib.strCells_length, Nat.mul_one]) (bytes_cells _ _ _ _) (Lib.strCells_oneCell _) ?c3 ?c4 ?c5 ?_)
          case c3 => unfold maxLen; omega
          case c4 => omega
          case c5 => simp; omega
          intro v6 w6 hown6 hgr6 _
          have hz6 := hgr6.size
          have bel6 : Below w1.heap.size w1 w6 := bel4.grown hgr6 (by simp; omega) (fun k hk => (hown4.lt k hk).1)
          have R6 : w6.ownsRow w1.heap.size 5 1 v6 (bagN W (cs.take k) ++ (numL x.n 8 ++ nb (rowU (x.r.take (m + 1))))).length ((bagN W (cs.take k) ++ (numL x.n 8 ++ nb (rowU (x.r.take (m + 1))))).map (Value.int .u8)) := by
            have eU : rowU (x.r.take (m + 1)) = rowU (x.r.take m) ++ (putS y.k y.n y.s).data.toList := rowU_take HY.out
            refine own_eq hown6 ?_ ?_
            · have : (putS y.k y.n y.s).data.toList.length = (putS y.k y.n y.s).size := Array.length_toList
              simp only [List.length_append, nb_len, eU]; omega
            · rw [eU]; simp only [List.map_append, nb_cells, Lib.byteCells_append, Lib.strCells_eq]
          clear hown hown2 hown4 hown6 hgr6 hcv hg bel4
          go_wp2
          go_roundw
          case rel => exact ⟨m + 1, hmt, by simp, R6, bel6⟩
          case measure => simp [intOf]; omega
        · clear hrr
          obtain rfl : m = x.r.length := by omega
          rw [List.take_length] at hown
          have eN : bagN W (cs.take (k + 1)) = bagN W (cs.take k) ++ (numL x.n 8 ++ nb (rowU x.r)) := by unfold bagN; rw [csN_take HX.out]; rfl
          have R7 : wr.ownsRow w1.heap.size 5 1 u3 (bagN W (cs.take (k + 1))).length ((bagN W (cs.take (k + 1))).map (Value.int .u8)) := by rw [eN]; exact hown
          clear hown eN
          go_wp2
          go_roundw
          case rel => exact ⟨k + 1, hlt, by simp, R7, hb⟩
          case measure => simp [intOf]; omega
    · clear ha hw hrl
      obtain rfl : k = cs.length := by omega
      rw [List.take_length] at hown
      have hcv := conv_own (bagN W cs) hown (by simp [bagN])
      go_wp2
      go_returns
      exact ⟨ret_str HP.out.symm, bel1.trans (hb.mono (by omega))⟩
end Go.Proofs.YtbmoimfimeiglaaGreat
namespace Go.Proofs.YtbmoimfimeiglaaGreat
open Go.RowKit
set_option linter.unusedVariables false
def tV (s : ByteArray) (i : Int) : V3 := ⟨(getT s i).1, (getT s i).2.1, (getT s i).2.2.1⟩
def tJ (s : ByteArray) (i : Int) : Int := (getT s i).2.2.2
def vB (x : V3) : List UInt8 := (putS x.k x.n x.s).data.toList
theorem drop_byte (s : ByteArray) (a : Nat) (h : a < s.size) : s.data.toList.drop a = UInt8.ofNat (bAt s a) :: s.data.toList.drop (a + 1) := by
  have h' : a < s.data.toList.length := by simpa using h
  rw [List.drop_eq_getElem_cons h']
  congr 1
  unfold bAt
  rw [List.getD_eq_getElem?_getD, List.getElem?_eq_getElem h']
  simp
theorem be8 (c0 c1 c2 c3 c4 c5 c6 c7 : UInt8) : be [c0, c1, c2, c3, c4, c5, c6, c7] = ((((((((c0.toNat : Int) * 256 + (c1.toNat : Int)) * 256 + (c2.toNat : Int)) * 256 + (c3.toNat : Int)) * 256 + (c4.toNat : Int)) * 256 + (c5.toNat : Int)) * 256 + (c6.toNat : Int)) * 256 + (c7.toNat : Int)) := by
  simp [be]; omega
theorem num_part (A r M A' c : Int) (hM : 0 < M) (hr : 0 ≤ r) (hr' : r < M) (hA : A = A' * 256 + c) (hc : 0 ≤ c) (hc' : c < 256) : (A * M + r) / M % 256 = c := by
  rw [Int.add_comm, Int.add_mul_ediv_right _ _ (by omega), Int.ediv_eq_zero_of_lt hr hr', Int.zero_add, hA]
  omega
theorem num_round (l : List UInt8) (h : l.length = 8) : ((List.range 8).map (numB (wrap64 (be l)))).map (fun n => UInt8.ofNat n.toNat) = l := by
  match l, h with
  | [c0, c1, c2, c3, c4, c5, c6, c7], _ =>
    have hb := be_bd8 [c0, c1, c2, c3, c4, c5, c6, c7] (by simp)
    have hw : IntKind.u64.wrap (wrap64 (be [c0, c1, c2, c3, c4, c5, c6, c7])) = be [c0, c1, c2, c3, c4, c5, c6, c7] := by
      rw [IntKind.wrap_u64]; unfold wrap64; omega
    have e := be8 c0 c1 c2 c3 c4 c5 c6 c7
    have g0 := c0.toNat_lt
    have g1 := c1.toNat_lt
    have g2 := c2.toNat_lt
    have g3 := c3.toNat_lt
    have g4 := c4.toNat_lt
    have g5 := c5.toNat_lt
    have g6 := c6.toNat_lt
    have g7 := c7.toNat_lt
    have k0 : numB (wrap64 (be [c0, c1, c2, c3, c4, c5, c6, c7])) 0 = c0.toNat := by
      have e' : ((((((((c0.toNat : Int) * 256 + (c1.toNat : Int)) * 256 + (c2.toNat : Int)) * 256 + (c3.toNat : Int)) * 256 + (c4.toNat : Int)) * 256 + (c5.toNat : Int)) * 256 + (c6.toNat : Int)) * 256 + (c7.toNat : Int)) = (c0.toNat : Int) * 72057594037927936 + (((((((c1.toNat : Int) * 256 + (c2.toNat : Int)) * 256 + (c3.toNat : Int)) * 256 + (c4.toNat : Int)) * 256 + (c5.toNat : Int)) * 256 + (c6.toNat : Int)) * 256 + (c7.toNat : Int)) := by omega
      unfold numB
      rw [hw, e, e', show (2 : Int) ^ (8 * (7 - 0)) = 72057594037927936 from rfl]
      exact num_part _ _ _ (0 : Int) _ (by omega) (by omega) (by omega) (by omega) (by omega) (by omega)
    have k1 : numB (wrap64 (be [c0, c1, c2, c3, c4, c5, c6, c7])) 1 = c1.toNat := by
      have e' : ((((((((c0.toNat : Int) * 256 + (c1.toNat : Int)) * 256 + (c2.toNat : Int)) * 256 + (c3.toNat : Int)) * 256 + (c4.toNat : Int)) * 256 + (c5.toNat : Int)) * 256 + (c6.toNat : Int)) * 256 + (c7.toNat : Int)) = ((c0.toNat : Int) * 256 + (c1.toNat : Int)) * 281474976710656 + ((((((c2.toNat : Int) * 256 + (c3.toNat : Int)) * 256 + (c4.toNat : Int)) * 256 + (c5.toNat : Int)) * 256 + (c6.toNat : Int)) * 256 + (c7.toNat : Int)) := by omega
      unfold numB
      rw [hw, e, e', show (2 : Int) ^ (8 * (7 - 1)) = 281474976710656 from rfl]
      exact num_part _ _ _ (c0.toNat : Int) _ (by omega) (by omega) (by omega) (by omega) (by omega) (by omega)
    have k2 : numB (wrap64 (be [c0, c1, c2, c3, c4, c5, c6, c7])) 2 = c2.toNat := by
      have e' : ((((((((c0.toNat : Int) * 256 + (c1.toNat : Int)) * 256 + (c2.toNat : Int)) * 256 + (c3.toNat : Int)) * 256 + (c4.toNat : Int)) * 256 + (c5.toNat : Int)) * 256 + (c6.toNat : Int)) * 256 + (c7.toNat : Int)) = (((c0.toNat : Int) * 256 + (c1.toNat : Int)) * 256 + (c2.toNat : Int)) * 1099511627776 + (((((c3.toNat : Int) * 256 + (c4.toNat : Int)) * 256 + (c5.toNat : Int)) * 256 + (c6.toNat : Int)) * 256 + (c7.toNat : Int)) := by omega
      unfold numB
      rw [hw, e, e', show (2 : Int) ^ (8 * (7 - 2)) = 1099511627776 from rfl]
      exact num_part _ _ _ ((c0.toNat : Int) * 256 + (c1.toNat : Int)) _ (by omega) (by omega) (by omega) (by omega) (by omega) (by omega)
    have k3 : numB (wrap64 (be [c0, c1, c2, c3, c4, c5, c6, c7])) 3 = c3.toNat := by
      have e' : ((((((((c0.toNat : Int) * 256 + (c1.toNat : Int)) * 256 + (c2.toNat : Int)) * 256 + (c3.toNat : Int)) * 256 + (c4.toNat : Int)) * 256 + (c5.toNat : Int)) * 256 + (c6.toNat : Int)) * 256 + (c7.toNat : Int)) = ((((c0.toNat : Int) * 256 + (c1.toNat : Int)) * 256 + (c2.toNat : Int)) * 256 + (c3.toNat : Int)) * 4294967296 + ((((c4.toNat : Int) * 256 + (c5.toNat : Int)) * 256 + (c6.toNat : Int)) * 256 + (c7.toNat : Int)) := by omega
      unfold numB
      rw [hw, e, e', show (2 : Int) ^ (8 * (7 - 3)) = 4294967296 from rfl]
      exact num_part _ _ _ (((c0.toNat : Int) * 256 + (c1.toNat : Int)) * 256 + (c2.toNat : Int)) _ (by omega) (by omega) (by omega) (by omega) (by omega) (by omega)
    have k4 : numB (wrap64 (be [c0, c1, c2, c3, c4, c5, c6, c7])) 4 = c4.toNat := by
      have e' : ((((((((c0.toNat : Int) * 256 + (c1.toNat : Int)) * 256 + (c2.toNat : Int)) * 256 + (c3.toNat : Int)) * 256 + (c4.toNat : Int)) * 256 + (c5.toNat : Int)) * 256 + (c6.toNat : Int)) * 256 + (c7.toNat : Int)) = (((((c0.toNat : Int) * 256 + (c1.toNat : Int)) * 256 + (c2.toNat : Int)) * 256 + (c3.toNat : Int)) * 256 + (c4.toNat : Int)) * 16777216 + (((c5.toNat : Int) * 256 + (c6.toNat : Int)) * 256 + (c7.toNat : Int)) := by omega
      unfold numB
      rw [hw, e, e', show (2 : Int) ^ (8 * (7 - 4)) = 16777216 from rfl]
      exact num_part _ _ _ ((((c0.toNat : Int) * 256 + (c1.toNat : Int)) * 256 + (c2.toNat : Int)) * 256 + (c3.toNat : Int)) _ (by omega) (by omega) (by omega) (by omega) (by omega) (by omega)
    have k5 : numB (wrap64 (be [c0, c1, c2, c3, c4, c5, c6, c7])) 5 = c5.toNat := by
      have e' : ((((((((c0.toNat : Int) * 256 + (c1.toNat : Int)) * 256 + (c2.toNat : Int)) * 256 + (c3.toNat : Int)) * 256 + (c4.toNat : Int)) * 256 + (c5.toNat : Int)) * 256 + (c6.toNat : Int)) * 256 + (c7.toNat : Int)) = ((((((c0.toNat : Int) * 256 + (c1.toNat : Int)) * 256 + (c2.toNat : Int)) * 256 + (c3.toNat : Int)) * 256 + (c4.toNat : Int)) * 256 + (c5.toNat : Int)) * 65536 + ((c6.toNat : Int) * 256 + (c7.toNat : Int)) := by omega
      unfold numB
      rw [hw, e, e', show (2 : Int) ^ (8 * (7 - 5)) = 65536 from rfl]
      exact num_part _ _ _ (((((c0.toNat : Int) * 256 + (c1.toNat : Int)) * 256 + (c2.toNat : Int)) * 256 + (c3.toNat : Int)) * 256 + (c4.toNat : Int)) _ (by omega) (by omega) (by omega) (by omega) (by omega) (by omega)
    have k6 : numB (wrap64 (be [c0, c1, c2, c3, c4, c5, c6, c7])) 6 = c6.toNat := by
      have e' : ((((((((c0.toNat : Int) * 256 + (c1.toNat : Int)) * 256 + (c2.toNat : Int)) * 256 + (c3.toNat : Int)) * 256 + (c4.toNat : Int)) * 256 + (c5.toNat : Int)) * 256 + (c6.toNat : Int)) * 256 + (c7.toNat : Int)) = (((((((c0.toNat : Int) * 256 + (c1.toNat : Int)) * 256 + (c2.toNat : Int)) * 256 + (c3.toNat : Int)) * 256 + (c4.toNat : Int)) * 256 + (c5.toNat : Int)) * 256 + (c6.toNat : Int)) * 256 + (c7.toNat : Int) := by omega
      unfold numB
      rw [hw, e, e', show (2 : Int) ^ (8 * (7 - 6)) = 256 from rfl]
      exact num_part _ _ _ ((((((c0.toNat : Int) * 256 + (c1.toNat : Int)) * 256 + (c2.toNat : Int)) * 256 + (c3.toNat : Int)) * 256 + (c4.toNat : Int)) * 256 + (c5.toNat : Int)) _ (by omega) (by omega) (by omega) (by omega) (by omega) (by omega)
    have k7 : numB (wrap64 (be [c0, c1, c2, c3, c4, c5, c6, c7])) 7 = c7.toNat := by
      have e' : ((((((((c0.toNat : Int) * 256 + (c1.toNat : Int)) * 256 + (c2.toNat : Int)) * 256 + (c3.toNat : Int)) * 256 + (c4.toNat : Int)) * 256 + (c5.toNat : Int)) * 256 + (c6.toNat : Int)) * 256 + (c7.toNat : Int)) = ((((((((c0.toNat : Int) * 256 + (c1.toNat : Int)) * 256 + (c2.toNat : Int)) * 256 + (c3.toNat : Int)) * 256 + (c4.toNat : Int)) * 256 + (c5.toNat : Int)) * 256 + (c6.toNat : Int)) * 256 + (c7.toNat : Int)) * 1 + (0 : Int) := by omega
      unfold numB
      rw [hw, e, e', show (2 : Int) ^ (8 * (7 - 7)) = 1 from rfl]
      exact num_part _ _ _ (((((((c0.toNat : Int) * 256 + (c1.toNat : Int)) * 256 + (c2.toNat : Int)) * 256 + (c3.toNat : Int)) * 256 + (c4.toNat : Int)) * 256 + (c5.toNat : Int)) * 256 + (c6.toNat : Int)) _ (by omega) (by omega) (by omega) (by omega) (by omega) (by omega)
    rw [show List.range 8 = [0, 1, 2, 3, 4, 5, 6, 7] from rfl]
    simp only [List.map_cons, List.map_nil, k0, k1, k2, k3, k4, k5, k6, k7, Int.toNat_natCast, UInt8.ofNat_toNat]
theorem nilB : (⟨#[]⟩ : ByteArray).toList = [] := by rw [ByteArray.toList_eq]
theorem get_round (s : ByteArray) (i : Int) (h : 0 ≤ tJ s i) : ∃ a b : Nat, i = a ∧ tJ s i = b ∧ a < b ∧ b ≤ s.size ∧ okB (tV s i).k (tV s i).n (tV s i).s = true ∧ s.data.toList.drop a = vB (tV s i) ++ s.data.toList.drop b ∧ ((tV s i).k ≠ 1 → bAt s a ≠ 1) ∧ (tV s i).s.size ≤ 100 := by
  unfold tJ at h
  by_cases hi : 0 ≤ i ∧ i < s.size
  rotate_left
  · rw [getT_out s i hi] at h; simp at h
  obtain ⟨a, rfl⟩ := Int.eq_ofNat_of_zero_le hi.1
  have ha : a < s.size := by omega
  unfold tJ tV vB
  rw [getT_in s a ha] at h ⊢
  by_cases h0 : bAt s a = 0
  · rw [getN_0 s a h0] at h ⊢
    have ok : okB 0 0 ⟨#[]⟩ = true := by rw [okB_0, nilB]; rfl
    refine ⟨a, a + 1, rfl, by simp, by omega, by omega, ok, ?_, fun _ => by omega, Nat.zero_le _⟩
    dsimp only
    rw [putS_0 _ _ ok, drop_byte s a ha, h0]
    rfl
  by_cases h1 : bAt s a = 1 ∧ a + 9 ≤ s.size
  · rw [getN_1 s a h1.1 h1.2] at h ⊢
    have ok : ∀ n, okB 1 n ⟨#[]⟩ = true := fun n => by rw [okB_1, nilB]; rfl
    refine ⟨a, a + 9, rfl, by simp, by omega, h1.2, ok _, ?_, fun h => absurd rfl h, Nat.zero_le _⟩
    dsimp only
    rw [putS_1 _ _ (ok _), strOfNums_data, drop_byte s a ha, h1.1]
    unfold numL numAt
    rw [List.map_cons, num_round _ (by simp; omega)]
    have ht := List.take_append_drop 8 (s.data.toList.drop (a + 1))
    rw [List.drop_drop] at ht
    rw [List.cons_append, show a + 9 = a + 1 + 8 from by omega, ht]
    rfl
  by_cases h2 : bAt s a = 2 ∧ a + 2 ≤ s.size ∧ bAt s (a + 1) ≤ 1
  · rw [getN_2 s a h2.1 h2.2.1 h2.2.2] at h ⊢
    have hm : bAt s (a + 1) = 0 ∨ bAt s (a + 1) = 1 := by omega
    have ok : okB 2 (bAt s (a + 1) : Int) ⟨#[]⟩ = true := by rw [okB_2, nilB]; rcases hm with e | e <;> rw [e] <;> rfl
    refine ⟨a, a + 2, rfl, by simp, by omega, h2.2.1, ok, ?_, fun _ => by omega, Nat.zero_le _⟩
    dsimp only
    rw [putS_2 _ _ ok, strOfNums_data, drop_byte s a ha, drop_byte s (a + 1) (by omega), h2.1]
    simp
  by_cases h3 : bAt s a = 3 ∧ a + 2 ≤ s.size ∧ a + 2 + bAt s (a + 1) ≤ s.size ∧ bAt s (a + 1) ≤ 100
  · rw [getN_3 s a h3.1 h3.2.1 h3.2.2.1 h3.2.2.2] at h ⊢
    have hsz : (s.extract (a + 2) (a + 2 + bAt s (a + 1))).size = bAt s (a + 1) := by rw [extract_size s _ _ (by omega) h3.2.2.1]; omega
    have ok : okB 3 0 (s.extract (a + 2) (a + 2 + bAt s (a + 1))) = true := by rw [okB_3, hsz]; simp [h3.2.2.2]
    refine ⟨a, a + 2 + bAt s (a + 1), rfl, by simp; omega, by omega, h3.2.2.1, ok, ?_, fun _ => by omega, by dsimp only; rw [hsz]; exact h3.2.2.2⟩
    dsimp only
    rw [putS_3 _ _ ok, ByteArray.data_append, Array.toList_append, strOfNums_data, hsz, extract_list, drop_byte s a ha, drop_byte s (a + 1) (by omega), h3.1]
    have ht := List.take_append_drop (bAt s (a + 1)) (s.data.toList.drop (a + 2))
    rw [List.drop_drop] at ht
    rw [show a + 2 + bAt s (a + 1) - (a + 2) = bAt s (a + 1) from by omega, List.append_assoc, ht]
    simp
  · rw [getN_x s a h0 h1 h2 h3] at h; simp at h
def valsV (s : ByteArray) : Nat → Int → List V3
  | 0, _ => []
  | n + 1, i => tV s i :: valsV s n (tJ s i)
def valsJ (s : ByteArray) : Nat → Int → Int
  | 0, i => i
  | n + 1, i => valsJ s n (tJ s i)
theorem tJ_neg (s : ByteArray) (i : Int) (h : i < 0) : tJ s i = -1 := by unfold tJ; rw [getT_out s i (by omega)]
theorem valsJ_neg (s : ByteArray) : ∀ (n : Nat) (i : Int), i < 0 → valsJ s n i < 0
  | 0, i, h => h
  | n + 1, i, h => valsJ_neg s n _ (by rw [tJ_neg s i h]; decide)
theorem vals_round (s : ByteArray) : ∀ (n : Nat) (i : Int), 0 ≤ i → i ≤ s.size → 0 ≤ valsJ s n i → ∃ a b : Nat, i = a ∧ valsJ s n i = b ∧ a ≤ b ∧ b ≤ s.size ∧ s.data.toList.drop a = rowU (valsV s n i) ++ s.data.toList.drop b
  | 0, i, h0, h1, h => by
    obtain ⟨a, rfl⟩ := Int.eq_ofNat_of_zero_le h0
    exact ⟨a, a, rfl, rfl, by omega, by omega, by simp [valsV, rowU]⟩
  | n + 1, i, h0, h1, h => by
    have hj : 0 ≤ tJ s i := by
      by_cases hj : 0 ≤ tJ s i
      · exact hj
      · have := valsJ_neg s n (tJ s i) (by omega)
        rw [valsJ] at h; omega
    obtain ⟨a, b, e1, e2, hab, hb, _, hd, _⟩ := get_round s i hj
    obtain ⟨b', c, e3, e4, hbc, hc, hd'⟩ := vals_round s n (tJ s i) hj (by omega) h
    obtain rfl : b' = b := by omega
    refine ⟨a, c, e1, e4, by omega, hc, ?_⟩
    rw [hd, hd', valsV]
    unfold rowU vB
    rw [List.flatMap_cons, List.append_assoc]
def rowS (s : ByteArray) (W : Nat) (i : Int) : C2 := ⟨valsV s W (tJ s i), (tV s i).n⟩
def endS (s : ByteArray) (W : Nat) (i : Int) : Int := valsJ s W (tJ s i)
def run (s : ByteArray) (W : Nat) : Nat → Int → List C2 → Option (List C2)
  | 0, _, acc => some acc
  | n + 1, i, acc => if i < s.size ∧ acc.length ≤ 400 then (if endS s W i < 0 then none else run s W n (endS s W i) (acc ++ [rowS s W i])) else some acc
def runI (s : ByteArray) (W : Nat) : Nat → Int → List C2 → Option (List C2)
  | 0, _, acc => some acc
  | n + 1, i, acc => if i < s.size ∧ acc.length ≤ 400 then (if (tV s i).k ≠ 1 ∨ endS s W i < 0 then none else runI s W n (endS s W i) (acc ++ [rowS s W i])) else some acc
def csU (cs : List C2) : List UInt8 := cs.flatMap fun x => (numL x.n 8).map (fun n => UInt8.ofNat n.toNat) ++ rowU x.r
theorem csU_cons (x : C2) (cs : List C2) : csU (x :: cs) = ((numL x.n 8).map (fun n => UInt8.ofNat n.toNat) ++ rowU x.r) ++ csU cs := by unfold csU; rw [List.flatMap_cons]
theorem end_round (s : ByteArray) (W : Nat) (i : Int) (h : 0 ≤ endS s W i) : ∃ a b : Nat, i = a ∧ endS s W i = b ∧ a < b ∧ b ≤ s.size ∧ s.data.toList.drop a = vB (tV s i) ++ (rowU (rowS s W i).r ++ s.data.toList.drop b) ∧ okB (tV s i).k (tV s i).n (tV s i).s = true ∧ ((tV s i).k ≠ 1 → bAt s a ≠ 1) := by
  have hj : 0 ≤ tJ s i := by
    by_cases hj : 0 ≤ tJ s i
    · exact hj
    · have := valsJ_neg s W (tJ s i) (by omega)
      unfold endS at h; omega
  obtain ⟨a, b, e1, e2, hab, hb, ok, hd, hk, _⟩ := get_round s i hj
  obtain ⟨b', c, e3, e4, hbc, hc, hd'⟩ := vals_round s W (tJ s i) hj (by omega) h
  obtain rfl : b' = b := by omega
  exact ⟨a, c, e1, e4, by omega, hc, by rw [hd, hd']; rfl, ok, hk⟩
theorem run_none (s : ByteArray) (W : Nat) : ∀ (n : Nat) (i : Int) (acc : List C2), run s W n i acc = none → runI s W n i acc = none
  | 0, _, _, h => by cases h
  | n + 1, i, acc, h => by
    rw [run] at h
    rw [runI]
    by_cases hc : i < s.size ∧ acc.length ≤ 400
    · rw [if_pos hc] at h ⊢
      by_cases he : endS s W i < 0
      · rw [if_pos (.inr he)]
      · rw [if_neg he] at h
        by_cases hk : (tV s i).k ≠ 1
        · rw [if_pos (.inl hk)]
        · rw [if_neg (by omega)]
          exact run_none s W n _ _ h
    · rw [if_neg hc] at h; cases h
theorem run_some (s : ByteArray) (W : Nat) : ∀ (n : Nat) (i : Nat) (acc cs : List C2), i ≤ s.size → s.size + 1 ≤ n + i → run s W n i acc = some cs →
    (runI s W n i acc = some cs ∧ ∃ more e, cs = acc ++ more ∧ (e = s.size ∨ 400 < cs.length) ∧ s.data.toList.drop i = csU more ++ s.data.toList.drop e) ∨
    (runI s W n i acc = none ∧ ∃ p c rest i', cs = acc ++ p ++ c :: rest ∧ i' < s.size ∧ bAt s i' ≠ 1 ∧ s.data.toList.drop i = csU p ++ s.data.toList.drop i')
  | 0, i, acc, cs, hi, hf, h => by omega
  | n + 1, i, acc, cs, hi, hf, h => by
    rw [run] at h
    rw [runI]
    by_cases hc : (i : Int) < s.size ∧ acc.length ≤ 400
    · rw [if_pos hc] at h ⊢
      by_cases he : endS s W i < 0
      · rw [if_pos he] at h; cases h
      rw [if_neg he] at h
      obtain ⟨a, b, e1, e2, hab, hb, hd, ok, hk1⟩ := end_round s W i (by omega)
      obtain rfl : a = i := by omega
      rw [e2] at h
      have ih := run_some s W n b (acc ++ [rowS s W a]) cs hb (by omega) h
      by_cases hk : (tV s a).k ≠ 1
      · right
        rw [if_pos (.inl hk)]
        refine ⟨rfl, ?_⟩
        have hex : ∃ more, cs = (acc ++ [rowS s W a]) ++ more := by
          rcases ih with ⟨_, more, e, h1, _⟩ | ⟨_, p, c, rest, i', h1, _⟩
          · exact ⟨more, h1⟩
          · exact ⟨p ++ c :: rest, by rw [h1, List.append_assoc]⟩
        obtain ⟨more, hm⟩ := hex
        exact ⟨[], rowS s W a, more, a, by rw [hm]; simp, by omega, hk1 hk, by simp [csU]⟩
      · have hk' : (tV s a).k = 1 := by omega
        rw [if_neg (by omega), e2]
        have hv : vB (tV s a) = (numL (rowS s W a).n 8).map (fun n => UInt8.ofNat n.toNat) := by
          unfold vB
          rw [hk'] at ok ⊢
          rw [putS_1 _ _ ok]
          rfl
        rcases ih with ⟨h0, more, e, h1, h2, h3⟩ | ⟨h0, p, c, rest, i', h1, h2, h3, h4⟩
        · left
          refine ⟨h0, rowS s W a :: more, e, by rw [h1]; simp, h2, ?_⟩
          rw [hd, h3, csU_cons, hv]
          simp only [List.append_assoc]
        · right
          refine ⟨h0, rowS s W a :: p, c, rest, i', by rw [h1]; simp, h2, h3, ?_⟩
          rw [hd, h4, csU_cons, hv]
          simp only [List.append_assoc]
    · rw [if_neg hc] at h ⊢
      cases h
      left
      refine ⟨rfl, [], i, by simp, ?_, by simp [csU]⟩
      omega
theorem nb_back (l : List UInt8) : (nb l).map (fun n => UInt8.ofNat n.toNat) = l := by
  unfold nb
  rw [List.map_map]
  have e : ((fun n : Int => UInt8.ofNat n.toNat) ∘ fun b : UInt8 => (b.toNat : Int)) = id := by funext b; simp
  rw [e, List.map_id]
theorem csN_back (cs : List C2) : (csN cs).map (fun n => UInt8.ofNat n.toNat) = csU cs := by
  induction cs with
  | nil => rfl
  | cons x xs ih =>
    have e : csN (x :: xs) = (numL x.n 8 ++ nb (rowU x.r)) ++ csN xs := by unfold csN; rw [List.flatMap_cons]
    rw [e, csU_cons, List.map_append, List.map_append, ih, nb_back]
def resS (s : ByteArray) : Option (List C2) := if bAt s 0 ≤ 12 then (match run s (bAt s 0) (s.size + 1) 1 [] with | none => none | some cs => if putB (bAt s 0) cs = s then some cs else none) else none
def resI (s : ByteArray) : Option (List C2) := match runI s (bAt s 0) (s.size + 1) 1 [] with | none => none | some cs => if okBag (bAt s 0) cs = true then some cs else none
theorem putB_yes (s : ByteArray) (cs : List C2) (hs : 0 < s.size) (ok : okBag (bAt s 0) cs = true) : putB (bAt s 0) cs = s ↔ s.data.toList.drop 1 = csU cs := by
  have e0 : s.data.toList = UInt8.ofNat (bAt s 0) :: s.data.toList.drop 1 := by have := drop_byte s 0 hs; simpa using this
  have e1 : (putB (bAt s 0) cs).data.toList = UInt8.ofNat (bAt s 0) :: csU cs := by
    unfold putB
    rw [if_pos ok, strOfNums_data]
    unfold bagN
    rw [List.map_cons, csN_back]
    rfl
  constructor
  · intro h
    rw [h, e0] at e1
    exact (List.cons.inj e1).2
  · intro h
    apply ByteArray.ext
    apply Array.toList_inj.1
    rw [e1, e0, h]
theorem putB_no (s : ByteArray) (W : Int) (cs : List C2) (hs : 0 < s.size) (ok : ¬ okBag W cs = true) : putB W cs ≠ s := by
  unfold putB
  rw [if_neg ok]
  rintro rfl
  exact absurd hs (by decide)
theorem res_same (s : ByteArray) (hs : 0 < s.size) : resS s = resI s := by
  unfold resS resI
  cases hr : run s (bAt s 0) (s.size + 1) 1 [] with
  | none =>
    rw [run_none _ _ _ _ _ hr]
    simp
  | some cs =>
    have hl : s.data.toList.length = s.size := by simp
    rcases run_some s (bAt s 0) (s.size + 1) 1 [] cs (by omega) (by omega) hr with ⟨h0, more, e, h1, h2, h3⟩ | ⟨h0, p, c, rest, i', h1, h2, h3, h4⟩
    · have h0' : runI s (bAt s 0) (s.size + 1) 1 [] = some cs := h0
      rw [h0']
      obtain rfl : cs = more := by simpa using h1
      dsimp only
      by_cases ok : okBag (bAt s 0) cs = true
      · obtain ⟨_, hW, hlen, _⟩ := okBag_facts ok
        have he : e = s.size := by omega
        rw [if_pos (by omega), if_pos ok, if_pos]
        rw [putB_yes s cs hs ok, h3, he, List.drop_eq_nil_of_le (by omega), List.append_nil]
      · rw [if_neg ok]
        split
        · rw [if_neg (putB_no s _ cs hs ok)]
        · rfl
    · have h0' : runI s (bAt s 0) (s.size + 1) 1 [] = none := h0
      rw [h0']
      dsimp only
      split
      · rw [if_neg]
        intro hp
        by_cases ok : okBag (bAt s 0) cs = true
        · rw [putB_yes s cs hs ok, h4, h1] at hp
          have e2 : csU ([] ++ p ++ c :: rest) = csU p ++ csU (c :: rest) := by unfold csU; simp
          rw [e2] at hp
          have hp := List.append_cancel_left hp
          rw [drop_byte s i' h2, csU_cons] at hp
          have := (List.cons.inj hp).1
          have hlt := bAt_lt s i'
          have h7 := congrArg UInt8.toNat this
          simp at h7
          omega
        · exact putB_no s _ cs hs ok hp
      · rfl
end Go.Proofs.YtbmoimfimeiglaaGreat
namespace Go.Proofs.YtbmoimfimeiglaaGreat
open Go.RowKit
set_option linter.unusedVariables false
set_option linter.unusedSimpArgs false
theorem num_back (n : Int) (h0 : -9223372036854775808 ≤ n) (h1 : n ≤ 9223372036854775807) : wrap64 (be (((List.range 8).map (numB n)).map (fun n => UInt8.ofNat n.toNat))) = n := by
  have e : (List.range 8).map (numB n) = [numB n 0, numB n 1, numB n 2, numB n 3, numB n 4, numB n 5, numB n 6, numB n 7] := rfl
  have hb : ∀ x : Int, 0 ≤ x → x < 256 → ((UInt8.ofNat x.toNat).toNat : Int) = x := by
    intro x h0 h1
    rw [UInt8.toNat_ofNat']
    omega
  have hu : 0 ≤ IntKind.u64.wrap n ∧ IntKind.u64.wrap n < 18446744073709551616 ∧ (IntKind.u64.wrap n = n ∨ IntKind.u64.wrap n = n + 18446744073709551616) := by rw [IntKind.wrap_u64]; omega
  rw [e]
  simp only [List.map_cons, List.map_nil]
  rw [be8]
  simp only [numB]
  generalize IntKind.u64.wrap n = u at hu ⊢
  rw [hb _ (by omega) (by omega), hb _ (by omega) (by omega), hb _ (by omega) (by omega), hb _ (by omega) (by omega), hb _ (by omega) (by omega), hb _ (by omega) (by omega), hb _ (by omega) (by omega), hb _ (by omega) (by omega)]
  have hs : ((((((((u / 2 ^ (8 * (7 - 0)) % 256) * 256 + (u / 2 ^ (8 * (7 - 1)) % 256)) * 256 + (u / 2 ^ (8 * (7 - 2)) % 256)) * 256 + (u / 2 ^ (8 * (7 - 3)) % 256)) * 256 + (u / 2 ^ (8 * (7 - 4)) % 256)) * 256 + (u / 2 ^ (8 * (7 - 5)) % 256)) * 256 + (u / 2 ^ (8 * (7 - 6)) % 256)) * 256 + (u / 2 ^ (8 * (7 - 7)) % 256)) = u := by
    simp only [show (8 * (7 - 0) : Nat) = 56 from rfl, show (8 * (7 - 1) : Nat) = 48 from rfl, show (8 * (7 - 2) : Nat) = 40 from rfl, show (8 * (7 - 3) : Nat) = 32 from rfl, show (8 * (7 - 4) : Nat) = 24 from rfl, show (8 * (7 - 5) : Nat) = 16 from rfl, show (8 * (7 - 6) : Nat) = 8 from rfl, show (8 * (7 - 7) : Nat) = 0 from rfl]
    omega
  rw [hs]
  unfold wrap64
  omega
theorem data_app (a b : ByteArray) : (a ++ b).data.toList = a.data.toList ++ b.data.toList := by rw [ByteArray.data_append, Array.toList_append]
end Go.Proofs.YtbmoimfimeiglaaGreat
