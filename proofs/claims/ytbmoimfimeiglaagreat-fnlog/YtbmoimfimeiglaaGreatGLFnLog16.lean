/- Own texts, joined: contracts that the law's proof goes by. -/
import Derived.Test.YtbmoimfimeiglaaGreatGLFnLog11
import Derived.Test.YtbmoimfimeiglaaGreatGLFnLog7
import Derived.Test.YtbmoimfimeiglaaGreatGLFnLog13
import Derived.Handy
import Derived.Test.YtbmoimfimeiglaaGreatGLFnLog19
namespace Go.Proofs.YtbmoimfimeiglaaGreat
open Go.RowKit
set_option linter.unusedVariables false
theorem numL_byte {n : Int} {j : Nat} {y : Int} (h : y ∈ numL n j) : 0 ≤ y ∧ y < 256 := by
  unfold numL at h
  rcases List.mem_cons.1 h with rfl | h
  · omega
  · obtain ⟨q, _, rfl⟩ := List.mem_map.1 h
    unfold numB
    omega
theorem cells_numL (n : Int) : Lib.strCells (strOfNums (numL n 8)) = (numL n 8).map (Value.int .u8) := by
  unfold Lib.strCells
  rw [strOfNums_data, List.map_map]
  refine List.map_congr_left fun y hy => ?_
  obtain ⟨h0, h1⟩ := numL_byte hy
  simp only [Function.comp]
  congr 1
  rw [UInt8.toNat_ofNat']
  omega
theorem put_num (n : Int) : putS 1 n ⟨#[]⟩ = strOfNums (numL n 8) := putS_1 n ⟨#[]⟩ (by rw [okB_1]; simp)
theorem bytes_cells (w : World) (s : ByteArray) (gc : Nat) (m : Nat × Nat) : ∀ (j : Nat) (u : Value), (Lib.strCells s)[j]? = some u → (w.alloc (.cells (bytesRow s gc) 5 m)).drew.cell? ((⟨w.heap.size, 0, none⟩ : Addr).add j) = some u := by
  intro j u hj
  have hlt : j < s.data.size := by
    obtain ⟨h, _⟩ := List.getElem?_eq_some_iff.1 hj
    simpa [Lib.strCells] using h
  have e : ((⟨w.heap.size, 0, none⟩ : Addr).add j) = ⟨w.heap.size, j, none⟩ := by unfold Addr.add; split <;> simp_all
  have hb := heap_alloc_new w (.cells (bytesRow s gc) 5 m)
  rw [e]
  show (w.alloc (.cells (bytesRow s gc) 5 m)).cell? ⟨w.heap.size, j, none⟩ = some u
  simp only [World.cell?, hb]
  have := bytesRow_at s gc j hlt
  simp only [Option.isSome_none, Bool.false_eq_true, if_false]
  rw [this]
  simp only [Lib.strCells, List.getElem?_map, Option.map_eq_some_iff] at hj
  obtain ⟨a, ha, rfl⟩ := hj
  rw [Array.getElem?_toList, Array.getElem?_eq_getElem hlt] at ha
  cases ha
  rfl
set_option maxHeartbeats 1000000 in
theorem l01Int_any (n : Int) (w : World) :
    Calls Tryz.prog 73 #[.int .i64 n] w fun e w' => e = .returned (.agg #[.int .i64 1, .int .i64 n, .string ⟨#[]⟩]) ∧ Below w.heap.size w w' := by
  go_enter Tryz.func73, Tryz.ntmps73
  go_wp2
  go_returns
  exact ⟨rfl, by go_grown⟩
set_option maxHeartbeats 4000000 in
set_option maxRecDepth 100000 in
theorem specPutBag_any (W : Int) (v : Value) (cs : List C2) (w : World) (hw : CsWf cs) (hr : RowsIs w v cs) :
    Calls Tryz.prog 40 #[.agg #[.int .i64 W, v]] w fun e w' => e = .returned (.string (putB W cs)) ∧ Below w.heap.size w w' := by
  obtain ⟨i0, hi, hi0, hi1, hi2⟩ := info_parts info5
  have hr0 := hr
  obtain ⟨a, c, b, o, rfl, hl, hc, ha⟩ := hr.pick
  unfold maxLen at hc
  go_enter Tryz.func40, Tryz.ntmps40
  go_wp2_with fail
  refine Calls.mono (specBagOk_any W (.slice a cs.length c) cs _ hw (hr0.below ?hb)) ?_
  case hb => exact bela
  rintro e w1 ⟨rfl, hb1⟩
  have hz1 := hb1.size
  simp only [World.size_alloc] at hz1
  have p0 : w1.cell? ⟨w.heap.size, 0, none⟩ = some (.int .i64 W) := cell_later hb1 (by go_simp)
  have p1 : w1.cell? ⟨w.heap.size, 1, none⟩ = some (.slice a cs.length c) := cell_later hb1 (by go_simp)
  have bel1 : Below w.heap.size w w1 := bela
  have hsz1 : w.heap.size < w1.heap.size := by omega
  by_cases hok : okBag W cs = true
  rotate_left
  · have hf : okBag W cs = false := by simpa using hok
    go_wp2
    go_returns
    exact ⟨by simp [putB, hf], bel1⟩
  obtain ⟨hW0, hW1, hlen, hrl⟩ := okBag_facts hok
  have hWm : W % 256 = W := by omega
  have HP : Hid (putB W cs = strOfNums (bagN W cs)) := by simp [Hid, putB, hok]
  have hr1 := hr0.below bel1
  clear hr hr0 ha
  obtain ⟨a', c', b, o, hv', _, _, ha⟩ := hr1.pick
  obtain ⟨rfl, rfl⟩ : a = a' ∧ c = c' := by simpa using hv'
  clear hv' hr1
  go_wp2
  go_loopw [3, 4] (fun v i wr => ∃ k : Nat, k ≤ cs.length ∧ i = .int .i64 k ∧ wr.ownsRow w1.heap.size 5 1 v (bagN W (cs.take k)).length ((bagN W (cs.take k)).map (Value.int .u8)) ∧ Below w1.heap.size w1 wr) (fun _ i _ => cs.length - (intOf i).toNat)
  case atStart => exact ⟨0, Nat.zero_le _, rfl, own_start w1 W, bela⟩
  case round =>
    obtain ⟨k, hk, rfl, hown, hb⟩ := hrel
    have hzb := hb.size
    have p1r : wr.cell? ⟨w.heap.size, 1, none⟩ = some (.slice a cs.length c) := (hb.cell (p := ⟨w.heap.size, 1, none⟩) hsz1).trans p1
    have hkl : (bagN W (cs.take k)).length ≤ 500000 := by
      have := csN_len (cs := cs.take k) fun x hx => hrl x (List.mem_of_mem_take hx)
      have h2 : (cs.take k).length ≤ 400 := by simp; omega
      simp only [bagN, List.length_cons]; omega
    by_cases hlt : k < cs.length
    · obtain ⟨rfl, hblt, hL⟩ := ha k hlt
      obtain ⟨x, hx⟩ : ∃ x, cs[k]? = some x := ⟨cs[k], by simp [hlt]⟩
      obtain ⟨u, e0, hR, e2⟩ := hL k x hx
      have c0 : wr.cell? ⟨b, o + k * 2, none⟩ = some u := (hb.cell (p := ⟨b, o + k * 2, none⟩) hblt).trans e0
      have c1 : wr.cell? ⟨b, o + k * 2 + 1, none⟩ = some (.int .i64 x.n) := (hb.cell (p := ⟨b, o + k * 2 + 1, none⟩) hblt).trans e2
      have hbr : b < wr.heap.size := Nat.lt_of_lt_of_le hblt hzb
      obtain ⟨ur, cr, br, oo, rfl, _, hcr, hrr⟩ := hR.pick
      unfold maxLen at hcr
      have HX : Hid (cs[k]? = some x) := hx
      have hxw : VsWf x.r := (hw x (List.mem_of_getElem? hx)).1
      have hxl : x.r.length ≤ 12 := hrl x (List.mem_of_getElem? hx)
      have hxu := rowU_len x.r
      clear ha hL hx hw hrl
      go_wp2_with fail
      refine (l01Int_any x.n wr).mono ?_
      rintro e w2 ⟨rfl, hb2⟩
      have hz2 := hb2.size
      have hown2 := own_below hown hb2
      go_wp2_with fail
      refine (specPut_any 1 x.n ⟨#[]⟩ w2 (Nat.zero_le _)).mono ?_
      rintro e w3 ⟨rfl, hb3⟩
      have hz3 := hb3.size
      have hown3 := own_below hown2 hb3
      have hcv := run_bytes_of_string (P := Tryz.prog) w3 9 22 5 (putS 1 x.n ⟨#[]⟩) Tryz.underlying9 Tryz.underlying22 Tryz.underlying5
      generalize hg : grownCap w3 (putS 1 x.n ⟨#[]⟩).size 0 5 = gc at hcv
      have hs9 : (putS 1 x.n ⟨#[]⟩).size = 9 := by rw [put_num, nums_size, numL_len]
      have hown4 : (w3.alloc (.cells (bytesRow (putS 1 x.n ⟨#[]⟩) gc) 5 ((bytesRow (putS 1 x.n ⟨#[]⟩) gc).size, (bytesRow (putS 1 x.n ⟨#[]⟩) gc).size + 1))).drew.ownsRow w1.heap.size 5 1 _ _ _ := hown3.alloc _
      have bel4 : Below w1.heap.size w1 (w3.alloc (.cells (bytesRow (putS 1 x.n ⟨#[]⟩) gc) 5 ((bytesRow (putS 1 x.n ⟨#[]⟩) gc).size, (bytesRow (putS 1 x.n ⟨#[]⟩) gc).size + 1))).drew := bela
      go_wp2_with (at_builtin; refine wpList_append_own _ rfl _ _ 22 rfl w1.heap.size 5 i0 (.int .u8 0) 1 1 Tryz.underlying22 hi hi0 hi1 hi2 rfl (by decide) _ _ _ rfl hown4 ⟨w3.heap.size, 0, none⟩ 9 gc (Lib.strCells (putS 1 x.n ⟨#[]⟩)) rfl (by rw [Lib.strCells_length, hs9]) (bytes_cells _ _ _ _) (Lib.strCells_oneCell _) ?c3 ?c4 ?c5 ?_)
      case c3 => unfold maxLen; omega
      case c4 => omega
      case c5 => simp; omega
      intro v5 w5 hown5 hgr5 _
      have hz5 := hgr5.size
      simp at hz5
      have bel5 : Below w1.heap.size w1 w5 := bel4.grown hgr5 (by simp; omega) (fun k hk => (hown4.lt k hk).1)
      have R5 : w5.ownsRow w1.heap.size 5 1 v5 (bagN W (cs.take k) ++ (numL x.n 8 ++ nb (rowU (x.r.take 0)))).length ((bagN W (cs.take k) ++ (numL x.n 8 ++ nb (rowU (x.r.take 0)))).map (Value.int .u8)) := by
        refine own_eq hown5 ?_ ?_
        · simp [numL_len, nb_len, rowU]
        · rw [put_num, cells_numL]; simp [rowU, nb]
      clear hown hown2 hown3 hown4 hown5 hgr5 hcv hg hs9
      have hkl2 : (bagN W (cs.take k) ++ numL x.n 8).length ≤ 500009 := by simp [numL_len]; omega
      clear hz2 hz3 hb2 hb3 hb bel4 p1r c0 c1 hzb hkl
      have hz5' := bel5.size
      go_wp2
      go_loopw [3, 5] (fun v i wq => ∃ m : Nat, m ≤ x.r.length ∧ i = .int .i64 m ∧ wq.ownsRow w1.heap.size 5 1 v (bagN W (cs.take k) ++ (numL x.n 8 ++ nb (rowU (x.r.take m)))).length ((bagN W (cs.take k) ++ (numL x.n 8 ++ nb (rowU (x.r.take m)))).map (Value.int .u8)) ∧ Below w1.heap.size w1 wq) (fun _ i _ => x.r.length - (intOf i).toNat)
      case atStart => exact ⟨0, Nat.zero_le _, rfl, R5, bel5⟩
      case round =>
        obtain ⟨m, hm, rfl, hown, hb⟩ := hrel
        have hzb := hb.size
        clear R5 hz5 hz5'
        have p1r : wr.cell? ⟨w.heap.size, 1, none⟩ = some (.slice (some ⟨b, o, none⟩) cs.length c) := (hb.cell (p := ⟨w.heap.size, 1, none⟩) hsz1).trans p1
        have c0 : wr.cell? ⟨b, o + k * 2, none⟩ = some (.slice ur x.r.length cr) := (hb.cell (p := ⟨b, o + k * 2, none⟩) hblt).trans e0
        have hul : (rowU (x.r.take m)).length ≤ 1224 := by
          have h1 := rowU_len (x.r.take m)
          have h2 : (x.r.take m).length ≤ 12 := by simp; omega
          omega
        have hln : (bagN W (cs.take k) ++ (numL x.n 8 ++ nb (rowU (x.r.take m)))).length ≤ 502000 := by
          rw [← List.append_assoc, List.length_append, nb_len]; omega
        by_cases hmt : m < x.r.length
        · obtain ⟨rfl, hbrl, hLr⟩ := hrr m hmt
          obtain ⟨y, hy, d0, d1, d2, _⟩ := hLr.at hbrl hb hmt
          have HY : Hid (x.r[m]? = some y) := hy
          have hys : y.s.size ≤ maxLen := (hxw y (List.mem_of_getElem? hy)).2.2
          have hp := putS_size y.k y.n y.s
          clear hrr hLr hy hxw
          go_wp2_with fail
          refine (specPut_any y.k y.n y.s wr hys).mono ?_
          rintro e w2 ⟨rfl, hb2⟩
          have hz2 := hb2.size
          have hown2 := own_below hown hb2
          have hcv := run_bytes_of_string (P := Tryz.prog) w2 9 22 5 (putS y.k y.n y.s) Tryz.underlying9 Tryz.underlying22 Tryz.underlying5
          generalize hg : grownCap w2 (putS y.k y.n y.s).size 0 5 = gd at hcv
          have hown4 : (w2.alloc (.cells (bytesRow (putS y.k y.n y.s) gd) 5 ((bytesRow (putS y.k y.n y.s) gd).size, (bytesRow (putS y.k y.n y.s) gd).size + 1))).drew.ownsRow w1.heap.size 5 1 _ _ _ := hown2.alloc _
          have bel4 : Below w1.heap.size w1 (w2.alloc (.cells (bytesRow (putS y.k y.n y.s) gd) 5 ((bytesRow (putS y.k y.n y.s) gd).size, (bytesRow (putS y.k y.n y.s) gd).size + 1))).drew := bela
          go_wp2_with (at_builtin; refine wpList_append_own _ rfl _ _ 22 rfl w1.heap.size 5 i0 (.int .u8 0) 1 1 Tryz.underlying22 hi hi0 hi1 hi2 rfl (by decide) _ _ _ rfl hown4 ⟨w2.heap.size, 0, none⟩ (putS y.k y.n y.s).size gd (Lib.strCells (putS y.k y.n y.s)) rfl (by rw [Lib.strCells_length, Nat.mul_one]) (bytes_cells _ _ _ _) (Lib.strCells_oneCell _) ?c3 ?c4 ?c5 ?_)
          case c3 => unfold maxLen; omega
          case c4 => omega
          case c5 => simp; omega
          intro v6 w6 hown6 hgr6 _
          have hz6 := hgr6.size
          have bel6 : Below w1.heap.size w1 w6 := bel4.grown hgr6 (by simp; omega) (fun k hk => (hown4.lt k hk).1)
          have R6 : w6.ownsRow w1.heap.size 5 1 v6 (bagN W (cs.take k) ++ (numL x.n 8 ++ nb (rowU (x.r.take (m + 1))))).length ((bagN W (cs.take k) ++ (numL x.n 8 ++ nb (rowU (x.r.take (m + 1))))).map (Value.int .u8)) := by
            have eU : rowU (x.r.take (m + 1)) = rowU (x.r.take m) ++ (putS y.k y.n y.s).data.toList := rowU_take HY.out
            refine own_eq hown6 ?_ ?_
            · have : (putS y.k y.n y.s).data.toList.length = (putS y.k y.n y.s).size := Array.length_toList
              simp only [List.length_append, nb_len, eU]; omega
            · rw [eU]; simp only [List.map_append, nb_cells, Lib.byteCells_append, Lib.strCells_eq]
          clear hown hown2 hown4 hown6 hgr6 hcv hg bel4
          go_wp2
          go_roundw
          case rel => exact ⟨m + 1, hmt, by simp, R6, bel6⟩
          case measure => simp [intOf]; omega
        · clear hrr
          obtain rfl : m = x.r.length := by omega
          rw [List.take_length] at hown
          have eN : bagN W (cs.take (k + 1)) = bagN W (cs.take k) ++ (numL x.n 8 ++ nb (rowU x.r)) := by unfold bagN; rw [csN_take HX.out]; rfl
          have R7 : wr.ownsRow w1.heap.size 5 1 u3 (bagN W (cs.take (k + 1))).length ((bagN W (cs.take (k + 1))).map (Value.int .u8)) := by rw [eN]; exact hown
          clear hown eN
          go_wp2
          go_roundw
          case rel => exact ⟨k + 1, hlt, by simp, R7, hb⟩
          case measure => simp [intOf]; omega
    · clear ha hw hrl
      obtain rfl : k = cs.length := by omega
      rw [List.take_length] at hown
      have hcv := conv_own (bagN W cs) hown (by simp [bagN])
      go_wp2
      go_returns
      exact ⟨ret_str HP.out.symm, bel1.trans (hb.mono (by omega))⟩
end Go.Proofs.YtbmoimfimeiglaaGreat
namespace Go.Proofs.YtbmoimfimeiglaaGreat
open Go.RowKit
set_option linter.unusedVariables false
def szN (x : Int) : Nat → List Int
  | 0 => []
  | n + 1 => (x / 256 ^ n % 256) :: szN x n
theorem szN_len (x : Int) (n : Nat) : (szN x n).length = n := by
  induction n with
  | zero => rfl
  | succ n ih => simp [szN, ih]
theorem szN_bd (x : Int) (n : Nat) : ∀ y ∈ szN x n, 0 ≤ y ∧ y < 256 := by
  induction n with
  | zero => intro y hy; cases hy
  | succ n ih =>
    intro y hy
    rcases List.mem_cons.1 hy with rfl | h
    · omega
    · exact ih y h
def txN (s : ByteArray) : List Int := nb s.data.toList
theorem txN_len (s : ByteArray) : (txN s).length = s.size := by simp [txN, nb_len]
theorem nums_app (a b : List Int) : strOfNums (a ++ b) = strOfNums a ++ strOfNums b := by
  apply ByteArray.ext
  simp [strOfNums, ByteArray.data_append]
theorem nums_txN (s : ByteArray) : strOfNums (txN s) = s := by
  have := nums_append [] s
  have e : strOfNums [] = ⟨#[]⟩ := rfl
  rw [List.nil_append, e] at this
  rw [show txN s = s.data.toList.map (fun b => (b.toNat : Int)) from rfl, this]
  apply ByteArray.ext
  simp [ByteArray.data_append]
theorem nums_cons (c : Int) (xs : List Int) : strOfNums [c] ++ strOfNums xs = strOfNums (c :: xs) := by rw [← nums_app]; rfl
def tN (s : ByteArray) (n : Nat) : List Int := szN s.size n ++ txN s
theorem tN_len (s : ByteArray) (n : Nat) : (tN s n).length = n + s.size := by simp [tN, szN_len, txN_len]
theorem nums_tN (s : ByteArray) (n : Nat) : strOfNums (szN s.size n) ++ s = strOfNums (tN s n) := by rw [tN, nums_app, nums_txN]
theorem pow_step (x : Int) (k : Nat) : x / 256 ^ k / 256 = x / 256 ^ (k + 1) := by
  rw [Int.pow_succ, Int.ediv_ediv_of_nonneg (Int.le_of_lt (Int.pow_pos (by decide)))]
set_option maxHeartbeats 2000000 in
set_option maxRecDepth 100000 in
theorem l10Size_any (x : Int) (n : Nat) (w : World) (h0 : 0 ≤ x) (hx : x ≤ 9223372036854775807) (hn : n ≤ 8) :
    Calls Tryz.prog 38 #[.int .i64 x, .int .i64 n] w fun e w' => e = .returned (.string (strOfNums (szN x n))) ∧ Below w.heap.size w w' := by
  go_enter Tryz.func38, Tryz.ntmps38
  go_wp2_with fail
  go_loopw [0, 5, 6] (fun y o i wr => ∃ (k : Nat) (z : Int) (r : ByteArray), k ≤ n ∧ y = .int .i64 z ∧ o = .string r ∧ i = .int .i64 k ∧ Hid (z = x / 256 ^ k) ∧ Hid (r = strOfNums (szN x k)) ∧ 0 ≤ z ∧ z ≤ 9223372036854775807 ∧ r.size = k ∧ Below w.heap.size w wr) (fun _ _ i _ => n - (intOf i).toNat)
  case atStart => exact ⟨0, x, ⟨#[]⟩, Nat.zero_le _, rfl, rfl, rfl, by simp [Hid], rfl, h0, hx, rfl, Below.refl _ _⟩
  case round =>
    obtain ⟨k, z, r, hk, rfl, rfl, rfl, HZ, HR, z0, z1, hr, hb⟩ := hrel
    by_cases hlt : k < n
    · have hs : r.size ≤ 8 := by omega
      have hcv0 := conv_own [z % 256] (own_litg wr w.heap.size wr.heap.size [z % 256] rfl hb.size (by simp)) (by simp)
      simp only [List.map_cons, List.map_nil, List.length_cons, List.length_nil, Nat.zero_add] at hcv0
      have hsz : ((strOfNums [z % 256]).size : Int) = 1 := by rw [nums_size]; rfl
      have hm : z.tmod 256 = z % 256 := Int.tmod_eq_emod_of_nonneg z0
      have hd : z.tdiv 256 = z / 256 := Int.tdiv_eq_ediv_of_nonneg z0
      have hm0 : 0 ≤ z % 256 ∧ z % 256 < 256 := by omega
      have HS : Hid (r.size = k) := hr
      clear hr
      go_wp2_with fail
      refine ⟨⟨k + 1, z / 256, strOfNums [z % 256] ++ r, hlt, rfl, rfl, by simp, ?_, ?_, by omega, by omega, ?_, hb.alloc hb.size _⟩, by simp [intOf]; omega⟩
      · show z / 256 = x / 256 ^ (k + 1)
        rw [HZ.out, pow_step]
      · show strOfNums [z % 256] ++ r = _
        rw [HR.out, nums_cons, HZ.out]; rfl
      · rw [ByteArray.size_append, nums_size]
        have := HS.out
        simp; omega
    · obtain rfl : k = n := by omega
      go_wp2_with fail
      go_returns
      exact ⟨by rw [← HR.out]; rfl, hb⟩
set_option maxHeartbeats 2000000 in
set_option maxRecDepth 100000 in
theorem l10Text_any (s : ByteArray) (n : Nat) (w : World) (hs : s.size ≤ 281474976710656) (hn : n ≤ 8) :
    Calls Tryz.prog 39 #[.string s, .int .i64 n] w fun e w' => e = .returned (.string (strOfNums (tN s n))) ∧ Below w.heap.size w w' := by
  have hsz : ((strOfNums (szN s.size n)).size : Int) ≤ 8 := by rw [nums_size, szN_len]; omega
  have HT : Hid (strOfNums (szN s.size n) ++ s = strOfNums (tN s n)) := nums_tN s n
  go_enter Tryz.func39, Tryz.ntmps39
  go_wp2_with fail
  refine Calls.mono (l10Size_any s.size n _ (by omega) (by omega) hn) ?_
  rintro e w1 ⟨rfl, hb1⟩
  go_wp2_with fail
  go_returns
  exact ⟨by rw [← HT.out]; rfl, hb1⟩
end Go.Proofs.YtbmoimfimeiglaaGreat
namespace Go.Proofs.YtbmoimfimeiglaaGreat
open Go.RowKit
set_option linter.unusedVariables false
def csL (cs : List ByteArray) : List Int := cs.flatMap fun c => tN c 2
def rlL (r : R3) : List Int := tN r.s 2 ++ tN (putB r.W r.cs) 4
def rlsL (rs : List R3) : List Int := rs.flatMap rlL
def hdL (x : T5) : List Int := szN x.k 1 ++ tN x.s 2 ++ szN x.cs.length 1
def mdL (x : T5) : List Int := hdL x ++ csL x.cs ++ tN x.q 2 ++ szN x.rs.length 1
def stepL (x : T5) : List Int := mdL x ++ rlsL x.rs
def putT (x : T5) : ByteArray := if okStep x = true then strOfNums (stepL x) else ⟨#[]⟩
theorem csL_take {cs : List ByteArray} {k : Nat} {c : ByteArray} (h : cs[k]? = some c) : csL (cs.take (k + 1)) = csL (cs.take k) ++ tN c 2 := by
  obtain ⟨hk, rfl⟩ := List.getElem?_eq_some_iff.1 h
  rw [List.take_succ_eq_append_getElem hk]
  unfold csL
  rw [List.flatMap_append, List.flatMap_singleton]
theorem rlsL_take {rs : List R3} {k : Nat} {r : R3} (h : rs[k]? = some r) : rlsL (rs.take (k + 1)) = rlsL (rs.take k) ++ rlL r := by
  obtain ⟨hk, rfl⟩ := List.getElem?_eq_some_iff.1 h
  rw [List.take_succ_eq_append_getElem hk]
  unfold rlsL
  rw [List.flatMap_append, List.flatMap_singleton]
theorem nameB_size {s : ByteArray} (h : nameB s = true) : s.size ≤ 10 := by
  unfold nameB at h
  rw [Bool.and_eq_true] at h
  have := h.2
  simp [inB] at this
  omega
theorem colsB_names : ∀ {cs pre : List ByteArray}, colsB pre cs = true → ∀ c ∈ cs, nameB c = true
  | [], _, _, c, hc => by cases hc
  | x :: r, pre, h, c, hc => by
    rw [colsB, Bool.and_eq_true, Bool.and_eq_true] at h
    rcases List.mem_cons.1 hc with rfl | hc
    · exact h.1.1
    · exact colsB_names h.2 c hc
theorem okTs_each : ∀ {rs : List R3} {p : Option R3}, okTs p rs = true → ∀ r ∈ rs, nameB r.s = true ∧ okBag r.W r.cs = true
  | [], _, _, c, hc => by cases hc
  | x :: r, p, h, c, hc => by
    rw [okTs, Bool.and_eq_true, Bool.and_eq_true, Bool.and_eq_true] at h
    rcases List.mem_cons.1 hc with rfl | hc
    · exact ⟨h.1.1.1, h.1.1.2⟩
    · exact okTs_each h.2 c hc
theorem putB_size (W : Int) (cs : List C2) : (putB W cs).size ≤ 493201 := by
  unfold putB
  split
  · rename_i h
    obtain ⟨_, _, h1, h2⟩ := okBag_facts h
    rw [nums_size]
    have := csN_len h2
    simp [bagN]
    omega
  · exact Nat.zero_le _
structure Bnd (x : T5) : Prop where
  k0 : 0 ≤ x.k
  k3 : x.k ≤ 3
  s : x.s.size ≤ 10
  cl : x.cs.length ≤ 12
  c : ∀ c ∈ x.cs, c.size ≤ 10
  q : x.q.size ≤ 1000
  rl : x.rs.length ≤ 20
  r : ∀ r ∈ x.rs, r.s.size ≤ 10
theorem empty_size {s : ByteArray} (h : s.toList.isEmpty = true) : s.size = 0 := by
  rw [ByteArray.toList_eq] at h
  have : s.data.toList = [] := by simpa using h
  have e : s.data.size = 0 := by rw [← Array.length_toList, this]; rfl
  exact e
theorem okStep_bnd {x : T5} (h : okStep x = true) : Bnd x := by
  unfold okStep at h
  split at h
  · rename_i hk
    simp only [Bool.and_eq_true] at h
    obtain ⟨⟨h1, h2⟩, h3⟩ := h
    simp only [okSch, okHs, okPrevH, Bool.and_true, Bool.and_eq_true] at h1
    obtain ⟨_, h4, h5⟩ := h1
    simp only [okCols, Bool.and_eq_true] at h5
    have h6 := h5.1
    simp [inB] at h6
    have h7 : x.rs = [] := by simpa using h3
    exact ⟨by omega, by omega, nameB_size h4, by omega, fun c hc => nameB_size (colsB_names h5.2 c hc), by rw [empty_size h2]; omega, by rw [h7]; simp, (by rw [h7]; intro r hr; cases hr)⟩
  split at h
  · rename_i _ hk
    simp only [Bool.and_eq_true] at h
    obtain ⟨⟨⟨h1, h2⟩, h4⟩, h3⟩ := h
    have h7 : x.rs = [] := by simpa using h3
    have h8 : x.cs = [] := by simpa using h2
    exact ⟨by omega, by omega, nameB_size h1, by rw [h8]; simp, (by rw [h8]; intro r hr; cases hr), by simpa using h4, by rw [h7]; simp, (by rw [h7]; intro r hr; cases hr)⟩
  split at h
  · rename_i _ _ hk
    simp only [Bool.and_eq_true] at h
    obtain ⟨⟨⟨h1, h2⟩, h4⟩, h3⟩ := h
    have h7 : x.rs = [] := by simpa using h3
    have h8 : x.cs = [] := by simpa using h2
    exact ⟨by omega, by omega, nameB_size h1, by rw [h8]; simp, (by rw [h8]; intro r hr; cases hr), by rw [empty_size h4]; omega, by rw [h7]; simp, (by rw [h7]; intro r hr; cases hr)⟩
  split at h
  · rename_i _ _ _ hk
    simp only [Bool.and_eq_true] at h
    obtain ⟨⟨⟨h1, h2⟩, h4⟩, h3⟩ := h
    have h8 : x.cs = [] := by simpa using h2
    simp only [okRels, Bool.and_eq_true] at h3
    have h6 := h3.1
    simp [inB] at h6
    exact ⟨by omega, by omega, by rw [empty_size h1]; omega, by rw [h8]; simp, (by rw [h8]; intro r hr; cases hr), by rw [empty_size h4]; omega, by omega, fun r hr => nameB_size (okTs_each h3.2 r hr).1⟩
  · cases h
theorem csL_len {cs : List ByteArray} (h : ∀ c ∈ cs, c.size ≤ 10) : (csL cs).length ≤ 12 * cs.length := by
  induction cs with
  | nil => simp [csL]
  | cons a l ih =>
    have h1 := ih fun c hc => h c (List.mem_cons_of_mem _ hc)
    have h2 := h a List.mem_cons_self
    simp only [csL, List.flatMap_cons, List.length_append, tN_len, List.length_cons] at h1 ⊢
    omega
theorem rlL_len {r : R3} (h : r.s.size ≤ 10) : (rlL r).length ≤ 493300 := by
  have := putB_size r.W r.cs
  simp only [rlL, List.length_append, tN_len]
  omega
theorem rlsL_len {rs : List R3} (h : ∀ r ∈ rs, r.s.size ≤ 10) : (rlsL rs).length ≤ 493300 * rs.length := by
  induction rs with
  | nil => simp [rlsL]
  | cons a l ih =>
    have h1 := ih fun c hc => h c (List.mem_cons_of_mem _ hc)
    have h2 := rlL_len (h a List.mem_cons_self)
    simp only [rlsL, List.flatMap_cons, List.length_append, List.length_cons] at h1 ⊢
    omega
theorem hdL_len {x : T5} (h : Bnd x) : (hdL x).length ≤ 14 := by
  have := h.s
  simp only [hdL, List.length_append, tN_len, szN_len]
  omega
theorem hc_len {x : T5} (h : Bnd x) (k : Nat) : (hdL x ++ csL (x.cs.take k)).length ≤ 158 := by
  have h1 := hdL_len h
  have h2 := csL_len (cs := x.cs.take k) fun c hc => h.c c (List.mem_of_mem_take hc)
  have h3 := h.cl
  rw [List.length_append]
  rw [List.length_take] at h2
  omega
theorem mdL_len {x : T5} (h : Bnd x) : (mdL x).length ≤ 1161 := by
  have h1 := hc_len h x.cs.length
  have h2 := h.q
  rw [List.take_length, List.length_append] at h1
  simp only [mdL, List.length_append, tN_len, szN_len]
  omega
theorem md_len {x : T5} (h : Bnd x) (k : Nat) : (mdL x ++ rlsL (x.rs.take k)).length ≤ 10000000 := by
  have h1 := mdL_len h
  have h2 := rlsL_len (rs := x.rs.take k) fun c hc => h.r c (List.mem_of_mem_take hc)
  have h3 := h.rl
  rw [List.length_append]
  rw [List.length_take] at h2
  omega
theorem stepL_len {x : T5} (h : Bnd x) : (stepL x).length ≤ 10000000 := by
  have := md_len h x.rs.length
  rwa [List.take_length] at this
theorem mdL_ne (x : T5) : stepL x ≠ [] := by
  intro e
  have : (stepL x).length = 0 := by rw [e]; rfl
  simp only [stepL, mdL, hdL, List.length_append, tN_len, szN_len] at this
  omega
end Go.Proofs.YtbmoimfimeiglaaGreat
