/- Own texts, joined: contracts that the law's proof goes by. -/
import Derived.Test.YtdkbhoichmcodaaMa5
import Derived.Test.YtdkbhoichmcodaaBagOkSJ
import Derived.Handy
import Derived.Test.YtdkbhoichmcodaaMa4
import Derived.Test.YtdkbhoichmcodaaMa1
import Derived.Test.YtdkbhoichmcodaaMa2
import Derived.Test.YtdkbhoichmcodaaMa6
/- Own text. (The words alone.) The bytes of a bag (bagN), and the contract of impl.PutBag. -/
namespace Go.Proofs.Ytdkbhoichmcodaa
open Go.RowKit
set_option linter.unusedVariables false
/-- the numbers of a text's bytes. -/
def nb (l : List UInt8) : List Int := l.map fun b => (b.toNat : Int)
/-- the numbers of the bytes of counted rows. -/
def csN (cs : List C2) : List Int := cs.flatMap fun x => numL x.n 8 ++ nb (rowU x.r)
/-- the numbers of the bytes of a bag. -/
def bagN (W : Int) (cs : List C2) : List Int := W :: csN cs
/-- the bytes of a bag; the empty text where it is none. -/
def putB (W : Int) (cs : List C2) : ByteArray := if okBag W cs = true then strOfNums (bagN W cs) else ⟨#[]⟩
theorem csN_take {cs : List C2} {k : Nat} {x : C2} (h : cs[k]? = some x) : csN (cs.take (k + 1)) = csN (cs.take k) ++ (numL x.n 8 ++ nb (rowU x.r)) := by
  obtain ⟨hk, rfl⟩ := List.getElem?_eq_some_iff.1 h
  unfold csN
  rw [List.take_succ_eq_append_getElem hk, List.flatMap_append]
  simp
theorem nb_len (l : List UInt8) : (nb l).length = l.length := by simp [nb]
theorem nb_cells (l : List UInt8) : (nb l).map (Value.int .u8) = Lib.byteCells l := by simp [nb, Lib.byteCells, List.map_map]
theorem okCs_mem {W : Int} : ∀ {cs : List C2} {p : Option C2}, okCs W p cs = true → ∀ x ∈ cs, okRow x.r W = true
  | [], _, _, x, hx => by cases hx
  | y :: ys, p, h, x, hx => by
    simp only [okCs, Bool.and_eq_true] at h
    rcases List.mem_cons.1 hx with rfl | hx
    · exact h.1.1.1
    · exact okCs_mem h.2 x hx
theorem okBag_facts {W : Int} {cs : List C2} (h : okBag W cs = true) : 0 ≤ W ∧ W ≤ 12 ∧ cs.length ≤ 400 ∧ ∀ x ∈ cs, x.r.length ≤ 12 := by
  simp only [okBag, Bool.and_eq_true, decide_eq_true_eq] at h
  obtain ⟨⟨⟨h0, h1⟩, h2⟩, h3⟩ := h
  refine ⟨h0, h1, h2, fun x hx => ?_⟩
  have := okCs_mem h3 x hx
  simp only [okRow, Bool.and_eq_true, decide_eq_true_eq] at this
  omega
theorem csN_len {cs : List C2} (h : ∀ x ∈ cs, x.r.length ≤ 12) : (csN cs).length ≤ 1233 * cs.length := by
  induction cs with
  | nil => simp [csN]
  | cons x xs ih =>
    have e : csN (x :: xs) = (numL x.n 8 ++ nb (rowU x.r)) ++ csN xs := by unfold csN; rw [List.flatMap_cons]
    have h1 := ih fun y hy => h y (List.mem_cons_of_mem _ hy)
    have h2 := rowU_len x.r
    have h3 := h x List.mem_cons_self
    rw [e, List.length_append, List.length_append, numL_len, nb_len, List.length_cons]
    omega
theorem own_below {w w' : World} {B e n : Nat} {v : Value} {xs : List Value} (h : w.ownsRow B e 1 v n xs) (hb : Below w.heap.size w w') : w'.ownsRow B e 1 v n xs := by
  refine ⟨h.1, ?_⟩
  rcases h.2 with hn | ⟨g, cap, cur, hv, hg, hc, rest⟩
  · exact .inl hn
  · have hgl : g < w.heap.size := by
      rcases Nat.lt_or_ge g w.heap.size with h' | h'
      · exact h'
      · simp [Array.getElem?_eq_none h'] at hc
    exact .inr ⟨g, cap, cur, hv, hg, (hb.block g hgl).trans hc, rest⟩
theorem own_eq {w : World} {B e n n' : Nat} {v : Value} {xs xs' : List Value} (h : w.ownsRow B e 1 v n xs) (hn : n = n') (hx : xs = xs') : w.ownsRow B e 1 v n' xs' := by subst hn hx; exact h
theorem own_cells {w : World} {B n : Nat} {v : Value} {x : Value} {xs : List Value} (h : w.ownsRow B 5 1 v (n + 1) (x :: xs)) :
    ∃ g cap, v = .slice (some ⟨g, 0, none⟩) (n + 1) cap ∧ ∀ (q : Nat) (u : Value), (x :: xs)[q]? = some u → w.cell? ((⟨g, 0, none⟩ : Addr).add q) = some u := by
  obtain ⟨hl, h⟩ := h
  rcases h with ⟨_, h0⟩ | ⟨g, cap, cur, hv, hg, hc, hn, hm, hs, ht⟩
  · omega
  · refine ⟨g, cap, hv, fun q u hq => ?_⟩
    have hq' : (cur.toList.take ((n + 1) * 1))[q]? = some u := by rw [ht]; exact hq
    rw [List.getElem?_take] at hq'
    split at hq'
    · have : ((⟨g, 0, none⟩ : Addr).add q) = ⟨g, q, none⟩ := by unfold Addr.add; split <;> simp_all
      rw [this]
      simp only [World.cell?, hc]
      simpa using hq'
    · cases hq'
end Go.Proofs.Ytdkbhoichmcodaa
/- Own text. The contract of spec.PutBag. -/
namespace Go.Proofs.Ytdkbhoichmcodaa
open Go.RowKit
set_option linter.unusedVariables false
theorem numL_byte {n : Int} {j : Nat} {y : Int} (h : y ∈ numL n j) : 0 ≤ y ∧ y < 256 := by
  unfold numL at h
  rcases List.mem_cons.1 h with rfl | h
  · omega
  · obtain ⟨q, _, rfl⟩ := List.mem_map.1 h
    unfold numB
    omega
theorem cells_numL (n : Int) : Lib.strCells (strOfNums (numL n 8)) = (numL n 8).map (Value.int .u8) := by
  unfold Lib.strCells
  rw [strOfNums_data, List.map_map]
  refine List.map_congr_left fun y hy => ?_
  obtain ⟨h0, h1⟩ := numL_byte hy
  simp only [Function.comp]
  congr 1
  rw [UInt8.toNat_ofNat']
  omega
theorem put_num (n : Int) : putS 1 n ⟨#[]⟩ = strOfNums (numL n 8) := putS_1 n ⟨#[]⟩ (by rw [okB_1]; simp)
theorem bytes_cells (w : World) (s : ByteArray) (gc : Nat) (m : Nat × Nat) : ∀ (j : Nat) (u : Value), (Lib.strCells s)[j]? = some u → (w.alloc (.cells (bytesRow s gc) 5 m)).drew.cell? ((⟨w.heap.size, 0, none⟩ : Addr).add j) = some u := by
  intro j u hj
  have hlt : j < s.data.size := by
    obtain ⟨h, _⟩ := List.getElem?_eq_some_iff.1 hj
    simpa [Lib.strCells] using h
  have e : ((⟨w.heap.size, 0, none⟩ : Addr).add j) = ⟨w.heap.size, j, none⟩ := by unfold Addr.add; split <;> simp_all
  have hb := heap_alloc_new w (.cells (bytesRow s gc) 5 m)
  rw [e]
  show (w.alloc (.cells (bytesRow s gc) 5 m)).cell? ⟨w.heap.size, j, none⟩ = some u
  simp only [World.cell?, hb]
  have := bytesRow_at s gc j hlt
  simp only [Option.isSome_none, Bool.false_eq_true, if_false]
  rw [this]
  simp only [Lib.strCells, List.getElem?_map, Option.map_eq_some_iff] at hj
  obtain ⟨a, ha, rfl⟩ := hj
  rw [Array.getElem?_toList, Array.getElem?_eq_getElem hlt] at ha
  cases ha
  rfl
set_option maxHeartbeats 1000000 in
theorem l01Int_any (n : Int) (w : World) :
    Calls Try.prog 116 #[.int .i64 n] w fun e w' => e = .returned (.agg #[.int .i64 1, .int .i64 n, .string ⟨#[]⟩]) ∧ Below w.heap.size w w' := by
  go_enter Try.func116, Try.ntmps116
  go_wp2
  go_returns
  exact ⟨rfl, by go_grown⟩
set_option maxHeartbeats 4000000 in
set_option maxRecDepth 100000 in
theorem specPutBag_any (W : Int) (v : Value) (cs : List C2) (w : World) (hw : CsWf cs) (hr : RowsIs w v cs) :
    Calls Try.prog 76 #[.agg #[.int .i64 W, v]] w fun e w' => e = .returned (.string (putB W cs)) ∧ Below w.heap.size w w' := by
  obtain ⟨i0, hi, hi0, hi1, hi2⟩ := info_parts info5
  have hr0 := hr
  obtain ⟨a, c, b, o, rfl, hl, hc, ha⟩ := hr.pick
  unfold maxLen at hc
  go_enter Try.func76, Try.ntmps76
  go_wp2_with fail
  refine Calls.mono (specBagOk_any W (.slice a cs.length c) cs _ hw (hr0.below ?hb)) ?_
  case hb => repeat (first | exact Below.refl _ _ | refine Below.drew ?_ | refine Below.alloc ?_ (by first | (simp; done) | (simp; omega) | omega) _ | refine Below.setCell ?_ (by first | (simp; done) | (simp; omega) | omega) _ | refine bstep (by assumption) (by first | (simp; done) | (simp; omega) | omega) ?_)
  rintro e w1 ⟨rfl, hb1⟩
  have hz1 := hb1.size
  simp only [World.size_alloc] at hz1
  have p0 : w1.cell? ⟨w.heap.size, 0, none⟩ = some (.int .i64 W) := cell_later hb1 (by go_simp)
  have p1 : w1.cell? ⟨w.heap.size, 1, none⟩ = some (.slice a cs.length c) := cell_later hb1 (by go_simp)
  have bel1 : Below w.heap.size w w1 := by repeat (first | exact Below.refl _ _ | refine Below.drew ?_ | refine Below.alloc ?_ (by first | (simp; done) | (simp; omega) | omega) _ | refine Below.setCell ?_ (by first | (simp; done) | (simp; omega) | omega) _ | refine bstep (by assumption) (by first | (simp; done) | (simp; omega) | omega) ?_)
  have hsz1 : w.heap.size < w1.heap.size := by omega
  by_cases hok : okBag W cs = true
  rotate_left
  · have hf : okBag W cs = false := by simpa using hok
    go_wp2
    go_returns
    exact ⟨by simp [putB, hf], bel1⟩
  obtain ⟨hW0, hW1, hlen, hrl⟩ := okBag_facts hok
  have hWm : W % 256 = W := by omega
  have HP : Hid (putB W cs = strOfNums (bagN W cs)) := by simp [Hid, putB, hok]
  have hr1 := hr0.below bel1
  clear hr hr0 ha
  obtain ⟨a', c', b, o, hv', _, _, ha⟩ := hr1.pick
  obtain ⟨rfl, rfl⟩ : a = a' ∧ c = c' := by simpa using hv'
  clear hv' hr1
  go_wp2
  go_loopw [3, 4] (fun v i wr => ∃ k : Nat, k ≤ cs.length ∧ i = .int .i64 k ∧ wr.ownsRow w1.heap.size 5 1 v (bagN W (cs.take k)).length ((bagN W (cs.take k)).map (Value.int .u8)) ∧ Below w1.heap.size w1 wr) (fun _ i _ => cs.length - (intOf i).toNat)
  case atStart => exact ⟨0, Nat.zero_le _, rfl, own_start w1 W, by repeat (first | exact Below.refl _ _ | refine Below.drew ?_ | refine Below.alloc ?_ (by first | (simp; done) | (simp; omega) | omega) _ | refine Below.setCell ?_ (by first | (simp; done) | (simp; omega) | omega) _ | refine bstep (by assumption) (by first | (simp; done) | (simp; omega) | omega) ?_)⟩
  case round =>
    obtain ⟨k, hk, rfl, hown, hb⟩ := hrel
    have hzb := hb.size
    have p1r : wr.cell? ⟨w.heap.size, 1, none⟩ = some (.slice a cs.length c) := (hb.cell (p := ⟨w.heap.size, 1, none⟩) hsz1).trans p1
    have hkl : (bagN W (cs.take k)).length ≤ 500000 := by
      have := csN_len (cs := cs.take k) fun x hx => hrl x (List.mem_of_mem_take hx)
      have h2 : (cs.take k).length ≤ 400 := by simp; omega
      simp only [bagN, List.length_cons]; omega
    by_cases hlt : k < cs.length
    · obtain ⟨rfl, hblt, hL⟩ := ha k hlt
      obtain ⟨x, hx⟩ : ∃ x, cs[k]? = some x := ⟨cs[k], by simp [hlt]⟩
      obtain ⟨u, e0, hR, e2⟩ := hL k x hx
      have c0 : wr.cell? ⟨b, o + k * 2, none⟩ = some u := (hb.cell (p := ⟨b, o + k * 2, none⟩) hblt).trans e0
      have c1 : wr.cell? ⟨b, o + k * 2 + 1, none⟩ = some (.int .i64 x.n) := (hb.cell (p := ⟨b, o + k * 2 + 1, none⟩) hblt).trans e2
      have hbr : b < wr.heap.size := Nat.lt_of_lt_of_le hblt hzb
      obtain ⟨ur, cr, br, oo, rfl, _, hcr, hrr⟩ := hR.pick
      unfold maxLen at hcr
      have HX : Hid (cs[k]? = some x) := hx
      have hxw : VsWf x.r := (hw x (List.mem_of_getElem? hx)).1
      have hxl : x.r.length ≤ 12 := hrl x (List.mem_of_getElem? hx)
      have hxu := rowU_len x.r
      clear ha hL hx hw hrl
      go_wp2_with fail
      refine (l01Int_any x.n wr).mono ?_
      rintro e w2 ⟨rfl, hb2⟩
      have hz2 := hb2.size
      have hown2 := own_below hown hb2
      go_wp2_with fail
      refine (specPut_any 1 x.n ⟨#[]⟩ w2 (Nat.zero_le _)).mono ?_
      rintro e w3 ⟨rfl, hb3⟩
      have hz3 := hb3.size
      have hown3 := own_below hown2 hb3
      have hcv := run_bytes_of_string (P := Try.prog) w3 9 105 5 (putS 1 x.n ⟨#[]⟩) Try.underlying9 Try.underlying105 Try.underlying5
      generalize hg : grownCap w3 (putS 1 x.n ⟨#[]⟩).size 0 5 = gc at hcv
      have hs9 : (putS 1 x.n ⟨#[]⟩).size = 9 := by rw [put_num, nums_size, numL_len]
      have hown4 : (w3.alloc (.cells (bytesRow (putS 1 x.n ⟨#[]⟩) gc) 5 ((bytesRow (putS 1 x.n ⟨#[]⟩) gc).size, (bytesRow (putS 1 x.n ⟨#[]⟩) gc).size + 1))).drew.ownsRow w1.heap.size 5 1 _ _ _ := hown3.alloc _
      have bel4 : Below w1.heap.size w1 (w3.alloc (.cells (bytesRow (putS 1 x.n ⟨#[]⟩) gc) 5 ((bytesRow (putS 1 x.n ⟨#[]⟩) gc).size, (bytesRow (putS 1 x.n ⟨#[]⟩) gc).size + 1))).drew := by repeat (first | exact Below.refl _ _ | refine Below.drew ?_ | refine Below.alloc ?_ (by first | (simp; done) | (simp; omega) | omega) _ | refine Below.setCell ?_ (by first | (simp; done) | (simp; omega) | omega) _ | refine bstep (by assumption) (by first | (simp; done) | (simp; omega) | omega) ?_)
      go_wp2_with (at_builtin; refine wpList_append_own _ rfl _ _ 105 rfl w1.heap.size 5 i0 (.int .u8 0) 1 1 Try.underlying105 hi hi0 hi1 hi2 rfl (by decide) _ _ _ rfl hown4 ⟨w3.heap.size, 0, none⟩ 9 gc (Lib.strCells (putS 1 x.n ⟨#[]⟩)) rfl (by rw [Lib.strCells_length, hs9]) (bytes_cells _ _ _ _) (Lib.strCells_oneCell _) ?c3 ?c4 ?c5 ?_)
      case c3 => unfold maxLen; omega
      case c4 => omega
      case c5 => simp; omega
      intro v5 w5 hown5 hgr5 _
      have hz5 := hgr5.size
      simp at hz5
      have bel5 : Below w1.heap.size w1 w5 := bel4.grown hgr5 (by simp; omega) (fun k hk => (hown4.lt k hk).1)
      have R5 : w5.ownsRow w1.heap.size 5 1 v5 (bagN W (cs.take k) ++ (numL x.n 8 ++ nb (rowU (x.r.take 0)))).length ((bagN W (cs.take k) ++ (numL x.n 8 ++ nb (rowU (x.r.take 0)))).map (Value.int .u8)) := by
        refine own_eq hown5 ?_ ?_
        · simp [numL_len, nb_len, rowU]
        · rw [put_num, cells_numL]; simp [rowU, nb]
      clear hown hown2 hown3 hown4 hown5 hgr5 hcv hg hs9
      have hkl2 : (bagN W (cs.take k) ++ numL x.n 8).length ≤ 500009 := by simp [numL_len]; omega
      clear hz2 hz3 hb2 hb3 hb bel4 p1r c0 c1 hzb hkl
      have hz5' := bel5.size
      go_wp2
      go_loopw [3, 5] (fun v i wq => ∃ m : Nat, m ≤ x.r.length ∧ i = .int .i64 m ∧ wq.ownsRow w1.heap.size 5 1 v (bagN W (cs.take k) ++ (numL x.n 8 ++ nb (rowU (x.r.take m)))).length ((bagN W (cs.take k) ++ (numL x.n 8 ++ nb (rowU (x.r.take m)))).map (Value.int .u8)) ∧ Below w1.heap.size w1 wq) (fun _ i _ => x.r.length - (intOf i).toNat)
      case atStart => exact ⟨0, Nat.zero_le _, rfl, R5, bel5⟩
      case round =>
        obtain ⟨m, hm, rfl, hown, hb⟩ := hrel
        have hzb := hb.size
        clear R5 hz5 hz5'
        have p1r : wr.cell? ⟨w.heap.size, 1, none⟩ = some (.slice (some ⟨b, o, none⟩) cs.length c) := (hb.cell (p := ⟨w.heap.size, 1, none⟩) hsz1).trans p1
        have c0 : wr.cell? ⟨b, o + k * 2, none⟩ = some (.slice ur x.r.length cr) := (hb.cell (p := ⟨b, o + k * 2, none⟩) hblt).trans e0
        have hul : (rowU (x.r.take m)).length ≤ 1224 := by
          have h1 := rowU_len (x.r.take m)
          have h2 : (x.r.take m).length ≤ 12 := by simp; omega
          omega
        have hln : (bagN W (cs.take k) ++ (numL x.n 8 ++ nb (rowU (x.r.take m)))).length ≤ 502000 := by
          rw [← List.append_assoc, List.length_append, nb_len]; omega
        by_cases hmt : m < x.r.length
        · obtain ⟨rfl, hbrl, hLr⟩ := hrr m hmt
          obtain ⟨y, hy, d0, d1, d2, _⟩ := hLr.at hbrl hb hmt
          have HY : Hid (x.r[m]? = some y) := hy
          have hys : y.s.size ≤ maxLen := (hxw y (List.mem_of_getElem? hy)).2.2
          have hp := putS_size y.k y.n y.s
          clear hrr hLr hy hxw
          go_wp2_with fail
          refine (specPut_any y.k y.n y.s wr hys).mono ?_
          rintro e w2 ⟨rfl, hb2⟩
          have hz2 := hb2.size
          have hown2 := own_below hown hb2
          have hcv := run_bytes_of_string (P := Try.prog) w2 9 105 5 (putS y.k y.n y.s) Try.underlying9 Try.underlying105 Try.underlying5
          generalize hg : grownCap w2 (putS y.k y.n y.s).size 0 5 = gd at hcv
          have hown4 : (w2.alloc (.cells (bytesRow (putS y.k y.n y.s) gd) 5 ((bytesRow (putS y.k y.n y.s) gd).size, (bytesRow (putS y.k y.n y.s) gd).size + 1))).drew.ownsRow w1.heap.size 5 1 _ _ _ := hown2.alloc _
          have bel4 : Below w1.heap.size w1 (w2.alloc (.cells (bytesRow (putS y.k y.n y.s) gd) 5 ((bytesRow (putS y.k y.n y.s) gd).size, (bytesRow (putS y.k y.n y.s) gd).size + 1))).drew := by repeat (first | exact Below.refl _ _ | refine Below.drew ?_ | refine Below.alloc ?_ (by first | (simp; done) | (simp; omega) | omega) _ | refine Below.setCell ?_ (by first | (simp; done) | (simp; omega) | omega) _ | refine bstep (by assumption) (by first | (simp; done) | (simp; omega) | omega) ?_)
          go_wp2_with (at_builtin; refine wpList_append_own _ rfl _ _ 105 rfl w1.heap.size 5 i0 (.int .u8 0) 1 1 Try.underlying105 hi hi0 hi1 hi2 rfl (by decide) _ _ _ rfl hown4 ⟨w2.heap.size, 0, none⟩ (putS y.k y.n y.s).size gd (Lib.strCells (putS y.k y.n y.s)) rfl (by rw [Lib.strCells_length, Nat.mul_one]) (bytes_cells _ _ _ _) (Lib.strCells_oneCell _) ?c3 ?c4 ?c5 ?_)
          case c3 => unfold maxLen; omega
          case c4 => omega
          case c5 => simp; omega
          intro v6 w6 hown6 hgr6 _
          have hz6 := hgr6.size
          have bel6 : Below w1.heap.size w1 w6 := bel4.grown hgr6 (by simp; omega) (fun k hk => (hown4.lt k hk).1)
          have R6 : w6.ownsRow w1.heap.size 5 1 v6 (bagN W (cs.take k) ++ (numL x.n 8 ++ nb (rowU (x.r.take (m + 1))))).length ((bagN W (cs.take k) ++ (numL x.n 8 ++ nb (rowU (x.r.take (m + 1))))).map (Value.int .u8)) := by
            have eU : rowU (x.r.take (m + 1)) = rowU (x.r.take m) ++ (putS y.k y.n y.s).data.toList := rowU_take HY.out
            refine own_eq hown6 ?_ ?_
            · have : (putS y.k y.n y.s).data.toList.length = (putS y.k y.n y.s).size := Array.length_toList
              simp only [List.length_append, nb_len, eU]; omega
            · rw [eU]; simp only [List.map_append, nb_cells, Lib.byteCells_append, Lib.strCells_eq]
          clear hown hown2 hown4 hown6 hgr6 hcv hg bel4
          go_wp2
          go_roundw
          case rel => exact ⟨m + 1, hmt, by simp, R6, bel6⟩
          case measure => simp [intOf]; omega
        · clear hrr
          obtain rfl : m = x.r.length := by omega
          rw [List.take_length] at hown
          have eN : bagN W (cs.take (k + 1)) = bagN W (cs.take k) ++ (numL x.n 8 ++ nb (rowU x.r)) := by unfold bagN; rw [csN_take HX.out]; rfl
          have R7 : wr.ownsRow w1.heap.size 5 1 u3 (bagN W (cs.take (k + 1))).length ((bagN W (cs.take (k + 1))).map (Value.int .u8)) := by rw [eN]; exact hown
          clear hown eN
          go_wp2
          go_roundw
          case rel => exact ⟨k + 1, hlt, by simp, R7, hb⟩
          case measure => simp [intOf]; omega
    · clear ha hw hrl
      obtain rfl : k = cs.length := by omega
      rw [List.take_length] at hown
      have hcv := conv_own (bagN W cs) hown (by simp [bagN])
      go_wp2
      go_returns
      exact ⟨ret_str HP.out.symm, bel1.trans (hb.mono (by omega))⟩
end Go.Proofs.Ytdkbhoichmcodaa
/- Own text. Sizes as bytes, the high ones first; texts behind them; the contracts of l10Size and l10Text. -/
namespace Go.Proofs.Ytdkbhoichmcodaa
open Go.RowKit
set_option linter.unusedVariables false
/-- n bytes of a number, the high ones first. -/
def szN (x : Int) : Nat → List Int
  | 0 => []
  | n + 1 => (x / 256 ^ n % 256) :: szN x n
theorem szN_len (x : Int) (n : Nat) : (szN x n).length = n := by
  induction n with
  | zero => rfl
  | succ n ih => simp [szN, ih]
theorem szN_bd (x : Int) (n : Nat) : ∀ y ∈ szN x n, 0 ≤ y ∧ y < 256 := by
  induction n with
  | zero => intro y hy; cases hy
  | succ n ih =>
    intro y hy
    rcases List.mem_cons.1 hy with rfl | h
    · omega
    · exact ih y h
/-- a text as numbers. -/
def txN (s : ByteArray) : List Int := nb s.data.toList
theorem txN_len (s : ByteArray) : (txN s).length = s.size := by simp [txN, nb_len]
theorem nums_app (a b : List Int) : strOfNums (a ++ b) = strOfNums a ++ strOfNums b := by
  apply ByteArray.ext
  simp [strOfNums, ByteArray.data_append]
theorem nums_txN (s : ByteArray) : strOfNums (txN s) = s := by
  have := nums_append [] s
  have e : strOfNums [] = ⟨#[]⟩ := rfl
  rw [List.nil_append, e] at this
  rw [show txN s = s.data.toList.map (fun b => (b.toNat : Int)) from rfl, this]
  apply ByteArray.ext
  simp [ByteArray.data_append]
theorem nums_cons (c : Int) (xs : List Int) : strOfNums [c] ++ strOfNums xs = strOfNums (c :: xs) := by rw [← nums_app]; rfl
/-- a text behind n bytes of its size. -/
def tN (s : ByteArray) (n : Nat) : List Int := szN s.size n ++ txN s
theorem tN_len (s : ByteArray) (n : Nat) : (tN s n).length = n + s.size := by simp [tN, szN_len, txN_len]
theorem nums_tN (s : ByteArray) (n : Nat) : strOfNums (szN s.size n) ++ s = strOfNums (tN s n) := by rw [tN, nums_app, nums_txN]
theorem pow_step (x : Int) (k : Nat) : x / 256 ^ k / 256 = x / 256 ^ (k + 1) := by
  rw [Int.pow_succ, Int.ediv_ediv_of_nonneg (Int.le_of_lt (Int.pow_pos (by decide)))]
set_option maxHeartbeats 2000000 in
set_option maxRecDepth 100000 in
theorem l10Size_any (x : Int) (n : Nat) (w : World) (h0 : 0 ≤ x) (hx : x ≤ 9223372036854775807) (hn : n ≤ 8) :
    Calls Try.prog 74 #[.int .i64 x, .int .i64 n] w fun e w' => e = .returned (.string (strOfNums (szN x n))) ∧ Below w.heap.size w w' := by
  go_enter Try.func74, Try.ntmps74
  go_wp2_with fail
  go_loopw [0, 5, 6] (fun y o i wr => ∃ (k : Nat) (z : Int) (r : ByteArray), k ≤ n ∧ y = .int .i64 z ∧ o = .string r ∧ i = .int .i64 k ∧ Hid (z = x / 256 ^ k) ∧ Hid (r = strOfNums (szN x k)) ∧ 0 ≤ z ∧ z ≤ 9223372036854775807 ∧ r.size = k ∧ Below w.heap.size w wr) (fun _ _ i _ => n - (intOf i).toNat)
  case atStart => exact ⟨0, x, ⟨#[]⟩, Nat.zero_le _, rfl, rfl, rfl, by simp [Hid], rfl, h0, hx, rfl, Below.refl _ _⟩
  case round =>
    obtain ⟨k, z, r, hk, rfl, rfl, rfl, HZ, HR, z0, z1, hr, hb⟩ := hrel
    by_cases hlt : k < n
    · have hs : r.size ≤ 8 := by omega
      have hcv0 := conv_own [z % 256] (own_litg wr w.heap.size wr.heap.size [z % 256] rfl hb.size (by simp)) (by simp)
      simp only [List.map_cons, List.map_nil, List.length_cons, List.length_nil, Nat.zero_add] at hcv0
      have hsz : ((strOfNums [z % 256]).size : Int) = 1 := by rw [nums_size]; rfl
      have hm : z.tmod 256 = z % 256 := Int.tmod_eq_emod_of_nonneg z0
      have hd : z.tdiv 256 = z / 256 := Int.tdiv_eq_ediv_of_nonneg z0
      have hm0 : 0 ≤ z % 256 ∧ z % 256 < 256 := by omega
      have HS : Hid (r.size = k) := hr
      clear hr
      go_wp2_with fail
      refine ⟨⟨k + 1, z / 256, strOfNums [z % 256] ++ r, hlt, rfl, rfl, by simp, ?_, ?_, by omega, by omega, ?_, hb.alloc hb.size _⟩, by simp [intOf]; omega⟩
      · show z / 256 = x / 256 ^ (k + 1)
        rw [HZ.out, pow_step]
      · show strOfNums [z % 256] ++ r = _
        rw [HR.out, nums_cons, HZ.out]; rfl
      · rw [ByteArray.size_append, nums_size]
        have := HS.out
        simp; omega
    · obtain rfl : k = n := by omega
      go_wp2_with fail
      go_returns
      exact ⟨by rw [← HR.out]; rfl, hb⟩
set_option maxHeartbeats 2000000 in
set_option maxRecDepth 100000 in
theorem l10Text_any (s : ByteArray) (n : Nat) (w : World) (hs : s.size ≤ 281474976710656) (hn : n ≤ 8) :
    Calls Try.prog 75 #[.string s, .int .i64 n] w fun e w' => e = .returned (.string (strOfNums (tN s n))) ∧ Below w.heap.size w w' := by
  have hsz : ((strOfNums (szN s.size n)).size : Int) ≤ 8 := by rw [nums_size, szN_len]; omega
  have HT : Hid (strOfNums (szN s.size n) ++ s = strOfNums (tN s n)) := nums_tN s n
  go_enter Try.func75, Try.ntmps75
  go_wp2_with fail
  refine Calls.mono (l10Size_any s.size n _ (by omega) (by omega) hn) ?_
  rintro e w1 ⟨rfl, hb1⟩
  go_wp2_with fail
  go_returns
  exact ⟨by rw [← HT.out]; rfl, hb1⟩
end Go.Proofs.Ytdkbhoichmcodaa
/- Own text. Schemas as they lie in memory: a slice of structs of two cells each (the name, the columns' names); how they are read off a slice that came in; what they weigh. -/
namespace Go.Proofs.Ytdkbhoichmcodaa
open Go.RowKit Go.Deep Go.ChangeShapes Go.WideShapes
set_option linter.unusedVariables false
/-- a schema: its name, its columns. -/
structure S2 where
  s : ByteArray
  cs : List ByteArray
def S2.wf (x : S2) : Prop := x.s.size ≤ maxLen ∧ SsWf x.cs
def HsWf (rs : List S2) : Prop := ∀ y ∈ rs, y.wf
/-- the schemas rs lie in w from cell o of block b on. -/
def HLies (w : World) (b o : Nat) (rs : List S2) : Prop :=
  ∀ i x, rs[i]? = some x → ∃ v g, w.cell? ⟨b, o + i * 2, none⟩ = some (.string x.s) ∧ w.cell? ⟨b, o + i * 2 + 1, none⟩ = some v ∧ StrsF w v x.cs g
/-- the slice value v has the schemas rs. -/
def SchsIs (w : World) (v : Value) (rs : List S2) : Prop :=
  ∃ a c, v = .slice a rs.length c ∧ rs.length ≤ c ∧ c ≤ maxLen ∧ (rs ≠ [] → ∃ b o, a = some ⟨b, o, none⟩ ∧ b < w.heap.size ∧ HLies w b o rs)
theorem HLies.below {w w' : World} {b o : Nat} {rs : List S2} (h : HLies w b o rs) (hb : Below w.heap.size w w') (hN : b < w.heap.size) : HLies w' b o rs := fun i x hx => by
  obtain ⟨v, g, h0, h1, h3⟩ := h i x hx
  exact ⟨v, g, (hb.cell (p := ⟨b, o + i * 2, none⟩) hN).trans h0, (hb.cell (p := ⟨b, o + i * 2 + 1, none⟩) hN).trans h1, h3.below hb⟩
theorem SchsIs.below {w w' : World} {v : Value} {rs : List S2} (h : SchsIs w v rs) (hb : Below w.heap.size w w') : SchsIs w' v rs := by
  obtain ⟨a, c, rfl, hl, hc, h⟩ := h
  refine ⟨a, c, rfl, hl, hc, fun hne => ?_⟩
  obtain ⟨b, o, rfl, hlt, hL⟩ := h hne
  exact ⟨b, o, rfl, Nat.lt_of_lt_of_le hlt hb.size, hL.below hb hlt⟩
theorem SchsIs.shape {w : World} {v : Value} {rs : List S2} (h : SchsIs w v rs) : ∃ a l c, v = .slice a l c := by
  obtain ⟨a, c, h, _⟩ := h
  exact ⟨a, _, c, h⟩
theorem SchsIs.pick {w : World} {v : Value} {rs : List S2} (h : SchsIs w v rs) :
    ∃ a c b o, v = .slice a rs.length c ∧ rs.length ≤ c ∧ c ≤ maxLen ∧ ∀ k, k < rs.length → a = some ⟨b, o, none⟩ ∧ b < w.heap.size ∧ HLies w b o rs := by
  obtain ⟨a, c, rfl, hl, hc, h⟩ := h
  by_cases hne : rs = []
  · exact ⟨a, c, 0, 0, rfl, hl, hc, fun k hk => by rw [hne] at hk; simp at hk⟩
  · obtain ⟨b, o, h⟩ := h hne
    exact ⟨a, c, b, o, rfl, hl, hc, fun _ _ => h⟩
theorem HLies.at {w w' : World} {b o : Nat} {rs : List S2} (h : HLies w b o rs) (hlt : b < w.heap.size) (hb : Below w.heap.size w w') {k : Nat} (hk : k < rs.length) :
    ∃ x v g, rs[k]? = some x ∧ w'.cell? ⟨b, o + k * 2, none⟩ = some (.string x.s) ∧ w'.cell? ⟨b, o + k * 2 + 1, none⟩ = some v ∧ StrsF w' v x.cs g ∧ b < w'.heap.size := by
  obtain ⟨v, g, h0, h1, h3⟩ := h.below hb hlt k rs[k] (by simp [hk])
  exact ⟨rs[k], v, g, by simp [hk], h0, h1, h3, Nat.lt_of_lt_of_le hlt hb.size⟩
/-- what schemas weigh. -/
def wth (x : S2) : Nat := x.s.size + (x.cs.length + wtSs x.cs)
def wths (rs : List S2) : Nat := (rs.map wth).sum
def wtH (rs : List S2) : Nat := rs.length + wths rs
theorem wths_take {rs : List S2} {k : Nat} {x : S2} (h : rs[k]? = some x) : wths (rs.take (k + 1)) = wths (rs.take k) + wth x := by
  unfold wths
  obtain ⟨hk, rfl⟩ := List.getElem?_eq_some_iff.1 h
  rw [List.take_succ_eq_append_getElem hk, List.map_append, List.sum_append]
  simp only [List.map_cons, List.map_nil, List.sum_cons, List.sum_nil, Nat.add_zero]
theorem wth_mem {rs : List S2} {x : S2} (h : x ∈ rs) : wth x ≤ wths rs := by
  unfold wths
  induction rs with
  | nil => cases h
  | cons y ys ih =>
    simp only [List.map_cons, List.sum_cons]
    rcases List.mem_cons.1 h with rfl | h
    · omega
    · have := ih h; omega
section
variable {H : Type} {enc : TypeId × Value → H} {P : Program} {w : World} {spare : Nat → Bool} {held : Bool}
/-- a slice of schemas that came in. -/
theorem open_schs {t r e : TypeId} {K0 K1 : Field} {fuel : Nat} {v : Value} {x : DataW H × List MemPlace} (hst : P.underlying t = some (.slice r)) (hr : P.underlying r = some (.struct #[K0, K1])) (cr : P.cellsOf r = 2)
    (k0 : K0.offset = 0) (k1 : K1.offset = 1) (kc0 : P.cellsOf K0.type = 1) (kc1 : P.cellsOf K1.type = 1) (ks : P.underlying K0.type = some .string) (kb : P.underlying K1.type = some (.slice e)) (he : P.underlying e = some .string) (cg : P.cellsOf e = 1)
    (h : DataW.trod enc P w 0 spare held fuel t [v] = some x) : ∃ rs, SchsIs w v rs ∧ HsWf rs := by
  rcases open_slice hst h with ⟨h0, _⟩ | ⟨a, len, cap, m, n, D, Pl, hcs, hb, hl, hm, hmm, rfl, hx⟩
  · simp at h0; subst h0
    exact ⟨[], ⟨none, 0, rfl, by simp, by simp, fun h => absurd rfl h⟩, by simp [HsWf]⟩
  simp at hcs; subst hcs
  have hlm : len ≤ m := by rw [hmm]; split <;> omega
  have each : ∀ i, i < len → ∃ q : (Value × List Nat) × S2, w.cell? (a.add (i * 2)) = some (.string q.2.s) ∧ w.cell? (a.add (i * 2 + 1)) = some q.1.1 ∧ StrsF w q.1.1 q.2.cs q.1.2 ∧ q.2.wf := by
    intro i hi
    obtain ⟨cs', h1, h2⟩ := hx i (by omega)
    rw [cr] at h1
    obtain ⟨_, hlen, hcell⟩ := World.cells?_some h1
    obtain ⟨xs, k, hk, hxy, _, hxl, hf⟩ := DataW.trod_struct hr h2
    match xs, hxl, cs', hlen with
    | [y0, y1], _, [v0, v1], _ =>
      have f0 := hf 0 K0 rfl
      have f1 := hf 1 K1 rfl
      simp [k0, k1, kc0, kc1] at f0 f1
      have e0 := hcell 0 (by omega)
      have e1 := hcell 1 (by omega)
      rw [add_add] at e0 e1
      obtain ⟨s0, r0, _, ws⟩ := DataW.trod_string ks f0
      simp at r0
      subst r0
      obtain ⟨cs0, g0, hr0, hw0⟩ := open_strs kb he cg f1
      exact ⟨((v1, g0), ⟨s0, cs0⟩), by simpa using e0, by simpa using e1, hr0, ws, hw0⟩
  have : Inhabited ((Value × List Nat) × S2) := ⟨⟨(.nilFunc, []), ⟨⟨#[]⟩, []⟩⟩⟩
  obtain ⟨q, hq⟩ := choose_lt each
  refine ⟨(List.range len).map fun i => (q i).2, ⟨some a, cap, by simp, by simpa using hl, hm, fun hne => ?_⟩, ?_⟩
  · have hpos : 0 < len := by
      rcases Nat.eq_zero_or_pos len with h0 | h0
      · subst h0; simp at hne
      · exact h0
    have hs : a.spot = none := by have := World.cell?_spot (hq 0 hpos).1; simpa [Addr.add] using this
    obtain ⟨b, o, sp⟩ := a
    simp at hs; subst hs
    refine ⟨b, o, rfl, ?_, fun i x hx => ?_⟩
    · have := World.block_lt_of_cell? _ _ (hq 0 hpos).1
      simpa [Addr.add] using this
    · have hi : i < len := by
        have := List.getElem?_eq_some_iff.1 hx
        obtain ⟨h1, _⟩ := this
        simpa using h1
      have ex : x = (q i).2 := by simp [hi] at hx; exact hx.symm
      subst ex
      obtain ⟨h0, h1, h3, _⟩ := hq i hi
      rw [add_plain] at h0 h1
      exact ⟨_, _, h0, by simpa [Nat.add_assoc] using h1, h3⟩
  · intro y hy
    obtain ⟨i, hi, rfl⟩ := List.mem_map.1 hy
    exact (hq i (List.mem_range.1 hi)).2.2.2
end
end Go.Proofs.Ytdkbhoichmcodaa
/- Own text. Whether a text stands in a list of texts. -/
namespace Go.Proofs.Ytdkbhoichmcodaa
open Go.RowKit
set_option linter.unusedVariables false
theorem bytes_same {x y : ByteArray} (h : x.toList = y.toList) : x = y := by
  rw [ByteArray.toList_eq, ByteArray.toList_eq] at h
  exact ByteArray.ext (Array.toList_inj.1 h)
/-- whether the text x stands in L. -/
def hasS (L : List ByteArray) (x : ByteArray) : Bool := L.any fun y => y.toList == x.toList
theorem hasS_step {L : List ByteArray} {k : Nat} {y x : ByteArray} (h : L[k]? = some y) : hasS (L.drop k) x = (y.toList == x.toList || hasS (L.drop (k + 1)) x) := by
  obtain ⟨hk, rfl⟩ := List.getElem?_eq_some_iff.1 h
  rw [List.drop_eq_getElem_cons hk]
  rfl
end Go.Proofs.Ytdkbhoichmcodaa
/- Own text. The contracts of l01In, isSmall, isDigit and of both NameOk: they answer nameB, and turn nothing. -/
namespace Go.Proofs.Ytdkbhoichmcodaa
open Go.RowKit
set_option linter.unusedVariables false
/-- a number between two others. -/
def inB (x a b : Int) : Bool := decide (a ≤ x ∧ x ≤ b)
set_option maxHeartbeats 400000 in
theorem l01InN_any (x a b : Int) (w : World) :
    Calls Try.prog 68 #[.int .i64 x, .int .i64 a, .int .i64 b] w fun e w' => e = .returned (.bool (inB x a b)) ∧ w' = w := by
  by_cases h : a ≤ x
  · go_enter Try.func68, Try.ntmps68
    go_wp2
    go_returns
    exact ⟨by simp [inB, h], rfl⟩
  · have h' : decide (a ≤ x) = false := by simp; omega
    go_enter Try.func68, Try.ntmps68
    go_wp2
    go_returns
    exact ⟨ret_bool (by simp [inB]; omega), rfl⟩
set_option maxHeartbeats 400000 in
theorem isSmall_any (c : Int) (w : World) :
    Calls Try.prog 113 #[.int .u8 c] w fun e w' => e = .returned (.bool (inB c 97 122)) ∧ w' = w := by
  by_cases h : 97 ≤ c
  · go_enter Try.func113, Try.ntmps113
    go_wp2
    go_returns
    exact ⟨by simp [inB, h], rfl⟩
  · have h' : decide (97 ≤ c) = false := by simp; omega
    go_enter Try.func113, Try.ntmps113
    go_wp2
    go_returns
    exact ⟨ret_bool (by simp [inB]; omega), rfl⟩
set_option maxHeartbeats 400000 in
theorem isDigit_any (c : Int) (w : World) :
    Calls Try.prog 114 #[.int .u8 c] w fun e w' => e = .returned (.bool (inB c 48 57)) ∧ w' = w := by
  by_cases h : 48 ≤ c
  · go_enter Try.func114, Try.ntmps114
    go_wp2
    go_returns
    exact ⟨by simp [inB, h], rfl⟩
  · have h' : decide (48 ≤ c) = false := by simp; omega
    go_enter Try.func114, Try.ntmps114
    go_wp2
    go_returns
    exact ⟨ret_bool (by simp [inB]; omega), rfl⟩
/-- a byte that may stand at place i of a name. -/
def chr (i : Nat) (c : Int) : Bool := inB c 97 122 || (i != 0 && inB c 48 57)
/-- the first n bytes may stand in a name. -/
def NameP (s : ByteArray) (n : Nat) : Prop := ∀ i (h : i < s.size), i < n → chr i s[i].toNat = true
/-- whether a text is a name. -/
def nameB (s : ByteArray) : Bool := (List.range s.size).all (fun i => if h : i < s.size then chr i s[i].toNat else true) && inB s.size 1 10
theorem nameB_true (s : ByteArray) (h : NameP s s.size) : nameB s = inB s.size 1 10 := by
  have : (List.range s.size).all (fun i => if h : i < s.size then chr i s[i].toNat else true) = true := by
    rw [List.all_eq_true]
    intro i hi
    have hi' := List.mem_range.1 hi
    rw [dif_pos hi']; exact h i hi' hi'
  rw [nameB, this, Bool.true_and]
theorem nameB_false (s : ByteArray) (k : Nat) (hk : k < s.size) (h : chr k s[k].toNat = false) : nameB s = false := by
  have : (List.range s.size).all (fun i => if h : i < s.size then chr i s[i].toNat else true) = false := by
    rw [List.all_eq_false]
    exact ⟨k, List.mem_range.2 hk, by rw [dif_pos hk, h]; simp⟩
  rw [nameB, this, Bool.false_and]
theorem nameB_big (s : ByteArray) (h : inB s.size 1 10 = false) : nameB s = false := by rw [nameB, h, Bool.and_false]
theorem NameP_succ (s : ByteArray) (k : Nat) (hk : k < s.size) (h : NameP s k) (hc : chr k s[k].toNat = true) : NameP s (k + 1) := by
  intro i hi hl
  by_cases e : i = k
  · subst e; exact hc
  · exact h i hi (by omega)
set_option maxHeartbeats 1000000 in
set_option maxRecDepth 100000 in
theorem specName_any (s : ByteArray) (w : World) (hs : s.size ≤ maxLen) :
    Calls Try.prog 67 #[.string s] w fun e w' => e = .returned (.bool (nameB s)) ∧ w' = w := by
  unfold maxLen at hs
  go_enter Try.func67, Try.ntmps67
  go_wp2_with fail
  go_loop [3] (fun i => ∃ k : Nat, k ≤ s.size ∧ i = .int .i64 k ∧ NameP s k) (fun i => s.size - (intOf i).toNat)
  case atStart => exact ⟨0, Nat.zero_le _, rfl, fun i h hl => by omega⟩
  case round =>
    obtain ⟨k, hk, rfl, hp0⟩ := hrel
    have hp : Hid (NameP s k) := hp0
    clear hp0
    by_cases hlt : k < s.size
    · have e64 : wrap64 (s[k].toNat : Int) = s[k].toNat := wrap64_byte _
      by_cases h1 : inB (wrap64 s[k].toNat) 97 122 = true
      · have hc : Hid (chr k s[k].toNat = true) := by show chr k s[k].toNat = true; rw [e64] at h1; simp [chr, h1]
        clear e64
        go_wp2_with (first | (go_at_call 68; refine (l01InN_any _ _ _ _).mono ?_; rintro e w' ⟨rfl, rfl⟩))
        exact ⟨⟨k + 1, by omega, by go_num, NameP_succ s k hlt hp.out hc.out⟩, by simp [intOf]; omega⟩
      · have h1' : inB (wrap64 s[k].toNat) 97 122 = false := by simpa using h1
        clear h1
        by_cases h0 : k = 0
        · subst h0
          have hc : Hid (nameB s = false) := by show nameB s = false; rw [e64] at h1'; exact nameB_false s 0 hlt (by simp [chr, h1'])
          clear e64
          go_wp2_with (first | (go_at_call 68; refine (l01InN_any _ _ _ _).mono ?_; rintro e w' ⟨rfl, rfl⟩))
          go_returns
          exact ⟨ret_bool hc.out.symm, rfl⟩
        · have hk0 : ((k : Int) == 0) = false := by simp; omega
          by_cases h2 : inB (wrap64 s[k].toNat) 48 57 = true
          · have hc : Hid (chr k s[k].toNat = true) := by show chr k s[k].toNat = true; rw [e64] at h2; simp [chr, h2, h0]
            clear e64
            go_wp2_with (first | (go_at_call 68; refine (l01InN_any _ _ _ _).mono ?_; rintro e w' ⟨rfl, rfl⟩))
            exact ⟨⟨k + 1, by omega, by go_num, NameP_succ s k hlt hp.out hc.out⟩, by simp [intOf]; omega⟩
          · have h2' : inB (wrap64 s[k].toNat) 48 57 = false := by simpa using h2
            clear h2
            have hc : Hid (nameB s = false) := by show nameB s = false; rw [e64] at h1' h2'; exact nameB_false s k hlt (by simp [chr, h1', h2'])
            clear e64
            go_wp2_with (first | (go_at_call 68; refine (l01InN_any _ _ _ _).mono ?_; rintro e w' ⟨rfl, rfl⟩))
            go_returns
            exact ⟨ret_bool hc.out.symm, rfl⟩
    · have hkk : k = s.size := by omega
      have hfin : Hid (nameB s = inB s.size 1 10) := by show nameB s = inB s.size 1 10; have := hp.out; rw [hkk] at this; exact nameB_true s this
      clear hkk
      go_wp2_with (first | (go_at_call 68; refine (l01InN_any _ _ _ _).mono ?_; rintro e w' ⟨rfl, rfl⟩))
      go_returns
      exact ⟨ret_bool hfin.out.symm, rfl⟩
set_option maxHeartbeats 1000000 in
set_option maxRecDepth 100000 in
theorem implName_any (s : ByteArray) (w : World) (hs : s.size ≤ maxLen) :
    Calls Try.prog 71 #[.string s] w fun e w' => e = .returned (.bool (nameB s)) ∧ w' = w := by
  unfold maxLen at hs
  by_cases hz : s.size = 0
  · have hfin : Hid (nameB s = false) := nameB_big s (by simp [inB, hz])
    have hnil : s.toList = [] := by rw [ByteArray.toList_eq]; exact List.eq_nil_of_length_eq_zero (by simpa using hz)
    clear hz
    go_enter Try.func71, Try.ntmps71
    go_wp2_with fail
    go_returns
    exact ⟨ret_bool hfin.out.symm, rfl⟩
  have hne : s.toList.isEmpty = false := by
    rw [ByteArray.toList_eq]
    have : s.data.toList.length ≠ 0 := by simpa using hz
    cases h : s.data.toList with
    | nil => rw [h] at this; simp at this
    | cons a l => rfl
  by_cases hb : 10 < (s.size : Int)
  · have hfin : Hid (nameB s = false) := nameB_big s (by simp [inB]; omega)
    go_enter Try.func71, Try.ntmps71
    go_wp2_with fail
    go_returns
    exact ⟨ret_bool hfin.out.symm, rfl⟩
  have hpos : 0 < s.size := by omega
  have hd : decide (10 < (s.size : Int)) = false := by simp; omega
  by_cases h0 : inB s[0].toNat 97 122 = true
  · have hc0 : Hid (chr 0 s[0].toNat = true) := by show chr 0 s[0].toNat = true; simp [chr, h0]
    go_enter Try.func71, Try.ntmps71
    go_wp2_with (first | (go_at_call 113; refine (isSmall_any _ _).mono ?_; rintro e w' ⟨rfl, rfl⟩) | (go_at_call 114; refine (isDigit_any _ _).mono ?_; rintro e w' ⟨rfl, rfl⟩))
    go_loop [3] (fun i => ∃ k : Nat, 1 ≤ k ∧ k ≤ s.size ∧ i = .int .i64 k ∧ NameP s k) (fun i => s.size - (intOf i).toNat)
    case atStart => exact ⟨1, by omega, by omega, rfl, fun i h hl => by have e : i = 0 := (by omega); subst e; exact hc0.out⟩
    case round =>
      obtain ⟨k, hk1, hk, rfl, hp0⟩ := hrel
      have hp : Hid (NameP s k) := hp0
      clear hp0
      by_cases hlt : k < s.size
      · by_cases h1 : inB s[k].toNat 97 122 = true
        · have hc : Hid (chr k s[k].toNat = true) := by show chr k s[k].toNat = true; simp [chr, h1]
          go_wp2_with (first | (go_at_call 113; refine (isSmall_any _ _).mono ?_; rintro e w' ⟨rfl, rfl⟩) | (go_at_call 114; refine (isDigit_any _ _).mono ?_; rintro e w' ⟨rfl, rfl⟩))
          exact ⟨⟨k + 1, by omega, by omega, by go_num, NameP_succ s k hlt hp.out hc.out⟩, by simp [intOf]; omega⟩
        · have h1' : inB s[k].toNat 97 122 = false := by simpa using h1
          clear h1
          by_cases h2 : inB s[k].toNat 48 57 = true
          · have hc : Hid (chr k s[k].toNat = true) := by show chr k s[k].toNat = true; have : k ≠ 0 := (by omega); simp [chr, h2, this]
            go_wp2_with (first | (go_at_call 113; refine (isSmall_any _ _).mono ?_; rintro e w' ⟨rfl, rfl⟩) | (go_at_call 114; refine (isDigit_any _ _).mono ?_; rintro e w' ⟨rfl, rfl⟩))
            exact ⟨⟨k + 1, by omega, by omega, by go_num, NameP_succ s k hlt hp.out hc.out⟩, by simp [intOf]; omega⟩
          · have h2' : inB s[k].toNat 48 57 = false := by simpa using h2
            clear h2
            have hc : Hid (nameB s = false) := nameB_false s k hlt (by simp [chr, h1', h2'])
            go_wp2_with (first | (go_at_call 113; refine (isSmall_any _ _).mono ?_; rintro e w' ⟨rfl, rfl⟩) | (go_at_call 114; refine (isDigit_any _ _).mono ?_; rintro e w' ⟨rfl, rfl⟩))
            go_returns
            exact ⟨ret_bool hc.out.symm, rfl⟩
      · have hkk : k = s.size := by omega
        have hfin : Hid (nameB s = true) := by show nameB s = true; have := hp.out; rw [hkk] at this; rw [nameB_true s this]; simp [inB]; omega
        clear hkk
        go_wp2_with (first | (go_at_call 113; refine (isSmall_any _ _).mono ?_; rintro e w' ⟨rfl, rfl⟩) | (go_at_call 114; refine (isDigit_any _ _).mono ?_; rintro e w' ⟨rfl, rfl⟩))
        go_returns
        exact ⟨ret_bool hfin.out.symm, rfl⟩
  · have h0' : inB s[0].toNat 97 122 = false := by simpa using h0
    clear h0
    have hfin : Hid (nameB s = false) := nameB_false s 0 hpos (by simp [chr, h0'])
    go_enter Try.func71, Try.ntmps71
    go_wp2_with (first | (go_at_call 113; refine (isSmall_any _ _).mono ?_; rintro e w' ⟨rfl, rfl⟩) | (go_at_call 114; refine (isDigit_any _ _).mono ?_; rintro e w' ⟨rfl, rfl⟩))
    go_returns
    exact ⟨ret_bool hfin.out.symm, rfl⟩
end Go.Proofs.Ytdkbhoichmcodaa
/- Own text. The order of texts by their bytes. -/
namespace Go.Proofs.Ytdkbhoichmcodaa
open Go.RowKit
set_option linter.unusedVariables false
theorem bless_asymm : ∀ {x y : List UInt8}, Op.bytesLess x y = true → Op.bytesLess y x = false
  | [], _, _ => by cases ‹List UInt8› <;> simp_all [Op.bytesLess]
  | _ :: _, [], h => by simp [Op.bytesLess] at h
  | a :: x, b :: y, h => by
    simp only [Op.bytesLess] at h ⊢
    rcases Nat.lt_trichotomy a.toNat b.toNat with h1 | h1 | h1
    · have e : ¬ b < a := by simp [UInt8.lt_iff_toNat_lt]; omega
      have e' : ¬ b = a := by rintro rfl; omega
      simp [e, e']
    · obtain rfl : a = b := UInt8.toNat_inj.1 h1
      have e : ¬ a < a := by simp
      simp [e] at h ⊢
      exact bless_asymm h
    · have e : ¬ a < b := by simp [UInt8.lt_iff_toNat_lt]; omega
      have e' : ¬ a = b := by rintro rfl; omega
      simp [e, e'] at h
theorem bless_total : ∀ {x y : List UInt8}, Op.bytesLess x y = false → x ≠ y → Op.bytesLess y x = true
  | [], [], _, h => absurd rfl h
  | [], b :: y, h, _ => by simp [Op.bytesLess] at h
  | a :: x, [], _, _ => by simp [Op.bytesLess]
  | a :: x, b :: y, h, hn => by
    simp only [Op.bytesLess] at h ⊢
    rcases Nat.lt_trichotomy a.toNat b.toNat with h1 | h1 | h1
    · have e : a < b := by simp [UInt8.lt_iff_toNat_lt]; omega
      simp [e] at h
    · obtain rfl : a = b := UInt8.toNat_inj.1 h1
      have e : ¬ a < a := by simp
      simp [e] at h ⊢
      exact bless_total h (by rintro rfl; exact hn rfl)
    · have e : b < a := by simp [UInt8.lt_iff_toNat_lt]; omega
      simp [e]
theorem bless_irrefl : ∀ (x : List UInt8), Op.bytesLess x x = false
  | [] => by simp [Op.bytesLess]
  | a :: x => by
    have e : ¬ a < a := by simp
    simp [Op.bytesLess, e, bless_irrefl x]
end Go.Proofs.Ytdkbhoichmcodaa
/- Own text. Whether schemas are right, in plain words. -/
namespace Go.Proofs.Ytdkbhoichmcodaa
open Go.RowKit
set_option linter.unusedVariables false
/-- whether columns are names, none of them one that stands ahead. -/
def colsB (pre : List ByteArray) : List ByteArray → Bool
  | [] => true
  | x :: r => nameB x && !hasS pre x && colsB (pre ++ [x]) r
theorem colsB_step {cs : List ByteArray} {k : Nat} {x : ByteArray} (h : cs[k]? = some x) : colsB (cs.take k) (cs.drop k) = (nameB x && !hasS (cs.take k) x && colsB (cs.take (k + 1)) (cs.drop (k + 1))) := by
  obtain ⟨hk, rfl⟩ := List.getElem?_eq_some_iff.1 h
  rw [List.drop_eq_getElem_cons hk, List.take_succ_eq_append_getElem hk]
  rfl
/-- whether a schema's columns are right. -/
def okCols (cs : List ByteArray) : Bool := inB cs.length 1 12 && colsB [] cs
def okPrevH (p : Option S2) (x : S2) : Bool := match p with
  | none => true
  | some y => Op.bytesLess y.s.toList x.s.toList
/-- whether schemas have names and right columns, and ascend. -/
def okHs : Option S2 → List S2 → Bool
  | _, [] => true
  | p, x :: xs => nameB x.s && okCols x.cs && okPrevH p x && okHs (some x) xs
def prevH (rs : List S2) (k : Nat) : Option S2 := if k = 0 then none else rs[k - 1]?
def okSch (rs : List S2) : Bool := decide (rs.length ≤ 20) && okHs none rs
theorem okHs_step {rs : List S2} {k : Nat} {x : S2} (h : rs[k]? = some x) :
    okHs (prevH rs k) (rs.drop k) = (nameB x.s && okCols x.cs && okPrevH (prevH rs k) x && okHs (prevH rs (k + 1)) (rs.drop (k + 1))) := by
  obtain ⟨hk, rfl⟩ := List.getElem?_eq_some_iff.1 h
  rw [List.drop_eq_getElem_cons hk]
  simp [okHs, prevH, hk]
theorem prevH_zero (rs : List S2) : prevH rs 0 = none := rfl
theorem prevH_succ {rs : List S2} {j : Nat} {y : S2} (h : rs[j]? = some y) : prevH rs (j + 1) = some y := by simp [prevH, h]
end Go.Proofs.Ytdkbhoichmcodaa
/- Own text. Whether a step is right, in plain words. -/
namespace Go.Proofs.Ytdkbhoichmcodaa
open Go.RowKit
set_option linter.unusedVariables false
theorem belowN {N : Nat} {w a : World} (h : Below N w a) (n : Nat) : Below N w (a.drewN n) := ⟨h.os, h.tape, h.output, h.size, h.block⟩
/-- whether the name before, if there is one, is less. -/
def okPrevT (p : Option R3) (x : R3) : Bool := match p with
  | none => true
  | some y => Op.bytesLess y.s.toList x.s.toList
/-- whether relations have names and bags, and ascend. -/
def okTs : Option R3 → List R3 → Bool
  | _, [] => true
  | p, x :: xs => nameB x.s && okBag x.W x.cs && okPrevT p x && okTs (some x) xs
def prevT (rs : List R3) (k : Nat) : Option R3 := if k = 0 then none else rs[k - 1]?
/-- whether relations are a step's change. -/
def okRels (rs : List R3) : Bool := inB rs.length 1 20 && okTs none rs
theorem okTs_step {rs : List R3} {k : Nat} {x : R3} (h : rs[k]? = some x) :
    okTs (prevT rs k) (rs.drop k) = (nameB x.s && okBag x.W x.cs && okPrevT (prevT rs k) x && okTs (prevT rs (k + 1)) (rs.drop (k + 1))) := by
  obtain ⟨hk, rfl⟩ := List.getElem?_eq_some_iff.1 h
  rw [List.drop_eq_getElem_cons hk]
  simp [okTs, prevT, hk]
theorem prevT_zero (rs : List R3) : prevT rs 0 = none := rfl
theorem prevT_succ {rs : List R3} {j : Nat} {y : R3} (h : rs[j]? = some y) : prevT rs (j + 1) = some y := by simp [prevT, h]
/-- whether a step is right. -/
def okStep (x : T5) : Bool :=
  if x.k = 0 then okSch [⟨x.s, x.cs⟩] && x.q.toList.isEmpty && x.rs.isEmpty
  else if x.k = 1 then nameB x.s && x.cs.isEmpty && decide (x.q.size ≤ 1000) && x.rs.isEmpty
  else if x.k = 2 then nameB x.s && x.cs.isEmpty && x.q.toList.isEmpty && x.rs.isEmpty
  else if x.k = 3 then x.s.toList.isEmpty && x.cs.isEmpty && x.q.toList.isEmpty && okRels x.rs
  else false
end Go.Proofs.Ytdkbhoichmcodaa
/- Own text. A step's bytes, in plain words; how many they are. -/
namespace Go.Proofs.Ytdkbhoichmcodaa
open Go.RowKit
set_option linter.unusedVariables false
/-- the bytes of columns. -/
def csL (cs : List ByteArray) : List Int := cs.flatMap fun c => tN c 2
/-- the bytes of a relation. -/
def rlL (r : R3) : List Int := tN r.s 2 ++ tN (putB r.W r.cs) 4
def rlsL (rs : List R3) : List Int := rs.flatMap rlL
/-- the bytes of a step's head, of it with its columns, of it with its question, of the whole. -/
def hdL (x : T5) : List Int := szN x.k 1 ++ tN x.s 2 ++ szN x.cs.length 1
def mdL (x : T5) : List Int := hdL x ++ csL x.cs ++ tN x.q 2 ++ szN x.rs.length 1
def stepL (x : T5) : List Int := mdL x ++ rlsL x.rs
/-- a step's text. -/
def putT (x : T5) : ByteArray := if okStep x = true then strOfNums (stepL x) else ⟨#[]⟩
theorem csL_take {cs : List ByteArray} {k : Nat} {c : ByteArray} (h : cs[k]? = some c) : csL (cs.take (k + 1)) = csL (cs.take k) ++ tN c 2 := by
  obtain ⟨hk, rfl⟩ := List.getElem?_eq_some_iff.1 h
  rw [List.take_succ_eq_append_getElem hk]
  unfold csL
  rw [List.flatMap_append, List.flatMap_singleton]
theorem rlsL_take {rs : List R3} {k : Nat} {r : R3} (h : rs[k]? = some r) : rlsL (rs.take (k + 1)) = rlsL (rs.take k) ++ rlL r := by
  obtain ⟨hk, rfl⟩ := List.getElem?_eq_some_iff.1 h
  rw [List.take_succ_eq_append_getElem hk]
  unfold rlsL
  rw [List.flatMap_append, List.flatMap_singleton]
theorem nameB_size {s : ByteArray} (h : nameB s = true) : s.size ≤ 10 := by
  unfold nameB at h
  rw [Bool.and_eq_true] at h
  have := h.2
  simp [inB] at this
  omega
theorem colsB_names : ∀ {cs pre : List ByteArray}, colsB pre cs = true → ∀ c ∈ cs, nameB c = true
  | [], _, _, c, hc => by cases hc
  | x :: r, pre, h, c, hc => by
    rw [colsB, Bool.and_eq_true, Bool.and_eq_true] at h
    rcases List.mem_cons.1 hc with rfl | hc
    · exact h.1.1
    · exact colsB_names h.2 c hc
theorem okTs_each : ∀ {rs : List R3} {p : Option R3}, okTs p rs = true → ∀ r ∈ rs, nameB r.s = true ∧ okBag r.W r.cs = true
  | [], _, _, c, hc => by cases hc
  | x :: r, p, h, c, hc => by
    rw [okTs, Bool.and_eq_true, Bool.and_eq_true, Bool.and_eq_true] at h
    rcases List.mem_cons.1 hc with rfl | hc
    · exact ⟨h.1.1.1, h.1.1.2⟩
    · exact okTs_each h.2 c hc
theorem putB_size (W : Int) (cs : List C2) : (putB W cs).size ≤ 493201 := by
  unfold putB
  split
  · rename_i h
    obtain ⟨_, _, h1, h2⟩ := okBag_facts h
    rw [nums_size]
    have := csN_len h2
    simp [bagN]
    omega
  · exact Nat.zero_le _
/-- what a right step's parts are bound by. -/
structure Bnd (x : T5) : Prop where
  k0 : 0 ≤ x.k
  k3 : x.k ≤ 3
  s : x.s.size ≤ 10
  cl : x.cs.length ≤ 12
  c : ∀ c ∈ x.cs, c.size ≤ 10
  q : x.q.size ≤ 1000
  rl : x.rs.length ≤ 20
  r : ∀ r ∈ x.rs, r.s.size ≤ 10
theorem empty_size {s : ByteArray} (h : s.toList.isEmpty = true) : s.size = 0 := by
  rw [ByteArray.toList_eq] at h
  have : s.data.toList = [] := by simpa using h
  have e : s.data.size = 0 := by rw [← Array.length_toList, this]; rfl
  exact e
theorem okStep_bnd {x : T5} (h : okStep x = true) : Bnd x := by
  unfold okStep at h
  split at h
  · rename_i hk
    simp only [Bool.and_eq_true] at h
    obtain ⟨⟨h1, h2⟩, h3⟩ := h
    simp only [okSch, okHs, okPrevH, Bool.and_true, Bool.and_eq_true] at h1
    obtain ⟨_, h4, h5⟩ := h1
    simp only [okCols, Bool.and_eq_true] at h5
    have h6 := h5.1
    simp [inB] at h6
    have h7 : x.rs = [] := by simpa using h3
    exact ⟨by omega, by omega, nameB_size h4, by omega, fun c hc => nameB_size (colsB_names h5.2 c hc), by rw [empty_size h2]; omega, by rw [h7]; simp, (by rw [h7]; intro r hr; cases hr)⟩
  split at h
  · rename_i _ hk
    simp only [Bool.and_eq_true] at h
    obtain ⟨⟨⟨h1, h2⟩, h4⟩, h3⟩ := h
    have h7 : x.rs = [] := by simpa using h3
    have h8 : x.cs = [] := by simpa using h2
    exact ⟨by omega, by omega, nameB_size h1, by rw [h8]; simp, (by rw [h8]; intro r hr; cases hr), by simpa using h4, by rw [h7]; simp, (by rw [h7]; intro r hr; cases hr)⟩
  split at h
  · rename_i _ _ hk
    simp only [Bool.and_eq_true] at h
    obtain ⟨⟨⟨h1, h2⟩, h4⟩, h3⟩ := h
    have h7 : x.rs = [] := by simpa using h3
    have h8 : x.cs = [] := by simpa using h2
    exact ⟨by omega, by omega, nameB_size h1, by rw [h8]; simp, (by rw [h8]; intro r hr; cases hr), by rw [empty_size h4]; omega, by rw [h7]; simp, (by rw [h7]; intro r hr; cases hr)⟩
  split at h
  · rename_i _ _ _ hk
    simp only [Bool.and_eq_true] at h
    obtain ⟨⟨⟨h1, h2⟩, h4⟩, h3⟩ := h
    have h8 : x.cs = [] := by simpa using h2
    simp only [okRels, Bool.and_eq_true] at h3
    have h6 := h3.1
    simp [inB] at h6
    exact ⟨by omega, by omega, by rw [empty_size h1]; omega, by rw [h8]; simp, (by rw [h8]; intro r hr; cases hr), by rw [empty_size h4]; omega, by omega, fun r hr => nameB_size (okTs_each h3.2 r hr).1⟩
  · cases h
theorem csL_len {cs : List ByteArray} (h : ∀ c ∈ cs, c.size ≤ 10) : (csL cs).length ≤ 12 * cs.length := by
  induction cs with
  | nil => simp [csL]
  | cons a l ih =>
    have h1 := ih fun c hc => h c (List.mem_cons_of_mem _ hc)
    have h2 := h a List.mem_cons_self
    simp only [csL, List.flatMap_cons, List.length_append, tN_len, List.length_cons] at h1 ⊢
    omega
theorem rlL_len {r : R3} (h : r.s.size ≤ 10) : (rlL r).length ≤ 493300 := by
  have := putB_size r.W r.cs
  simp only [rlL, List.length_append, tN_len]
  omega
theorem rlsL_len {rs : List R3} (h : ∀ r ∈ rs, r.s.size ≤ 10) : (rlsL rs).length ≤ 493300 * rs.length := by
  induction rs with
  | nil => simp [rlsL]
  | cons a l ih =>
    have h1 := ih fun c hc => h c (List.mem_cons_of_mem _ hc)
    have h2 := rlL_len (h a List.mem_cons_self)
    simp only [rlsL, List.flatMap_cons, List.length_append, List.length_cons] at h1 ⊢
    omega
theorem hdL_len {x : T5} (h : Bnd x) : (hdL x).length ≤ 14 := by
  have := h.s
  simp only [hdL, List.length_append, tN_len, szN_len]
  omega
theorem hc_len {x : T5} (h : Bnd x) (k : Nat) : (hdL x ++ csL (x.cs.take k)).length ≤ 158 := by
  have h1 := hdL_len h
  have h2 := csL_len (cs := x.cs.take k) fun c hc => h.c c (List.mem_of_mem_take hc)
  have h3 := h.cl
  rw [List.length_append]
  rw [List.length_take] at h2
  omega
theorem mdL_len {x : T5} (h : Bnd x) : (mdL x).length ≤ 1161 := by
  have h1 := hc_len h x.cs.length
  have h2 := h.q
  rw [List.take_length, List.length_append] at h1
  simp only [mdL, List.length_append, tN_len, szN_len]
  omega
theorem md_len {x : T5} (h : Bnd x) (k : Nat) : (mdL x ++ rlsL (x.rs.take k)).length ≤ 10000000 := by
  have h1 := mdL_len h
  have h2 := rlsL_len (rs := x.rs.take k) fun c hc => h.r c (List.mem_of_mem_take hc)
  have h3 := h.rl
  rw [List.length_append]
  rw [List.length_take] at h2
  omega
theorem stepL_len {x : T5} (h : Bnd x) : (stepL x).length ≤ 10000000 := by
  have := md_len h x.rs.length
  rwa [List.take_length] at this
theorem mdL_ne (x : T5) : stepL x ≠ [] := by
  intro e
  have : (stepL x).length = 0 := by rw [e]; rfl
  simp only [stepL, mdL, hdL, List.length_append, tN_len, szN_len] at this
  omega
end Go.Proofs.Ytdkbhoichmcodaa
