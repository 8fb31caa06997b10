/- Own texts, joined: contracts that the law's proof goes by. -/
import Derived.Test.YtbmoimfimeiglaaGreatGLFnLog16
import Derived.Test.YtbmoimfimeiglaaGreatGLFnLog7
import Derived.Test.YtbmoimfimeiglaaGreatGLFnLog4
import Derived.Handy
import Derived.Deep.RegionHeld3
import Derived.Test.YtbmoimfimeiglaaGreatGLFnLog13
import Derived.Test.YtbmoimfimeiglaaGreatGLFnLog15
import Derived.Test.YtbmoimfimeiglaaGreatGLFnLog35
namespace Go.Proofs.YtbmoimfimeiglaaGreat
open Go.RowKit Go.Deep
set_option linter.unusedVariables false
structure Pk (w : World) (N P : Nat) (u : Value) (L : List Int) : Prop where
  le : N ≤ P
  blk : w.heap[P]? = some (.cells #[u] 66 (0, 0))
  own : w.ownsRow N 5 1 u L.length (L.map (Value.int .u8))
theorem own_type {w : World} {N n e s g : Nat} {v : Value} {xs : List Value} {c : Array Value} {t : TypeId} {l : Nat × Nat} (h : w.ownsRow N e s v n xs) (hb : w.heap[g]? = some (.cells c t l)) (ht : t ≠ e) : v.ownBlock ≠ some g := by
  intro e'
  rcases h.2 with ⟨rfl, _⟩ | ⟨g', cap, cur, rfl, _, hc, _⟩
  · simp [Value.ownBlock] at e'
  · simp [Value.ownBlock] at e'
    subst e'
    rw [hb] at hc
    simp at hc
    exact ht hc.2.1
theorem Pk.ne {w : World} {N P : Nat} {u : Value} {L : List Int} (h : Pk w N P u L) : u.ownBlock ≠ some P := own_type h.own h.blk (by decide)
theorem set_one {w : World} {P : Nat} {u v : Value} {t : TypeId} (h : w.heap[P]? = some (.cells #[u] t (0, 0))) : (w.setCell ⟨P, 0, none⟩ v).heap[P]? = some (.cells #[v] t (0, 0)) := by
  simp [World.setCell, Array.getElem?_modify, h]
structure Kp (P : Nat) (w w' : World) : Prop where
  size : w.heap.size ≤ w'.heap.size
  block : ∀ b c t l, w.heap[b]? = some (.cells c t l) → t ≠ 5 → b ≠ P → w'.heap[b]? = w.heap[b]?
theorem Kp.trans {P : Nat} {w w1 w2 : World} (h : Kp P w w1) (k : Kp P w1 w2) : Kp P w w2 :=
  ⟨Nat.le_trans h.size k.size, fun b c t l hb ht hP => by
    have e := h.block b c t l hb ht hP
    exact (k.block b c t l (e.trans hb) ht hP).trans e⟩
theorem lt_of_heap {w : World} {b : Nat} {o : Obj} (h : w.heap[b]? = some o) : b < w.heap.size := by
  rcases Nat.lt_or_ge b w.heap.size with h' | h'
  · exact h'
  · simp [Array.getElem?_eq_none h'] at h
theorem Kp.of_below {P : Nat} {w w' : World} (h : Below w.heap.size w w') : Kp P w w' := ⟨h.size, fun b c t l hb _ _ => h.block b (lt_of_heap hb)⟩
theorem Pk.lt {w : World} {N P : Nat} {u : Value} {L : List Int} (h : Pk w N P u L) : P < w.heap.size := lt_of_heap h.blk
theorem Pk.keep {w w' : World} {N P : Nat} {u : Value} {L : List Int} (h : Pk w N P u L) (hb : Below w.heap.size w w') : Pk w' N P u L :=
  ⟨h.le, (hb.block P h.lt).trans h.blk, ownsRow_keep h.own fun b hv => hb.block b (ownsRow_lt h.own b hv).2⟩
theorem Pk.eq {w : World} {N P : Nat} {u : Value} {L M : List Int} (h : Pk w N P u L) (e : L = M) : Pk w N P u M := e ▸ h
theorem Pk.new (w : World) (N : Nat) (hN : N ≤ w.heap.size) : Pk (w.alloc (.cells #[.slice none 0 0] 66)) N w.heap.size (.slice none 0 0) [] :=
  ⟨hN, heap_alloc_new w _, ⟨rfl, .inl ⟨rfl, rfl⟩⟩⟩
set_option maxHeartbeats 2000000 in
set_option maxRecDepth 100000 in
theorem ladd_any (N P : Nat) (u : Value) (L M : List Int) (ad : Addr) (m c : Nat) (w : World) (h : Pk w N P u L) (hm : m = M.length) (hnews : ∀ (j : Nat) (y : Value), (M.map (Value.int .u8))[j]? = some y → w.cell? (ad.add j) = some y) (hlen : L.length + M.length ≤ 140737488355328) :
    Calls Tryz.prog 62 #[.pointer (some ⟨P, 0, none⟩), .slice (some ad) m c] w fun e w' => e = .returned (.tuple #[]) ∧ (∃ u', Pk w' N P u' (L ++ M)) ∧ Below N w w' ∧ Kp P w w' := by
  subst hm
  obtain ⟨i0, hi, hz0, hz1, hz2⟩ := info_parts info5
  have hlt := h.lt
  have hne := h.ne
  obtain ⟨hle, hbk, hown⟩ := h
  have c0 : w.cell? ⟨P, 0, none⟩ = some u := by rw [Lib.cell_of_heap hbk]; rfl
  go_enter Tryz.func62, Tryz.ntmps62
  go_wp2_with (at_builtin; refine wpList_append_own _ rfl _ _ 22 rfl N 5 i0 (.int .u8 0) 1 1 Tryz.underlying22 hi hz0 hz1 hz2 rfl (by decide) _ _ _ rfl hown ad M.length c (M.map (Value.int .u8)) rfl (by simp) hnews ?c2 ?c3 ?c4 ?c5 ?_)
  case c2 => intro y hy; obtain ⟨z, _, rfl⟩ := List.mem_map.1 hy; rfl
  case c3 => unfold maxLen; omega
  case c4 => omega
  case c5 => omega
  intro v' w2 hown' hgrow _
  have hbP : w2.heap[P]? = some (.cells #[u] 66 (0, 0)) := (hgrow.block P hlt (fun e => hne e.symm)).trans hbk
  have d0 : w2.cell? ⟨P, 0, none⟩ = some u := by rw [Lib.cell_of_heap hbP]; rfl
  have f0 : w2.frozen? ⟨P, 0, none⟩ = false := Lib.frozen_of_heap hbP 0
  have hne' := own_type hown' hbP (by decide)
  have HB : Hid (Below N w w2) := (Below.refl N w).grown hgrow (by omega) (fun k hk => (hown.lt k hk).1)
  have HK : Hid (∀ b c t l, w.heap[b]? = some (.cells c t l) → t ≠ 5 → b ≠ P → w2.heap[b]? = w.heap[b]?) := fun b c t l hb ht hP => hgrow.block b (lt_of_heap hb) (fun e => own_type hown hb ht e.symm)
  have hs : ∃ ao n' cap, v' = .slice ao n' cap := by
    rcases hown'.2 with ⟨hv, _⟩ | ⟨g, cap, cur, hv, _⟩ <;> exact ⟨_, _, _, hv⟩
  obtain ⟨ao, n', cap, rfl⟩ := hs
  have hsz := hgrow.size
  clear hgrow hown
  go_wp2
  go_end0
  refine ⟨rfl, ⟨_, hle, set_one hbP, ?_⟩, HB.out.setCell (p := ⟨P, 0, none⟩) hle _, ⟨by simpa using hsz, fun b c t l hb ht hP => ?_⟩⟩
  · rw [List.map_append, List.length_append]
    exact ownsRow_keep hown' fun b hv => Below.heap_setCell _ _ _ _ (by rintro rfl; exact hne' hv)
  · exact (Below.heap_setCell _ _ _ _ (by simpa using hP)).trans (HK.out b c t l hb ht hP)
theorem own_row {w : World} {N n : Nat} {v : Value} {L : List Int} (h : w.ownsRow N 5 1 v n (L.map (Value.int .u8))) (hn : 0 < n) :
    ∃ g cap, v = .slice (some ⟨g, 0, none⟩) n cap ∧ N ≤ g ∧ g < w.heap.size ∧ n ≤ cap ∧ cap ≤ maxLen ∧ ∀ (j : Nat) (y : Value), (L.map (Value.int .u8))[j]? = some y → w.cell? ⟨g, j, none⟩ = some y := by
  have h1 := h.1
  rcases h.2 with ⟨_, h0⟩ | ⟨g, cap, cur, rfl, hg, hc, hn', hm, hcs, htk⟩
  · omega
  · refine ⟨g, cap, rfl, hg, lt_of_heap hc, hn', hm, fun j y hy => ?_⟩
    rw [Lib.cell_of_heap hc, ← Array.getElem?_toList]
    rw [← htk, List.getElem?_take] at hy
    split at hy
    · exact hy
    · cases hy
theorem szN_num {n : Int} (h0 : 0 ≤ n) (h1 : n ≤ 9223372036854775807) : (numL n 8).drop 8 = szN n 1 ∧ (numL n 8).drop 7 = szN n 2 ∧ (numL n 8).drop 5 = szN n 4 := by
  have hw : IntKind.u64.wrap n = n := by rw [IntKind.wrap_u64]; omega
  refine ⟨?_, ?_, ?_⟩ <;> simp [numL, numB, szN, List.range_succ, hw]
set_option maxHeartbeats 2000000 in
set_option maxRecDepth 100000 in
theorem number_any (N P : Nat) (u : Value) (L : List Int) (n : Int) (k : Nat) (w : World) (h : Pk w N P u L) (h0 : 0 ≤ n) (h1 : n ≤ 9223372036854775807) (hk : k = 1 ∨ k = 2 ∨ k = 4) (hlen : L.length ≤ 100000000000000) :
    Calls Tryz.prog 30 #[.pointer (some ⟨P, 0, none⟩), .int .i64 n, .int .i64 k] w fun e w' => e = .returned (.tuple #[]) ∧ (∃ u', Pk w' N P u' (L ++ szN n k)) ∧ Below N w w' ∧ Kp P w w' := by
  have hd : (numL n 8).drop (9 - k) = szN n k := by
    have := szN_num h0 h1
    rcases hk with rfl | rfl | rfl
    · exact this.1
    · exact this.2.1
    · exact this.2.2
  have hN := h.lt
  have hle := h.le
  go_enter Tryz.func30, Tryz.ntmps30
  go_wp2_with fail
  refine Calls.mono (numberBytes_any n w) ?_
  rintro e w1 ⟨v, rfl, hown, hb1⟩
  obtain ⟨g, cap, rfl, hg0, hg1, hc, hcm, hcell⟩ := own_row hown (by omega)
  have hP1 := h.keep hb1
  have bel1 : Below N w w1 := hb1.mono (by omega)
  have hK1 : Kp P w w1 := Kp.of_below hb1
  clear hown h hb1
  have hadd : ∀ (q : Nat), q + k = 9 → ∀ (c : Nat) (wz : World), Below w1.heap.size w1 wz → Calls Tryz.prog 62 #[.pointer (some ⟨P, 0, none⟩), .slice (some ⟨g, q, none⟩) k c] wz fun e w' => e = .returned (.tuple #[]) ∧ (∃ u', Pk w' N P u' (L ++ szN n k)) ∧ Below N w w' ∧ Kp P w w' := by
    intro q hq c wz hz
    refine (ladd_any N P u L (szN n k) ⟨g, q, none⟩ k c wz (hP1.keep hz) (szN_len n k).symm (fun j y hy => ?_) (by rw [szN_len]; omega)).mono ?_
    · have e : ((⟨g, q, none⟩ : Addr).add j) = ⟨g, q + j, none⟩ := by unfold Addr.add; split <;> simp_all
      rw [e]
      refine (hz.cell (p := ⟨g, q + j, none⟩) hg1).trans (hcell (q + j) y ?_)
      rw [← hd, List.map_drop, List.getElem?_drop, show 9 - k = q by omega] at hy
      exact hy
    · rintro e w2 ⟨h1, h2, h3, h4⟩
      exact ⟨h1, h2, (bel1.trans (hz.mono (Nat.le_of_lt (Nat.lt_of_le_of_lt hle hP1.lt)))).trans h3, (hK1.trans (Kp.of_below hz)).trans h4⟩
  have HA : Hid (∀ (q : Nat), q + k = 9 → ∀ (c : Nat) (wz : World), Below w1.heap.size w1 wz → Calls Tryz.prog 62 #[.pointer (some ⟨P, 0, none⟩), .slice (some ⟨g, q, none⟩) k c] wz fun e w' => e = .returned (.tuple #[]) ∧ (∃ u', Pk w' N P u' (L ++ szN n k)) ∧ Below N w w' ∧ Kp P w w') := hadd
  clear hadd hcell hd
  unfold maxLen at hcm
  have hci : (9 : Int) ≤ (cap : Int) := by omega
  have hw8 : IntKind.i64.wrap 8 = 8 := by rw [IntKind.wrap_i64]; omega
  have hw7 : IntKind.i64.wrap 7 = 7 := by rw [IntKind.wrap_i64]; omega
  have hw5 : IntKind.i64.wrap 5 = 5 := by rw [IntKind.wrap_i64]; omega
  have hc8 : ¬ cap = 8 := by omega
  have hc7 : ¬ cap = 7 := by omega
  have hc5 : ¬ cap = 5 := by omega
  rcases hk with rfl | rfl | rfl
  · go_wp2_with fail
    go_region_held3 (fun _ => True) (trivial) (first | (go_at_call 62; refine Calls.mono (HA.out 8 rfl _ _ (bex)) ?_; rintro e w2 ⟨rfl, hpk, hbl, hkp⟩) | fail)
    all_goals go_wp2
    all_goals go_end0
    all_goals exact ⟨rfl, hpk, hbl, hkp⟩
  · go_wp2_with fail
    go_region_held3 (fun _ => True) (trivial) (first | (go_at_call 62; refine Calls.mono (HA.out 7 rfl _ _ (bex)) ?_; rintro e w2 ⟨rfl, hpk, hbl, hkp⟩) | fail)
    all_goals go_wp2
    all_goals go_end0
    all_goals exact ⟨rfl, hpk, hbl, hkp⟩
  · go_wp2_with fail
    go_region_held3 (fun _ => True) (trivial) (first | (go_at_call 62; refine Calls.mono (HA.out 5 rfl _ _ (bex)) ?_; rintro e w2 ⟨rfl, hpk, hbl, hkp⟩) | fail)
    all_goals go_wp2
    all_goals go_end0
    all_goals exact ⟨rfl, hpk, hbl, hkp⟩
theorem strCells_tx (s : ByteArray) : (txN s).map (Value.int .u8) = Lib.strCells s := by simp [txN, nb, Lib.strCells, List.map_map]
set_option maxHeartbeats 2000000 in
set_option maxRecDepth 100000 in
theorem text_any (N P : Nat) (u : Value) (L : List Int) (s : ByteArray) (k : Nat) (w : World) (h : Pk w N P u L) (hs : s.size ≤ 1000000000) (hk : k = 1 ∨ k = 2 ∨ k = 4) (hlen : L.length ≤ 10000000000000) :
    Calls Tryz.prog 31 #[.pointer (some ⟨P, 0, none⟩), .string s, .int .i64 k] w fun e w' => e = .returned (.tuple #[]) ∧ (∃ u', Pk w' N P u' (L ++ tN s k)) ∧ Below N w w' ∧ Kp P w w' := by
  go_enter Tryz.func31, Tryz.ntmps31
  go_wp2_with fail
  refine Calls.mono (number_any N P u L s.size k w h (by omega) (by omega) hk (by omega)) ?_
  rintro e w1 ⟨rfl, ⟨u1, hp1⟩, hb1, hk1⟩
  have hcv := run_bytes_of_string (P := Tryz.prog) w1 9 22 5 s Tryz.underlying9 Tryz.underlying22 Tryz.underlying5
  generalize hg : grownCap w1 s.size 0 5 = gc at hcv
  have hNs := hp1.lt
  have hle := hp1.le
  go_wp2_with (first | (go_at_call 62; refine Calls.mono (ladd_any N P u1 (L ++ szN s.size k) (txN s) ⟨w1.heap.size, 0, none⟩ s.size gc _ (hp1.keep (bex)) (txN_len s).symm (by rw [show (txN s).map (Value.int .u8) = Lib.strCells s from strCells_tx s]; exact bytes_cells _ _ _ _) ?hln) ?_) | fail)
  case hln => rw [List.length_append, szN_len, txN_len]; rcases hk with rfl | rfl | rfl <;> omega
  rintro e w2 ⟨rfl, ⟨u2, hp2⟩, hb2, hk2⟩
  have HB : Hid (Below N w w2) := by
    refine hb1.trans (Below.trans ?_ hb2)
    refine Below.mono (?_ : Below w1.heap.size w1 _) (by omega)
    exact bex
  have HK : Hid (Kp P w w2) := by
    refine hk1.trans (Kp.trans (Kp.of_below ?_) hk2)
    exact bex
  clear hb2 hk2 hcv
  go_wp2
  go_end0
  exact ⟨rfl, ⟨u2, hp2.eq (by rw [List.append_assoc]; rfl)⟩, HB.out, HK.out⟩
set_option maxHeartbeats 2000000 in
set_option maxRecDepth 100000 in
theorem packed_any (N P : Nat) (u : Value) (L : List Int) (w : World) (h : Pk w N P u L) (hl : L ≠ []) :
    Calls Tryz.prog 33 #[.pointer (some ⟨P, 0, none⟩)] w fun e w' => e = .returned (.string (strOfNums L)) ∧ w' = w := by
  have hn : 0 < L.length := List.length_pos_iff.2 hl
  have c0 : w.cell? ⟨P, 0, none⟩ = some u := by rw [Lib.cell_of_heap h.blk]; rfl
  have hcv := conv_own L h.own hn
  obtain ⟨g, cap, rfl, _⟩ := own_row h.own hn
  go_enter Tryz.func33, Tryz.ntmps33
  go_wp2
  go_returns
  exact ⟨rfl, rfl⟩
end Go.Proofs.YtbmoimfimeiglaaGreat
namespace Go.Proofs.YtbmoimfimeiglaaGreat
open Go.RowKit
set_option linter.unusedVariables false
set_option maxHeartbeats 4000000 in
set_option maxRecDepth 100000 in
theorem implPutBag_any (W : Int) (v : Value) (cs : List C2) (w : World) (hw : CsWf cs) (hr : RowsIs w v cs) :
    Calls Tryz.prog 32 #[.agg #[.int .i64 W, v]] w fun e w' => e = .returned (.string (putB W cs)) ∧ Below w.heap.size w w' := by
  obtain ⟨i0, hi, hi0, hi1, hi2⟩ := info_parts info5
  have hr0 := hr
  obtain ⟨a, c, b, o, rfl, hl, hc, ha⟩ := hr.pick
  unfold maxLen at hc
  go_enter Tryz.func32, Tryz.ntmps32
  go_wp2_with fail
  refine Calls.mono (implBagOk_any W (.slice a cs.length c) cs _ hw (hr0.below ?hb)) ?_
  case hb => exact bela
  rintro e w1 ⟨rfl, hb1⟩
  have hz1 := hb1.size
  simp only [World.size_alloc] at hz1
  have p0 : w1.cell? ⟨w.heap.size, 0, none⟩ = some (.int .i64 W) := cell_later hb1 (by go_simp)
  have p1 : w1.cell? ⟨w.heap.size, 1, none⟩ = some (.slice a cs.length c) := cell_later hb1 (by go_simp)
  have bel1 : Below w.heap.size w w1 := bela
  have hsz1 : w.heap.size < w1.heap.size := by omega
  by_cases hok : okBag W cs = true
  rotate_left
  · have hf : okBag W cs = false := by simpa using hok
    go_wp2
    go_returns
    exact ⟨by simp [putB, hf], bel1⟩
  obtain ⟨hW0, hW1, hlen, hrl⟩ := okBag_facts hok
  have hWm : W % 256 = W := by omega
  have HP : Hid (putB W cs = strOfNums (bagN W cs)) := by simp [Hid, putB, hok]
  have hr1 := hr0.below bel1
  clear hr hr0 ha
  obtain ⟨a', c', b, o, hv', _, _, ha⟩ := hr1.pick
  obtain ⟨rfl, rfl⟩ : a = a' ∧ c = c' := by simpa using hv'
  clear hv' hr1
  go_wp2
  go_loopw [3, 16] (fun v i wr => ∃ k : Nat, k ≤ cs.length ∧ i = .int .i64 k ∧ wr.ownsRow w1.heap.size 5 1 v (bagN W (cs.take k)).length ((bagN W (cs.take k)).map (Value.int .u8)) ∧ Below w1.heap.size w1 wr) (fun _ i _ => cs.length - (intOf i).toNat)
  case atStart => exact ⟨0, Nat.zero_le _, rfl, own_start w1 W, bela⟩
  case round =>
    obtain ⟨k, hk, rfl, hown, hb⟩ := hrel
    have hzb := hb.size
    have hkl : (bagN W (cs.take k)).length ≤ 500000 := by
      have := csN_len (cs := cs.take k) fun x hx => hrl x (List.mem_of_mem_take hx)
      have h2 : (cs.take k).length ≤ 400 := by simp; omega
      simp only [bagN, List.length_cons]; omega
    by_cases hlt : k < cs.length
    · obtain ⟨rfl, hblt, hL⟩ := ha k hlt
      obtain ⟨x, hx⟩ : ∃ x, cs[k]? = some x := ⟨cs[k], by simp [hlt]⟩
      obtain ⟨u, e0, hR, e2⟩ := hL k x hx
      have c0 : wr.cell? ⟨b, o + k * 2, none⟩ = some u := (hb.cell (p := ⟨b, o + k * 2, none⟩) hblt).trans e0
      have c1 : wr.cell? ⟨b, o + k * 2 + 1, none⟩ = some (.int .i64 x.n) := (hb.cell (p := ⟨b, o + k * 2 + 1, none⟩) hblt).trans e2
      have hbr : b < wr.heap.size := Nat.lt_of_lt_of_le hblt hzb
      obtain ⟨ur, lr, cr, rfl⟩ := hR.shape
      have HX : Hid (cs[k]? = some x) := hx
      clear e0 e2
      have hxw : VsWf x.r := (hw x (List.mem_of_getElem? hx)).1
      have hxl : x.r.length ≤ 12 := hrl x (List.mem_of_getElem? hx)
      have hxu := rowU_len x.r
      clear ha hL hx hw hrl
      go_wp2_with fail
      refine Calls.mono (numberBytes_any x.n _) ?_
      rintro e w2 ⟨y, rfl, hy, hb2⟩
      have hz2 := hb2.size
      simp at hz2
      have hown2 := own_below (hown.alloc (.cells #[.slice ur lr cr, .int .i64 x.n] 112)) hb2
      have q0 : w2.cell? ⟨wr.heap.size, 0, none⟩ = some (.slice ur lr cr) := cell_later hb2 (by go_simp)
      have bel2 : Below w1.heap.size w1 w2 := bela
      obtain ⟨g, cap, rfl, hcl⟩ := own_cells hy
      go_wp2_with (at_builtin; refine wpList_append_own _ rfl _ _ 22 rfl w1.heap.size 5 i0 (.int .u8 0) 1 1 Tryz.underlying22 hi hi0 hi1 hi2 rfl (by decide) _ _ _ rfl hown2 ⟨g, 0, none⟩ 9 cap ((numL x.n 8).map (Value.int .u8)) rfl (by simp [numL_len]) hcl ?c2 ?c3 ?c4 ?c5 ?_)
      case c2 => intro u hu; obtain ⟨n, _, rfl⟩ := List.mem_map.1 hu; rfl
      case c3 => unfold maxLen; omega
      case c4 => omega
      case c5 => omega
      intro v3 w3 hown3 hgr3 _
      have hz3 := hgr3.size
      have bel3 : Below w1.heap.size w1 w3 := bel2.grown hgr3 (by omega) (fun k hk => (hown2.lt k hk).1)
      have q3 : w3.cell? ⟨wr.heap.size, 0, none⟩ = some (.slice ur lr cr) := (World.cell?_of_block (w := w2) (hgr3.block wr.heap.size (by omega) (fun e => by have := (hown.lt _ e.symm).2; omega))).trans q0
      clear hown2 hgr3 hown q0 hcl hy
      go_wp2_with fail
      refine Calls.mono (rowBytes_any _ x.r _ (hR.below bel3) hxw (by omega)) ?_
      rintro e w4 ⟨rfl, hb4⟩
      have hz4 := hb4.size
      have hown4 := own_below hown3 hb4
      have bel4 : Below w1.heap.size w1 w4 := bela
      clear hown3
      go_wp2_with (at_builtin; refine Lib.wpList_append_own_string _ rfl _ _ 22 9 rfl w1.heap.size 5 i0 Tryz.underlying22 Tryz.underlying9 hi hi0 hi1 hi2 _ _ _ rfl hown4 ⟨(rowU x.r).toArray⟩ rfl ?d3 ?d4 ?d5 ?_)
      case d3 => have : (⟨(rowU x.r).toArray⟩ : ByteArray).size = (rowU x.r).length := by simp [ByteArray.size]
                 unfold maxLen; omega
      case d4 => have : (⟨(rowU x.r).toArray⟩ : ByteArray).size = (rowU x.r).length := by simp [ByteArray.size]
                 omega
      case d5 => omega
      intro v5 w5 hown5 hgr5 _
      have hz5 := hgr5.size
      have bel5 : Below w1.heap.size w1 w5 := bel4.grown hgr5 (by omega) (fun k hk => (hown4.lt k hk).1)
      have eN : bagN W (cs.take (k + 1)) = bagN W (cs.take k) ++ (numL x.n 8 ++ nb (rowU x.r)) := by unfold bagN; rw [csN_take HX.out]; rfl
      have R5 : w5.ownsRow w1.heap.size 5 1 v5 (bagN W (cs.take (k + 1))).length ((bagN W (cs.take (k + 1))).map (Value.int .u8)) := by
        refine own_eq hown5 ?_ ?_
        · rw [eN]; simp only [List.length_append, numL_len, nb_len]; simp; omega
        · rw [eN]; simp only [List.map_append, nb_cells]; rfl
      clear hown5 hgr5 hown4 eN
      go_wp2
      go_roundw
      case rel => exact ⟨k + 1, hlt, by simp, R5, bel5⟩
      case measure => simp [intOf]; omega
    · clear ha hw hrl
      obtain rfl : k = cs.length := by omega
      rw [List.take_length] at hown
      have hcv := conv_own (bagN W cs) hown (by simp [bagN])
      go_wp2
      go_returns
      exact ⟨ret_str HP.out.symm, bel1.trans (hb.mono (by omega))⟩
end Go.Proofs.YtbmoimfimeiglaaGreat
namespace Go.Proofs.YtbmoimfimeiglaaGreat
open Go.RowKit Go.Deep
set_option linter.unusedVariables false
theorem putT_no {x : T5} (h : okStep x = false) : putT x = ⟨#[]⟩ := by simp [putT, h]
theorem putT_yes {x : T5} (h : okStep x = true) : putT x = strOfNums (stepL x) := by simp [putT, h]
set_option maxHeartbeats 4000000 in
set_option maxRecDepth 100000 in
theorem implPutStep_any (x : T5) (uc ur : Value) (w : World) (hw : x.wf) (hr : StpIs w uc ur x) :
    Calls Tryz.prog 8 #[(.agg #[.int .i64 x.k, .string x.s, uc, .string x.q, ur])] w fun e w' => e = .returned (.string (putT x)) ∧ Below w.heap.size w w' := by
  obtain ⟨⟨ac, cc, rfl, _, _⟩, ar, cr, rfl, _, _⟩ := hr.shape
  obtain ⟨bo, HO⟩ : ∃ b, Hid (okStep x = b) := ⟨_, rfl⟩
  go_enter Tryz.func8, Tryz.ntmps8
  go_wp2_with fail
  refine Calls.mono (implStepOk_any x (.slice ac x.cs.length cc) (.slice ar x.rs.length cr) _ hw (hr.below ?hb)) ?_
  case hb => exact bex
  rw [HO.out]
  rintro e w1 ⟨rfl, hb1⟩
  have hz1 := hb1.size
  simp only [World.size_alloc] at hz1
  have b0 : w1.cell? ⟨w.heap.size, 0, none⟩ = some (.int .i64 x.k) := cell_later hb1 (by go_simp)
  have b1 : w1.cell? ⟨w.heap.size, 1, none⟩ = some (.string x.s) := cell_later hb1 (by go_simp)
  have b2 : w1.cell? ⟨w.heap.size, 2, none⟩ = some (.slice ac x.cs.length cc) := cell_later hb1 (by go_simp)
  have b3 : w1.cell? ⟨w.heap.size, 3, none⟩ = some (.string x.q) := cell_later hb1 (by go_simp)
  have b4 : w1.cell? ⟨w.heap.size, 4, none⟩ = some (.slice ar x.rs.length cr) := cell_later hb1 (by go_simp)
  have bel1 : Below w.heap.size w w1 := bex
  clear hb1
  have hN : w.heap.size < w1.heap.size := by omega
  cases bo with
  | false =>
    have HT : Hid (putT x = ⟨#[]⟩) := putT_no HO.out
    go_wp2_with fail
    go_returns
    exact ⟨by rw [HT.out]; rfl, bel1⟩
  | true =>
  have HT : Hid (putT x = strOfNums (stepL x)) := putT_yes HO.out
  have hB := okStep_bnd HO.out
  have hk0 := hB.k0
  have hk3 := hB.k3
  have hbs := hB.s
  have hbq := hB.q
  have hcl := hB.cl
  have hrl := hB.rl
  have HHD := hdL_len hB
  have HMD := mdL_len hB
  obtain ⟨⟨gs, hS⟩, hR⟩ := hr
  go_wp2_with fail
  have hp := Pk.new w1 w1.heap.size (Nat.le_refl _)
  have hbN : Below w1.heap.size w1 (w1.alloc (.cells #[.slice none 0 0] 66)) := bex
  have c0 : (w1.alloc (.cells #[.slice none 0 0] 66)).cell? ⟨w.heap.size, 0, none⟩ = some (.int .i64 x.k) := (hbN.cell (p := ⟨w.heap.size, 0, none⟩) hN).trans b0
  have c1 : (w1.alloc (.cells #[.slice none 0 0] 66)).cell? ⟨w.heap.size, 1, none⟩ = some (.string x.s) := (hbN.cell (p := ⟨w.heap.size, 1, none⟩) hN).trans b1
  have c2 : (w1.alloc (.cells #[.slice none 0 0] 66)).cell? ⟨w.heap.size, 2, none⟩ = some (.slice ac x.cs.length cc) := (hbN.cell (p := ⟨w.heap.size, 2, none⟩) hN).trans b2
  have c3 : (w1.alloc (.cells #[.slice none 0 0] 66)).cell? ⟨w.heap.size, 3, none⟩ = some (.string x.q) := (hbN.cell (p := ⟨w.heap.size, 3, none⟩) hN).trans b3
  have c4 : (w1.alloc (.cells #[.slice none 0 0] 66)).cell? ⟨w.heap.size, 4, none⟩ = some (.slice ar x.rs.length cr) := (hbN.cell (p := ⟨w.heap.size, 4, none⟩) hN).trans b4
  generalize w1.alloc (.cells #[.slice none 0 0] 66) = w2 at hp hbN c0 c1 c2 c3 c4 ⊢
  refine Calls.mono (number_any w1.heap.size w1.heap.size _ [] x.k 1 w2 hp hk0 (by omega) (Or.inl rfl) (by simp)) ?_
  rintro e w3 ⟨rfl, ⟨uw3, hpw3⟩, hbw3, hkw3⟩
  replace hbN : Below w1.heap.size w1 w3 := hbN.trans hbw3
  clear hbw3 hkw3
  clear c0 c1 c2 c3 c4
  have c0 : w3.cell? ⟨w.heap.size, 0, none⟩ = some (.int .i64 x.k) := (hbN.cell (p := ⟨w.heap.size, 0, none⟩) hN).trans b0
  have c1 : w3.cell? ⟨w.heap.size, 1, none⟩ = some (.string x.s) := (hbN.cell (p := ⟨w.heap.size, 1, none⟩) hN).trans b1
  have c2 : w3.cell? ⟨w.heap.size, 2, none⟩ = some (.slice ac x.cs.length cc) := (hbN.cell (p := ⟨w.heap.size, 2, none⟩) hN).trans b2
  have c3 : w3.cell? ⟨w.heap.size, 3, none⟩ = some (.string x.q) := (hbN.cell (p := ⟨w.heap.size, 3, none⟩) hN).trans b3
  have c4 : w3.cell? ⟨w.heap.size, 4, none⟩ = some (.slice ar x.rs.length cr) := (hbN.cell (p := ⟨w.heap.size, 4, none⟩) hN).trans b4
  go_wp2_with fail
  refine Calls.mono (text_any w1.heap.size w1.heap.size _ _ x.s 2 w3 hpw3 (by omega) (Or.inr (Or.inl rfl)) (by simp [szN_len])) ?_
  rintro e w4 ⟨rfl, ⟨uw4, hpw4⟩, hbw4, hkw4⟩
  replace hbN : Below w1.heap.size w1 w4 := hbN.trans hbw4
  clear hbw4 hkw4
  clear c0 c1 c2 c3 c4
  have c0 : w4.cell? ⟨w.heap.size, 0, none⟩ = some (.int .i64 x.k) := (hbN.cell (p := ⟨w.heap.size, 0, none⟩) hN).trans b0
  have c1 : w4.cell? ⟨w.heap.size, 1, none⟩ = some (.string x.s) := (hbN.cell (p := ⟨w.heap.size, 1, none⟩) hN).trans b1
  have c2 : w4.cell? ⟨w.heap.size, 2, none⟩ = some (.slice ac x.cs.length cc) := (hbN.cell (p := ⟨w.heap.size, 2, none⟩) hN).trans b2
  have c3 : w4.cell? ⟨w.heap.size, 3, none⟩ = some (.string x.q) := (hbN.cell (p := ⟨w.heap.size, 3, none⟩) hN).trans b3
  have c4 : w4.cell? ⟨w.heap.size, 4, none⟩ = some (.slice ar x.rs.length cr) := (hbN.cell (p := ⟨w.heap.size, 4, none⟩) hN).trans b4
  go_wp2_with fail
  refine Calls.mono (number_any w1.heap.size w1.heap.size _ _ x.cs.length 1 w4 hpw4 (by omega) (by omega) (Or.inl rfl) (by simp [szN_len, tN_len]; omega)) ?_
  rintro e w5 ⟨rfl, ⟨uw5, hpw5⟩, hbw5, hkw5⟩
  replace hbN : Below w1.heap.size w1 w5 := hbN.trans hbw5
  clear hbw5 hkw5
  clear c0 c1 c2 c3 c4
  have c0 : w5.cell? ⟨w.heap.size, 0, none⟩ = some (.int .i64 x.k) := (hbN.cell (p := ⟨w.heap.size, 0, none⟩) hN).trans b0
  have c1 : w5.cell? ⟨w.heap.size, 1, none⟩ = some (.string x.s) := (hbN.cell (p := ⟨w.heap.size, 1, none⟩) hN).trans b1
  have c2 : w5.cell? ⟨w.heap.size, 2, none⟩ = some (.slice ac x.cs.length cc) := (hbN.cell (p := ⟨w.heap.size, 2, none⟩) hN).trans b2
  have c3 : w5.cell? ⟨w.heap.size, 3, none⟩ = some (.string x.q) := (hbN.cell (p := ⟨w.heap.size, 3, none⟩) hN).trans b3
  have c4 : w5.cell? ⟨w.heap.size, 4, none⟩ = some (.slice ar x.rs.length cr) := (hbN.cell (p := ⟨w.heap.size, 4, none⟩) hN).trans b4
  have hp5 : Pk w5 w1.heap.size w1.heap.size uw5 (hdL x) := hpw5.eq (by simp [hdL])
  clear hp hpw3 hpw4 hpw5
  go_wp2_with fail
  go_loopw [25] (fun i wr => ∃ (k : Nat) (u : Value), k ≤ x.cs.length ∧ i = .int .i64 k ∧ Pk wr w1.heap.size w1.heap.size u (hdL x ++ csL (x.cs.take k)) ∧ Below w1.heap.size w1 wr) (fun i _ => x.cs.length - (intOf i).toNat)
  case atStart => exact ⟨0, uw5, Nat.zero_le _, rfl, hp5.eq (by simp [csL]), hbN⟩
  case round =>
    clear hbN hp5
    clear c0 c1 c2 c3 c4
    obtain ⟨k, u, hk, rfl, hp, hbN⟩ := hrel
    by_cases hlt : k < x.cs.length
    · obtain ⟨a0, c0, b, o, e0, hl, hc, _, ha⟩ := hS.pick
      obtain ⟨rfl, rfl⟩ : ac = a0 ∧ cc = c0 := by simpa using e0
      obtain ⟨rfl, hblt, _, hcell⟩ := ha k hlt
      have hx : x.cs[k]? = some x.cs[k] := by simp
      have hbw := bel1.trans (hbN.mono bel1.size)
      have d0 := (hbw.cell (p := ⟨b, o + k, none⟩) hblt).trans (hcell k _ hx)
      have hms := hB.c _ (List.getElem_mem hlt)
      have HX : Hid (csL (x.cs.take (k + 1)) = csL (x.cs.take k) ++ tN x.cs[k] 2) := csL_take hx
      have hln := hc_len hB k
      generalize x.cs[k] = m at d0 hms HX
      clear hcell hx ha e0
      go_wp2_with fail
      refine Calls.mono (text_any w1.heap.size w1.heap.size u _ m 2 wr hp (by omega) (Or.inr (Or.inl rfl)) (by omega)) ?_
      rintro e w6 ⟨rfl, ⟨u6, hp6⟩, hb6, hk6⟩
      go_wp2_with fail
      exact ⟨⟨k + 1, u6, hlt, by simp, hp6.eq (by rw [HX.out, List.append_assoc]), hbN.trans hb6⟩, by simp [intOf]; omega⟩
    · obtain rfl : k = x.cs.length := by omega
      rw [List.take_length] at hp
      have hln := hc_len hB x.cs.length
      rw [List.take_length] at hln
      have c0 : wr.cell? ⟨w.heap.size, 0, none⟩ = some (.int .i64 x.k) := (hbN.cell (p := ⟨w.heap.size, 0, none⟩) hN).trans b0
      have c1 : wr.cell? ⟨w.heap.size, 1, none⟩ = some (.string x.s) := (hbN.cell (p := ⟨w.heap.size, 1, none⟩) hN).trans b1
      have c2 : wr.cell? ⟨w.heap.size, 2, none⟩ = some (.slice ac x.cs.length cc) := (hbN.cell (p := ⟨w.heap.size, 2, none⟩) hN).trans b2
      have c3 : wr.cell? ⟨w.heap.size, 3, none⟩ = some (.string x.q) := (hbN.cell (p := ⟨w.heap.size, 3, none⟩) hN).trans b3
      have c4 : wr.cell? ⟨w.heap.size, 4, none⟩ = some (.slice ar x.rs.length cr) := (hbN.cell (p := ⟨w.heap.size, 4, none⟩) hN).trans b4
      go_wp2_with fail
      refine Calls.mono (text_any w1.heap.size w1.heap.size u _ x.q 2 wr hp (by omega) (Or.inr (Or.inl rfl)) (by omega)) ?_
      rintro e w6 ⟨rfl, ⟨uw6, hpw6⟩, hbw6, hkw6⟩
      replace hbN : Below w1.heap.size w1 w6 := hbN.trans hbw6
      clear hbw6 hkw6
      clear c0 c1 c2 c3 c4
      have c0 : w6.cell? ⟨w.heap.size, 0, none⟩ = some (.int .i64 x.k) := (hbN.cell (p := ⟨w.heap.size, 0, none⟩) hN).trans b0
      have c1 : w6.cell? ⟨w.heap.size, 1, none⟩ = some (.string x.s) := (hbN.cell (p := ⟨w.heap.size, 1, none⟩) hN).trans b1
      have c2 : w6.cell? ⟨w.heap.size, 2, none⟩ = some (.slice ac x.cs.length cc) := (hbN.cell (p := ⟨w.heap.size, 2, none⟩) hN).trans b2
      have c3 : w6.cell? ⟨w.heap.size, 3, none⟩ = some (.string x.q) := (hbN.cell (p := ⟨w.heap.size, 3, none⟩) hN).trans b3
      have c4 : w6.cell? ⟨w.heap.size, 4, none⟩ = some (.slice ar x.rs.length cr) := (hbN.cell (p := ⟨w.heap.size, 4, none⟩) hN).trans b4
      go_wp2_with fail
      refine Calls.mono (number_any w1.heap.size w1.heap.size _ _ x.rs.length 1 w6 hpw6 (by omega) (by omega) (Or.inl rfl) (by rw [List.length_append, tN_len]; omega)) ?_
      rintro e w7 ⟨rfl, ⟨uw7, hpw7⟩, hbw7, hkw7⟩
      replace hbN : Below w1.heap.size w1 w7 := hbN.trans hbw7
      clear hbw7 hkw7
      clear c0 c1 c2 c3 c4
      have c0 : w7.cell? ⟨w.heap.size, 0, none⟩ = some (.int .i64 x.k) := (hbN.cell (p := ⟨w.heap.size, 0, none⟩) hN).trans b0
      have c1 : w7.cell? ⟨w.heap.size, 1, none⟩ = some (.string x.s) := (hbN.cell (p := ⟨w.heap.size, 1, none⟩) hN).trans b1
      have c2 : w7.cell? ⟨w.heap.size, 2, none⟩ = some (.slice ac x.cs.length cc) := (hbN.cell (p := ⟨w.heap.size, 2, none⟩) hN).trans b2
      have c3 : w7.cell? ⟨w.heap.size, 3, none⟩ = some (.string x.q) := (hbN.cell (p := ⟨w.heap.size, 3, none⟩) hN).trans b3
      have c4 : w7.cell? ⟨w.heap.size, 4, none⟩ = some (.slice ar x.rs.length cr) := (hbN.cell (p := ⟨w.heap.size, 4, none⟩) hN).trans b4
      have hp7 : Pk w7 w1.heap.size w1.heap.size uw7 (mdL x) := hpw7.eq (by simp [mdL])
      clear hp hpw6 hpw7
      go_wp2_with fail
      go_loopw [42] (fun i wr => ∃ (k : Nat) (u : Value), k ≤ x.rs.length ∧ i = .int .i64 k ∧ Pk wr w1.heap.size w1.heap.size u (mdL x ++ rlsL (x.rs.take k)) ∧ Below w1.heap.size w1 wr) (fun i _ => x.rs.length - (intOf i).toNat)
      case atStart => exact ⟨0, uw7, Nat.zero_le _, rfl, hp7.eq (by simp [rlsL]), hbN⟩
      case round =>
        clear hbN hp7
        clear c0 c1 c2 c3 c4
        obtain ⟨k, u, hk, rfl, hp, hbN⟩ := hrel
        by_cases hlt : k < x.rs.length
        · obtain ⟨a0, c0, b, o, e0, hl, hc, ha⟩ := hR.pick
          obtain ⟨rfl, rfl⟩ : ar = a0 ∧ cr = c0 := by simpa using e0
          obtain ⟨rfl, hblt, hL⟩ := ha k hlt
          have hx : x.rs[k]? = some x.rs[k] := by simp
          have hbw := bel1.trans (hbN.mono bel1.size)
          obtain ⟨v, q0, q1, q2, hRw⟩ := hL k x.rs[k] hx
          obtain ⟨av, lv, cv, rfl⟩ := hRw.shape
          have d0 := (hbw.cell (p := ⟨b, _, none⟩) hblt).trans q0
          have d1 := (hbw.cell (p := ⟨b, _, none⟩) hblt).trans q1
          have d2 := (hbw.cell (p := ⟨b, _, none⟩) hblt).trans q2
          have hms := hB.r _ (List.getElem_mem hlt)
          obtain ⟨_, _, hmw⟩ := hw.2.2.2.2 _ (List.getElem_mem hlt)
          have HX : Hid (rlsL (x.rs.take (k + 1)) = rlsL (x.rs.take k) ++ rlL x.rs[k]) := rlsL_take hx
          have hln := md_len hB k
          generalize x.rs[k] = m at d0 d1 d2 hms HX hRw hmw
          have hsr : w1.heap.size < wr.heap.size := hp.lt
          have hbr : b < wr.heap.size := by have := hbw.size; omega
          have hps := putB_size m.W m.cs
          clear hx ha e0 q0 q1 q2 hL
          go_wp2_with fail
          have hbA0 : Below wr.heap.size wr (wr.alloc (.cells #[.string m.s, .int .i64 m.W, .slice av lv cv] 73)) := bex
          have hpA := hp.keep hbA0
          have hbA : Below w1.heap.size w1 (wr.alloc (.cells #[.string m.s, .int .i64 m.W, .slice av lv cv] 73)) := hbN.trans (hbA0.mono (Nat.le_of_lt hsr))
          have hRb : (wr.alloc (.cells #[.string m.s, .int .i64 m.W, .slice av lv cv] 73)).heap[wr.heap.size]? = some (.cells #[.string m.s, .int .i64 m.W, .slice av lv cv] 73) := heap_alloc_new wr _
          clear hbA0 hp hbN
          generalize wr.alloc (.cells #[.string m.s, .int .i64 m.W, .slice av lv cv] 73) = wA at hpA hbA hRb ⊢
          refine Calls.mono (text_any w1.heap.size w1.heap.size u _ m.s 2 wA hpA (by omega) (Or.inr (Or.inl rfl)) (by omega)) ?_
          rintro e w6 ⟨rfl, ⟨u6, hp6⟩, hb6, hk6⟩
          have hR6 := (hk6.block _ _ _ _ hRb (by decide) (by omega)).trans hRb
          have y1 : w6.cell? ⟨wr.heap.size, 1, none⟩ = some (.int .i64 m.W) := by rw [Lib.cell_of_heap hR6]; rfl
          have y2 : w6.cell? ⟨wr.heap.size, 2, none⟩ = some (.slice av lv cv) := by rw [Lib.cell_of_heap hR6]; rfl
          have hb6N : Below w1.heap.size w1 w6 := hbA.trans hb6
          have hb6w : Below w.heap.size w w6 := bel1.trans (hb6N.mono bel1.size)
          clear hbA hb6 hk6 hR6 hRb
          go_wp2_with fail
          refine Calls.mono (implPutBag_any m.W (.slice av lv cv) m.cs w6 hmw (hRw.below hb6w)) ?_
          rintro e w7 ⟨rfl, hb7⟩
          have hp7 := hp6.keep hb7
          have hb7N : Below w1.heap.size w1 w7 := hb6N.trans (hb7.mono (Nat.le_of_lt hp6.lt))
          clear hb7 hb6N hb6w hp6
          go_wp2_with fail
          refine Calls.mono (text_any w1.heap.size w1.heap.size u6 _ (putB m.W m.cs) 4 w7 hp7 (by omega) (Or.inr (Or.inr rfl)) (by rw [List.length_append, tN_len]; omega)) ?_
          rintro e w8 ⟨rfl, ⟨u8, hp8⟩, hb8, hk8⟩
          go_wp2_with fail
          exact ⟨⟨k + 1, u8, hlt, by simp, hp8.eq (by rw [HX.out]; simp [rlL]), hb7N.trans hb8⟩, by simp [intOf]; omega⟩
        · obtain rfl : k = x.rs.length := by omega
          rw [List.take_length] at hp
          go_wp2_with fail
          refine Calls.mono (packed_any w1.heap.size w1.heap.size u _ wr hp (mdL_ne x)) ?_
          rintro e w8 ⟨rfl, rfl⟩
          go_wp2_with fail
          go_returns
          exact ⟨by rw [HT.out]; rfl, bel1.trans (hbN.mono bel1.size)⟩
end Go.Proofs.YtbmoimfimeiglaaGreat
