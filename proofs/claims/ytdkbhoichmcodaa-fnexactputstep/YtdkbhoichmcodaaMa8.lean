/- Own texts, joined: contracts that the law's proof goes by. -/
import Derived.Test.YtdkbhoichmcodaaMa7
import Derived.Test.YtdkbhoichmcodaaMa3
import Derived.Test.YtdkbhoichmcodaaMa6
import Derived.Handy
import Derived.Deep.RegionHeld3
import Derived.Test.YtdkbhoichmcodaaMa1
import Derived.Test.YtdkbhoichmcodaaMa5
import Derived.Below
import Derived.BigQuiet
/- Own text. The packer: a block with one slice of bytes that grows by append; the contracts of its methods. -/
namespace Go.Proofs.Ytdkbhoichmcodaa
open Go.RowKit Go.Deep
set_option linter.unusedVariables false
/-- block P is a packer that has the bytes L, in memory of its own from N on. -/
structure Pk (w : World) (N P : Nat) (u : Value) (L : List Int) : Prop where
  le : N ≤ P
  blk : w.heap[P]? = some (.cells #[u] 109 (0, 0))
  own : w.ownsRow N 5 1 u L.length (L.map (Value.int .u8))
theorem own_type {w : World} {N n e s g : Nat} {v : Value} {xs : List Value} {c : Array Value} {t : TypeId} {l : Nat × Nat} (h : w.ownsRow N e s v n xs) (hb : w.heap[g]? = some (.cells c t l)) (ht : t ≠ e) : v.ownBlock ≠ some g := by
  intro e'
  rcases h.2 with ⟨rfl, _⟩ | ⟨g', cap, cur, rfl, _, hc, _⟩
  · simp [Value.ownBlock] at e'
  · simp [Value.ownBlock] at e'
    subst e'
    rw [hb] at hc
    simp at hc
    exact ht hc.2.1
theorem Pk.ne {w : World} {N P : Nat} {u : Value} {L : List Int} (h : Pk w N P u L) : u.ownBlock ≠ some P := own_type h.own h.blk (by decide)
theorem set_one {w : World} {P : Nat} {u v : Value} {t : TypeId} (h : w.heap[P]? = some (.cells #[u] t (0, 0))) : (w.setCell ⟨P, 0, none⟩ v).heap[P]? = some (.cells #[v] t (0, 0)) := by
  simp [World.setCell, Array.getElem?_modify, h]
/-- what is not of bytes stays, block P aside. -/
structure Kp (P : Nat) (w w' : World) : Prop where
  size : w.heap.size ≤ w'.heap.size
  block : ∀ b c t l, w.heap[b]? = some (.cells c t l) → t ≠ 5 → b ≠ P → w'.heap[b]? = w.heap[b]?
theorem Kp.trans {P : Nat} {w w1 w2 : World} (h : Kp P w w1) (k : Kp P w1 w2) : Kp P w w2 :=
  ⟨Nat.le_trans h.size k.size, fun b c t l hb ht hP => by
    have e := h.block b c t l hb ht hP
    exact (k.block b c t l (e.trans hb) ht hP).trans e⟩
theorem lt_of_heap {w : World} {b : Nat} {o : Obj} (h : w.heap[b]? = some o) : b < w.heap.size := by
  rcases Nat.lt_or_ge b w.heap.size with h' | h'
  · exact h'
  · simp [Array.getElem?_eq_none h'] at h
theorem Kp.of_below {P : Nat} {w w' : World} (h : Below w.heap.size w w') : Kp P w w' := ⟨h.size, fun b c t l hb _ _ => h.block b (lt_of_heap hb)⟩
theorem Pk.lt {w : World} {N P : Nat} {u : Value} {L : List Int} (h : Pk w N P u L) : P < w.heap.size := lt_of_heap h.blk
theorem Pk.keep {w w' : World} {N P : Nat} {u : Value} {L : List Int} (h : Pk w N P u L) (hb : Below w.heap.size w w') : Pk w' N P u L :=
  ⟨h.le, (hb.block P h.lt).trans h.blk, ownsRow_keep h.own fun b hv => hb.block b (ownsRow_lt h.own b hv).2⟩
theorem Pk.eq {w : World} {N P : Nat} {u : Value} {L M : List Int} (h : Pk w N P u L) (e : L = M) : Pk w N P u M := e ▸ h
theorem Pk.new (w : World) (N : Nat) (hN : N ≤ w.heap.size) : Pk (w.alloc (.cells #[.slice none 0 0] 109)) N w.heap.size (.slice none 0 0) [] :=
  ⟨hN, heap_alloc_new w _, ⟨rfl, .inl ⟨rfl, rfl⟩⟩⟩
set_option maxHeartbeats 2000000 in
set_option maxRecDepth 100000 in
theorem ladd_any (N P : Nat) (u : Value) (L M : List Int) (ad : Addr) (m c : Nat) (w : World) (h : Pk w N P u L) (hm : m = M.length) (hnews : ∀ (j : Nat) (y : Value), (M.map (Value.int .u8))[j]? = some y → w.cell? (ad.add j) = some y) (hlen : L.length + M.length ≤ 140737488355328) :
    Calls Try.prog 118 #[.pointer (some ⟨P, 0, none⟩), .slice (some ad) m c] w fun e w' => e = .returned (.tuple #[]) ∧ (∃ u', Pk w' N P u' (L ++ M)) ∧ Below N w w' ∧ Kp P w w' := by
  subst hm
  obtain ⟨i0, hi, hz0, hz1, hz2⟩ := info_parts info5
  have hlt := h.lt
  have hne := h.ne
  obtain ⟨hle, hbk, hown⟩ := h
  have c0 : w.cell? ⟨P, 0, none⟩ = some u := by rw [Lib.cell_of_heap hbk]; rfl
  go_enter Try.func118, Try.ntmps118
  go_wp2_with (at_builtin; refine wpList_append_own _ rfl _ _ 105 rfl N 5 i0 (.int .u8 0) 1 1 Try.underlying105 hi hz0 hz1 hz2 rfl (by decide) _ _ _ rfl hown ad M.length c (M.map (Value.int .u8)) rfl (by simp) hnews ?c2 ?c3 ?c4 ?c5 ?_)
  case c2 => intro y hy; obtain ⟨z, _, rfl⟩ := List.mem_map.1 hy; rfl
  case c3 => unfold maxLen; omega
  case c4 => omega
  case c5 => omega
  intro v' w2 hown' hgrow _
  have hbP : w2.heap[P]? = some (.cells #[u] 109 (0, 0)) := (hgrow.block P hlt (fun e => hne e.symm)).trans hbk
  have d0 : w2.cell? ⟨P, 0, none⟩ = some u := by rw [Lib.cell_of_heap hbP]; rfl
  have f0 : w2.frozen? ⟨P, 0, none⟩ = false := Lib.frozen_of_heap hbP 0
  have hne' := own_type hown' hbP (by decide)
  have HB : Hid (Below N w w2) := (Below.refl N w).grown hgrow (by omega) (fun k hk => (hown.lt k hk).1)
  have HK : Hid (∀ b c t l, w.heap[b]? = some (.cells c t l) → t ≠ 5 → b ≠ P → w2.heap[b]? = w.heap[b]?) := fun b c t l hb ht hP => hgrow.block b (lt_of_heap hb) (fun e => own_type hown hb ht e.symm)
  have hs : ∃ ao n' cap, v' = .slice ao n' cap := by
    rcases hown'.2 with ⟨hv, _⟩ | ⟨g, cap, cur, hv, _⟩ <;> exact ⟨_, _, _, hv⟩
  obtain ⟨ao, n', cap, rfl⟩ := hs
  have hsz := hgrow.size
  clear hgrow hown
  go_wp2
  go_end0
  refine ⟨rfl, ⟨_, hle, set_one hbP, ?_⟩, HB.out.setCell (p := ⟨P, 0, none⟩) hle _, ⟨by simpa using hsz, fun b c t l hb ht hP => ?_⟩⟩
  · rw [List.map_append, List.length_append]
    exact ownsRow_keep hown' fun b hv => Below.heap_setCell _ _ _ _ (by rintro rfl; exact hne' hv)
  · exact (Below.heap_setCell _ _ _ _ (by simpa using hP)).trans (HK.out b c t l hb ht hP)
theorem own_row {w : World} {N n : Nat} {v : Value} {L : List Int} (h : w.ownsRow N 5 1 v n (L.map (Value.int .u8))) (hn : 0 < n) :
    ∃ g cap, v = .slice (some ⟨g, 0, none⟩) n cap ∧ N ≤ g ∧ g < w.heap.size ∧ n ≤ cap ∧ cap ≤ maxLen ∧ ∀ (j : Nat) (y : Value), (L.map (Value.int .u8))[j]? = some y → w.cell? ⟨g, j, none⟩ = some y := by
  have h1 := h.1
  rcases h.2 with ⟨_, h0⟩ | ⟨g, cap, cur, rfl, hg, hc, hn', hm, hcs, htk⟩
  · omega
  · refine ⟨g, cap, rfl, hg, lt_of_heap hc, hn', hm, fun j y hy => ?_⟩
    rw [Lib.cell_of_heap hc, ← Array.getElem?_toList]
    rw [← htk, List.getElem?_take] at hy
    split at hy
    · exact hy
    · cases hy
theorem szN_num {n : Int} (h0 : 0 ≤ n) (h1 : n ≤ 9223372036854775807) : (numL n 8).drop 8 = szN n 1 ∧ (numL n 8).drop 7 = szN n 2 ∧ (numL n 8).drop 5 = szN n 4 := by
  have hw : IntKind.u64.wrap n = n := by rw [IntKind.wrap_u64]; omega
  refine ⟨?_, ?_, ?_⟩ <;> simp [numL, numB, szN, List.range_succ, hw]
set_option maxHeartbeats 2000000 in
set_option maxRecDepth 100000 in
theorem number_any (N P : Nat) (u : Value) (L : List Int) (n : Int) (k : Nat) (w : World) (h : Pk w N P u L) (h0 : 0 ≤ n) (h1 : n ≤ 9223372036854775807) (hk : k = 1 ∨ k = 2 ∨ k = 4) (hlen : L.length ≤ 100000000000000) :
    Calls Try.prog 77 #[.pointer (some ⟨P, 0, none⟩), .int .i64 n, .int .i64 k] w fun e w' => e = .returned (.tuple #[]) ∧ (∃ u', Pk w' N P u' (L ++ szN n k)) ∧ Below N w w' ∧ Kp P w w' := by
  have hd : (numL n 8).drop (9 - k) = szN n k := by
    have := szN_num h0 h1
    rcases hk with rfl | rfl | rfl
    · exact this.1
    · exact this.2.1
    · exact this.2.2
  have hN := h.lt
  have hle := h.le
  go_enter Try.func77, Try.ntmps77
  go_wp2_with fail
  refine Calls.mono (numberBytes_any n w) ?_
  rintro e w1 ⟨v, rfl, hown, hb1⟩
  obtain ⟨g, cap, rfl, hg0, hg1, hc, hcm, hcell⟩ := own_row hown (by omega)
  have hP1 := h.keep hb1
  have bel1 : Below N w w1 := hb1.mono (by omega)
  have hK1 : Kp P w w1 := Kp.of_below hb1
  clear hown h hb1
  have hadd : ∀ (q : Nat), q + k = 9 → ∀ (c : Nat) (wz : World), Below w1.heap.size w1 wz → Calls Try.prog 118 #[.pointer (some ⟨P, 0, none⟩), .slice (some ⟨g, q, none⟩) k c] wz fun e w' => e = .returned (.tuple #[]) ∧ (∃ u', Pk w' N P u' (L ++ szN n k)) ∧ Below N w w' ∧ Kp P w w' := by
    intro q hq c wz hz
    refine (ladd_any N P u L (szN n k) ⟨g, q, none⟩ k c wz (hP1.keep hz) (szN_len n k).symm (fun j y hy => ?_) (by rw [szN_len]; omega)).mono ?_
    · have e : ((⟨g, q, none⟩ : Addr).add j) = ⟨g, q + j, none⟩ := by unfold Addr.add; split <;> simp_all
      rw [e]
      refine (hz.cell (p := ⟨g, q + j, none⟩) hg1).trans (hcell (q + j) y ?_)
      rw [← hd, List.map_drop, List.getElem?_drop, show 9 - k = q by omega] at hy
      exact hy
    · rintro e w2 ⟨h1, h2, h3, h4⟩
      exact ⟨h1, h2, (bel1.trans (hz.mono (Nat.le_of_lt (Nat.lt_of_le_of_lt hle hP1.lt)))).trans h3, (hK1.trans (Kp.of_below hz)).trans h4⟩
  have HA : Hid (∀ (q : Nat), q + k = 9 → ∀ (c : Nat) (wz : World), Below w1.heap.size w1 wz → Calls Try.prog 118 #[.pointer (some ⟨P, 0, none⟩), .slice (some ⟨g, q, none⟩) k c] wz fun e w' => e = .returned (.tuple #[]) ∧ (∃ u', Pk w' N P u' (L ++ szN n k)) ∧ Below N w w' ∧ Kp P w w') := hadd
  clear hadd hcell hd
  unfold maxLen at hcm
  have hci : (9 : Int) ≤ (cap : Int) := by omega
  have hw8 : IntKind.i64.wrap 8 = 8 := by rw [IntKind.wrap_i64]; omega
  have hw7 : IntKind.i64.wrap 7 = 7 := by rw [IntKind.wrap_i64]; omega
  have hw5 : IntKind.i64.wrap 5 = 5 := by rw [IntKind.wrap_i64]; omega
  have hc8 : ¬ cap = 8 := by omega
  have hc7 : ¬ cap = 7 := by omega
  have hc5 : ¬ cap = 5 := by omega
  rcases hk with rfl | rfl | rfl
  · go_wp2_with fail
    go_region_held3 (fun _ => True) (trivial) (first | (go_at_call 118; refine Calls.mono (HA.out 8 rfl _ _ (by repeat (first | (with_reducible exact Below.refl _ _) | (with_reducible refine Below.drew ?_) | (with_reducible refine Below.alloc ?_ ?hh _; case hh => first | (simp; done) | (simp; omega) | omega) | (with_reducible refine Below.setCell ?_ ?hh _; case hh => first | (simp; done) | (simp; omega) | omega) | refine bstep (by assumption) (by first | (simp; done) | (simp; omega) | omega) ?_))) ?_; rintro e w2 ⟨rfl, hpk, hbl, hkp⟩) | fail)
    all_goals go_wp2
    all_goals go_end0
    all_goals exact ⟨rfl, hpk, hbl, hkp⟩
  · go_wp2_with fail
    go_region_held3 (fun _ => True) (trivial) (first | (go_at_call 118; refine Calls.mono (HA.out 7 rfl _ _ (by repeat (first | (with_reducible exact Below.refl _ _) | (with_reducible refine Below.drew ?_) | (with_reducible refine Below.alloc ?_ ?hh _; case hh => first | (simp; done) | (simp; omega) | omega) | (with_reducible refine Below.setCell ?_ ?hh _; case hh => first | (simp; done) | (simp; omega) | omega) | refine bstep (by assumption) (by first | (simp; done) | (simp; omega) | omega) ?_))) ?_; rintro e w2 ⟨rfl, hpk, hbl, hkp⟩) | fail)
    all_goals go_wp2
    all_goals go_end0
    all_goals exact ⟨rfl, hpk, hbl, hkp⟩
  · go_wp2_with fail
    go_region_held3 (fun _ => True) (trivial) (first | (go_at_call 118; refine Calls.mono (HA.out 5 rfl _ _ (by repeat (first | (with_reducible exact Below.refl _ _) | (with_reducible refine Below.drew ?_) | (with_reducible refine Below.alloc ?_ ?hh _; case hh => first | (simp; done) | (simp; omega) | omega) | (with_reducible refine Below.setCell ?_ ?hh _; case hh => first | (simp; done) | (simp; omega) | omega) | refine bstep (by assumption) (by first | (simp; done) | (simp; omega) | omega) ?_))) ?_; rintro e w2 ⟨rfl, hpk, hbl, hkp⟩) | fail)
    all_goals go_wp2
    all_goals go_end0
    all_goals exact ⟨rfl, hpk, hbl, hkp⟩
theorem strCells_tx (s : ByteArray) : (txN s).map (Value.int .u8) = Lib.strCells s := by simp [txN, nb, Lib.strCells, List.map_map]
set_option maxHeartbeats 2000000 in
set_option maxRecDepth 100000 in
theorem text_any (N P : Nat) (u : Value) (L : List Int) (s : ByteArray) (k : Nat) (w : World) (h : Pk w N P u L) (hs : s.size ≤ 1000000000) (hk : k = 1 ∨ k = 2 ∨ k = 4) (hlen : L.length ≤ 10000000000000) :
    Calls Try.prog 78 #[.pointer (some ⟨P, 0, none⟩), .string s, .int .i64 k] w fun e w' => e = .returned (.tuple #[]) ∧ (∃ u', Pk w' N P u' (L ++ tN s k)) ∧ Below N w w' ∧ Kp P w w' := by
  go_enter Try.func78, Try.ntmps78
  go_wp2_with fail
  refine Calls.mono (number_any N P u L s.size k w h (by omega) (by omega) hk (by omega)) ?_
  rintro e w1 ⟨rfl, ⟨u1, hp1⟩, hb1, hk1⟩
  have hcv := run_bytes_of_string (P := Try.prog) w1 9 105 5 s Try.underlying9 Try.underlying105 Try.underlying5
  generalize hg : grownCap w1 s.size 0 5 = gc at hcv
  have hNs := hp1.lt
  have hle := hp1.le
  go_wp2_with (first | (go_at_call 118; refine Calls.mono (ladd_any N P u1 (L ++ szN s.size k) (txN s) ⟨w1.heap.size, 0, none⟩ s.size gc _ (hp1.keep (by repeat (first | (with_reducible exact Below.refl _ _) | (with_reducible refine Below.drew ?_) | (with_reducible refine Below.alloc ?_ ?hh _; case hh => first | (simp; done) | (simp; omega) | omega) | (with_reducible refine Below.setCell ?_ ?hh _; case hh => first | (simp; done) | (simp; omega) | omega) | refine bstep (by assumption) (by first | (simp; done) | (simp; omega) | omega) ?_))) (txN_len s).symm (by rw [show (txN s).map (Value.int .u8) = Lib.strCells s from strCells_tx s]; exact bytes_cells _ _ _ _) ?hln) ?_) | fail)
  case hln => rw [List.length_append, szN_len, txN_len]; rcases hk with rfl | rfl | rfl <;> omega
  rintro e w2 ⟨rfl, ⟨u2, hp2⟩, hb2, hk2⟩
  have HB : Hid (Below N w w2) := by
    refine hb1.trans (Below.trans ?_ hb2)
    refine Below.mono (?_ : Below w1.heap.size w1 _) (by omega)
    repeat (first | (with_reducible exact Below.refl _ _) | (with_reducible refine Below.drew ?_) | (with_reducible refine Below.alloc ?_ ?hh _; case hh => first | (simp; done) | (simp; omega) | omega) | (with_reducible refine Below.setCell ?_ ?hh _; case hh => first | (simp; done) | (simp; omega) | omega) | refine bstep (by assumption) (by first | (simp; done) | (simp; omega) | omega) ?_)
  have HK : Hid (Kp P w w2) := by
    refine hk1.trans (Kp.trans (Kp.of_below ?_) hk2)
    repeat (first | (with_reducible exact Below.refl _ _) | (with_reducible refine Below.drew ?_) | (with_reducible refine Below.alloc ?_ ?hh _; case hh => first | (simp; done) | (simp; omega) | omega) | (with_reducible refine Below.setCell ?_ ?hh _; case hh => first | (simp; done) | (simp; omega) | omega) | refine bstep (by assumption) (by first | (simp; done) | (simp; omega) | omega) ?_)
  clear hb2 hk2 hcv
  go_wp2
  go_end0
  exact ⟨rfl, ⟨u2, hp2.eq (by rw [List.append_assoc]; rfl)⟩, HB.out, HK.out⟩
set_option maxHeartbeats 2000000 in
set_option maxRecDepth 100000 in
theorem packed_any (N P : Nat) (u : Value) (L : List Int) (w : World) (h : Pk w N P u L) (hl : L ≠ []) :
    Calls Try.prog 80 #[.pointer (some ⟨P, 0, none⟩)] w fun e w' => e = .returned (.string (strOfNums L)) ∧ w' = w := by
  have hn : 0 < L.length := List.length_pos_iff.2 hl
  have c0 : w.cell? ⟨P, 0, none⟩ = some u := by rw [Lib.cell_of_heap h.blk]; rfl
  have hcv := conv_own L h.own hn
  obtain ⟨g, cap, rfl, _⟩ := own_row h.own hn
  go_enter Try.func80, Try.ntmps80
  go_wp2
  go_returns
  exact ⟨rfl, rfl⟩
end Go.Proofs.Ytdkbhoichmcodaa
/- Own text. The contract of impl.relsOk. -/
namespace Go.Proofs.Ytdkbhoichmcodaa
open Go.RowKit
set_option linter.unusedVariables false
set_option maxHeartbeats 4000000 in
set_option maxRecDepth 100000 in
theorem relsOk_any (v : Value) (rs : List R3) (w : World) (hw : RsWf rs) (hr : RelsIs w v rs) :
    Calls Try.prog 72 #[v] w fun e w' => e = .returned (.bool (okRels rs)) ∧ Below w.heap.size w w' := by
  obtain ⟨a, c, b, o, rfl, hl, hc, ha⟩ := hr.pick
  unfold maxLen at hc
  clear hr
  by_cases h0 : (rs.length : Int) = 0
  · have hz : ((rs.length : Int) == 0) = true := by simpa using h0
    go_enter Try.func72, Try.ntmps72
    go_wp2
    go_returns
    exact ⟨ret_bool (by simp [okRels, inB]; omega), by go_grown⟩
  have hz : ((rs.length : Int) == 0) = false := by simpa using h0
  by_cases h2 : 20 < (rs.length : Int)
  · go_enter Try.func72, Try.ntmps72
    go_wp2
    go_returns
    exact ⟨ret_bool (by simp [okRels, inB]; omega), by go_grown⟩
  have HB : Hid (okRels rs = okTs none rs) := by
    have hf : inB rs.length 1 20 = true := by simp [inB]; omega
    simp [Hid, okRels, hf]
  clear h0
  go_enter Try.func72, Try.ntmps72
  go_wp2
  go_loopw [15] (fun i wr => ∃ (k : Nat) (q : Int), k ≤ rs.length ∧ q = k ∧ i = .int .i64 q ∧ Below w.heap.size w wr ∧ okTs none rs = okTs (prevT rs k) (rs.drop k)) (fun i _ => rs.length - (intOf i).toNat)
  case atStart => exact ⟨0, 0, Nat.zero_le _, rfl, rfl, by go_grown, by simp [prevT]⟩
  case round =>
    obtain ⟨k, q, hk, hq, rfl, hb, heq⟩ := hrel
    have HE : Hid (okTs none rs = okTs (prevT rs k) (rs.drop k)) := heq
    have hzb := hb.size
    clear heq
    by_cases hlt : k < rs.length
    · obtain ⟨rfl, hblt, hL⟩ := ha k hlt
      obtain ⟨x, u, hx, c0, c1, c2, hR, hbr⟩ := hL.at hblt hb hlt
      obtain ⟨ur, lr, cr, rfl⟩ := hR.shape
      obtain ⟨hxs, _, hxw⟩ := hw x (List.mem_of_getElem? hx)
      have HS : Hid (okTs (prevT rs k) (rs.drop k) = (nameB x.s && okBag x.W x.cs && okPrevT (prevT rs k) x && okTs (prevT rs (k + 1)) (rs.drop (k + 1)))) := okTs_step hx
      by_cases hnm : nameB x.s = true
      rotate_left
      · have hf : nameB x.s = false := by simpa using hnm
        clear ha hw hL hx
        subst hq
        go_wp2_with (first | (go_at_call 71; refine (implName_any x.s _ hxs).mono ?_; rintro e w1 ⟨rfl, rfl⟩) | (go_at_call 46; refine Calls.mono (implBagOk_any x.W _ x.cs _ hxw (hR.below (by repeat (first | exact Below.refl _ _ | refine Below.drew ?_ | refine Below.alloc ?_ (by first | (simp; done) | (simp; omega) | omega) _ | refine Below.setCell ?_ (by first | (simp; done) | (simp; omega) | omega) _ | refine bstep (by assumption) (by first | (simp; done) | (simp; omega) | omega) ?_)))) ?_; rintro e w2 ⟨rfl, hb2⟩; have hz2 := hb2.size; (try simp at hz2); have n2 : w2.cell? ⟨wr.heap.size, 0, none⟩ = some (.string x.s) := cell_later hb2 (by go_simp)) | fail)
        go_returns
        refine ⟨ret_bool ?_, by repeat (first | exact Below.refl _ _ | refine Below.drew ?_ | refine Below.alloc ?_ (by first | (simp; done) | (simp; omega) | omega) _ | refine Below.setCell ?_ (by first | (simp; done) | (simp; omega) | omega) _ | refine bstep (by assumption) (by first | (simp; done) | (simp; omega) | omega) ?_)⟩
        rw [HB.out, HE.out, HS.out, hf]
        simp
      by_cases hpl : okBag x.W x.cs = true
      rotate_left
      · have hf : okBag x.W x.cs = false := by simpa using hpl
        clear ha hw hL hx
        subst hq
        go_wp2_with (first | (go_at_call 71; refine (implName_any x.s _ hxs).mono ?_; rintro e w1 ⟨rfl, rfl⟩) | (go_at_call 46; refine Calls.mono (implBagOk_any x.W _ x.cs _ hxw (hR.below (by repeat (first | exact Below.refl _ _ | refine Below.drew ?_ | refine Below.alloc ?_ (by first | (simp; done) | (simp; omega) | omega) _ | refine Below.setCell ?_ (by first | (simp; done) | (simp; omega) | omega) _ | refine bstep (by assumption) (by first | (simp; done) | (simp; omega) | omega) ?_)))) ?_; rintro e w2 ⟨rfl, hb2⟩; have hz2 := hb2.size; (try simp at hz2); have n2 : w2.cell? ⟨wr.heap.size, 0, none⟩ = some (.string x.s) := cell_later hb2 (by go_simp)) | fail)
        go_returns
        refine ⟨ret_bool ?_, by repeat (first | exact Below.refl _ _ | refine Below.drew ?_ | refine Below.alloc ?_ (by first | (simp; done) | (simp; omega) | omega) _ | refine Below.setCell ?_ (by first | (simp; done) | (simp; omega) | omega) _ | refine bstep (by assumption) (by first | (simp; done) | (simp; omega) | omega) ?_)⟩
        rw [HB.out, HE.out, HS.out, hf]
        simp
      rcases Nat.eq_zero_or_pos k with hk0 | hk0
      · subst hk0
        obtain rfl : q = 0 := by simpa using hq
        rw [Nat.zero_mul, Nat.add_zero] at c0 c1 c2
        clear ha hw hL hx hq
        go_wp2_with (first | (go_at_call 71; refine (implName_any x.s _ hxs).mono ?_; rintro e w1 ⟨rfl, rfl⟩) | (go_at_call 46; refine Calls.mono (implBagOk_any x.W _ x.cs _ hxw (hR.below (by repeat (first | exact Below.refl _ _ | refine Below.drew ?_ | refine Below.alloc ?_ (by first | (simp; done) | (simp; omega) | omega) _ | refine Below.setCell ?_ (by first | (simp; done) | (simp; omega) | omega) _ | refine bstep (by assumption) (by first | (simp; done) | (simp; omega) | omega) ?_)))) ?_; rintro e w2 ⟨rfl, hb2⟩; have hz2 := hb2.size; (try simp at hz2); have n2 : w2.cell? ⟨wr.heap.size, 0, none⟩ = some (.string x.s) := cell_later hb2 (by go_simp)) | fail)
        go_region
        go_wp2
        go_roundw
        case rel =>
          refine ⟨1, 1, hlt, rfl, by simp, by repeat (first | exact Below.refl _ _ | refine Below.drew ?_ | refine Below.alloc ?_ (by first | (simp; done) | (simp; omega) | omega) _ | refine Below.setCell ?_ (by first | (simp; done) | (simp; omega) | omega) _ | refine bstep (by assumption) (by first | (simp; done) | (simp; omega) | omega) ?_), ?_⟩
          rw [HE.out, HS.out, hnm, hpl, prevT_zero]
          simp [okPrevT]
        case measure => simp [intOf]; omega
      · obtain ⟨j, rfl⟩ : ∃ j, k = j + 1 := ⟨k - 1, by omega⟩
        obtain rfl : q = (j : Int) + 1 := by omega
        obtain ⟨y, t, hy, d0, d1, d2', hT, _⟩ := hL.at hblt hb (show j < rs.length by omega)
        have HP : Hid (prevT rs (j + 1) = some y) := prevT_succ hy
        clear ha hw hL hx hy hq d1 d2' hT
        go_wp2_with (first | (go_at_call 71; refine (implName_any x.s _ hxs).mono ?_; rintro e w1 ⟨rfl, rfl⟩) | (go_at_call 46; refine Calls.mono (implBagOk_any x.W _ x.cs _ hxw (hR.below (by repeat (first | exact Below.refl _ _ | refine Below.drew ?_ | refine Below.alloc ?_ (by first | (simp; done) | (simp; omega) | omega) _ | refine Below.setCell ?_ (by first | (simp; done) | (simp; omega) | omega) _ | refine bstep (by assumption) (by first | (simp; done) | (simp; omega) | omega) ?_)))) ?_; rintro e w2 ⟨rfl, hb2⟩; have hz2 := hb2.size; (try simp at hz2); have n2 : w2.cell? ⟨wr.heap.size, 0, none⟩ = some (.string x.s) := cell_later hb2 (by go_simp); have d2 : w2.cell? ⟨b, o + j * 3, none⟩ = some (.string y.s) := cell_later hb2 (by go_simp)) | fail)
        have hw1 : IntKind.i64.wrap (j : Int) = j := by rw [IntKind.wrap_i64]; omega
        have hw2 : IntKind.i64.wrap ((j : Int) + 1 - 1) = j := by rw [IntKind.wrap_i64]; omega
        have hi0 : (0 : Int) ≤ j := by omega
        have hi1 : (j : Int) < rs.length := by omega
        have hi2 : (0 : Int) < (j : Int) + 1 := by omega
        have HQ : Hid (okPrevT (prevT rs (j + 1)) x = Op.bytesLess y.s.toList x.s.toList) := by rw [HP.out]; rfl
        go_region_held3 (fun w' => w'.cell? ⟨wr.heap.size, 0, none⟩ = some (.string x.s) ∧ w'.cell? ⟨b, o + j * 3, none⟩ = some (.string y.s)) (refine ⟨?_, ?_⟩ <;> first | (go_simp; done) | (exact cell_later (by assumption) (by go_simp))) (fail)
        go_wp2
        · have hcf : Op.bytesLess y.s.toList x.s.toList = false := by
            have h9 : (!Op.bytesLess y.s.toList x.s.toList) = true := by assumption
            simpa using h9
          go_returns
          refine ⟨ret_bool ?_, by repeat (first | exact Below.refl _ _ | refine Below.drew ?_ | refine Below.alloc ?_ (by first | (simp; done) | (simp; omega) | omega) _ | refine Below.setCell ?_ (by first | (simp; done) | (simp; omega) | omega) _ | refine bstep (by assumption) (by first | (simp; done) | (simp; omega) | omega) ?_)⟩
          rw [HB.out, HE.out, HS.out, HQ.out, hcf]
          simp
        · have hcmp : Op.bytesLess y.s.toList x.s.toList = true := by
            have h9 : (!Op.bytesLess y.s.toList x.s.toList) = false := by assumption
            simpa using h9
          refine ⟨⟨j + 1 + 1, (j : Int) + 1 + 1, hlt, by omega, rfl, by repeat (first | exact Below.refl _ _ | refine Below.drew ?_ | refine Below.alloc ?_ (by first | (simp; done) | (simp; omega) | omega) _ | refine Below.setCell ?_ (by first | (simp; done) | (simp; omega) | omega) _ | refine bstep (by assumption) (by first | (simp; done) | (simp; omega) | omega) ?_), ?_⟩, by simp [intOf]; omega⟩
          rw [HE.out, HS.out, HQ.out, hnm, hpl, hcmp]
          simp
    · clear ha hw
      go_wp2
      go_returns
      refine ⟨ret_bool ?_, hb⟩
      rw [HB.out, HE.out, List.drop_eq_nil_of_le (by omega)]
      rfl
end Go.Proofs.Ytdkbhoichmcodaa
/- Own text. slices.Contains of texts. -/
namespace Go.Proofs.Ytdkbhoichmcodaa
open Go.RowKit Go.Deep Go.ChangeShapes Go.WideShapes
set_option linter.unusedVariables false
theorem containsS_has (L : List ByteArray) (x : ByteArray) : Lib.containsS L x = hasS L x := by
  rw [Bool.eq_iff_iff, Lib.containsS_iff]
  unfold hasS
  rw [List.any_eq_true]
  constructor
  · exact fun h => ⟨x, h, by simp⟩
  · rintro ⟨y, hy, e⟩
    have e' : y = x := bytes_same (by simpa using e)
    rw [← e']
    exact hy
/-- slices.Contains of texts. -/
theorem contains_any (v : Value) (L : List ByteArray) (g : List Nat) (x : ByteArray) (w : World) (h : StrsF w v L g) :
    Calls Try.prog 142 #[v, .string x] w fun e w' => e = .returned (.bool (hasS L x)) ∧ w' = w := by
  obtain ⟨a, c, rfl, hl, hc, h0, h1⟩ := h
  unfold maxLen at hc
  by_cases hne : L = []
  · subst hne
    exact Try.slices_Contains_string_empty a c x w
  · obtain ⟨b, o, rfl, hlt, rfl, hcell⟩ := h1 hne
    have := Try.slices_Contains_string b o L.length c L x w (Nat.le_refl _) (by omega) fun j hj => by
      rw [hcell j L[j] (by simp)]
      simp [List.getD_eq_getElem?_getD, hj]
    rw [List.take_length, containsS_has] at this
    exact this
end Go.Proofs.Ytdkbhoichmcodaa
/- Own text. The contract of spec.l03Has at any slice of texts; a slice of texts that is cut. -/
namespace Go.Proofs.Ytdkbhoichmcodaa
open Go.RowKit Go.Deep
set_option linter.unusedVariables false
theorem StrsF.cut {w : World} {a : Option Addr} {l c : Nat} {ns : List ByteArray} {g : List Nat} (h : StrsF w (.slice a l c) ns g) {k : Nat} (hk : k ≤ ns.length) : ∃ g', StrsF w (.slice a k c) (ns.take k) g' := by
  obtain ⟨a', c', e, hl, hc, h0, h1⟩ := h
  obtain ⟨rfl, rfl, rfl⟩ : a = a' ∧ l = ns.length ∧ c = c' := by injection e with e1 e2 e3; exact ⟨e1, e2, e3⟩
  have hkl : (ns.take k).length = k := by rw [List.length_take]; omega
  by_cases hk0 : k = 0
  · subst hk0
    exact ⟨[], a, c, by simp, by simp, hc, fun _ => rfl, fun h => absurd (by simp) h⟩
  · obtain ⟨b, o, ea, hlt, eg, hC⟩ := h1 (by rintro rfl; simp at hk; omega)
    refine ⟨[b], a, c, by rw [hkl], by rw [hkl]; omega, hc, fun h => ?_, fun _ => ⟨b, o, ea, hlt, rfl, fun i n hn => hC i n ?_⟩⟩
    · exfalso; have := congrArg List.length h; rw [hkl] at this; simp at this; omega
    · rw [List.getElem?_take] at hn
      split at hn
      · exact hn
      · cases hn
set_option maxHeartbeats 2000000 in
set_option maxRecDepth 100000 in
theorem l03HasF_any (v : Value) (L : List ByteArray) (g : List Nat) (x : ByteArray) (w : World) (h : StrsF w v L g) :
    Calls Try.prog 111 #[v, .string x] w fun e w' => e = .returned (.bool (hasS L x)) ∧ w' = w := by
  obtain ⟨a, c, b, o, rfl, hl, hc, _, ha⟩ := h.pick
  unfold maxLen at hc
  clear h
  go_enter Try.func111, Try.ntmps111
  go_wp2
  go_loopw [5] (fun i wr => ∃ k : Nat, k ≤ L.length ∧ i = .int .i64 k ∧ wr = w ∧ hasS L x = hasS (L.drop k) x) (fun i _ => L.length - (intOf i).toNat)
  case atStart => exact ⟨0, Nat.zero_le _, rfl, rfl, by simp⟩
  case round =>
    obtain ⟨k, hk, rfl, hwr, heq⟩ := hrel
    replace hwr := hwr.symm
    subst hwr
    have HE : Hid (hasS L x = hasS (L.drop k) x) := heq
    clear heq
    by_cases hkl : k < L.length
    · obtain ⟨m, hm⟩ : ∃ m, L[k]? = some m := ⟨L[k], by simp [hkl]⟩
      obtain ⟨rfl, hblt, _, hcell⟩ := ha k hkl
      have hc0 := hcell k m hm
      have HS : Hid (hasS (L.drop k) x = (m.toList == x.toList || hasS (L.drop (k + 1)) x)) := hasS_step hm
      clear hcell hm ha
      by_cases hmx : m.toList = x.toList
      · have hme : (m.toList == x.toList) = true := by simpa using hmx
        have HB : Hid ((m.toList == x.toList) = true) := hme
        go_wp2
        go_returns
        exact ⟨ret_bool (by rw [HE.out, HS.out, HB.out, Bool.true_or]), rfl⟩
      · have hme : (m.toList == x.toList) = false := by simpa using hmx
        have HB : Hid ((m.toList == x.toList) = false) := hme
        go_wp2
        exact ⟨⟨k + 1, hkl, by simp, by first | rfl | trivial, by rw [HE.out, HS.out, HB.out, Bool.false_or]⟩, by simp [intOf]; omega⟩
    · obtain rfl : k = L.length := by omega
      clear ha
      go_wp2
      go_returns
      exact ⟨ret_bool (by rw [HE.out, List.drop_length]; rfl), rfl⟩
end Go.Proofs.Ytdkbhoichmcodaa
/- Own text. The contracts of impl.columnsOk and impl.SchemasOk. -/
namespace Go.Proofs.Ytdkbhoichmcodaa
open Go.RowKit Go.Deep
set_option linter.unusedVariables false
set_option maxHeartbeats 2000000 in
set_option maxRecDepth 100000 in
theorem columnsOk_any (v : Value) (cs : List ByteArray) (g : List Nat) (w : World) (hw : SsWf cs) (hr : StrsF w v cs g) :
    Calls Try.prog 112 #[v] w fun e w' => e = .returned (.bool (okCols cs)) ∧ w' = w := by
  obtain ⟨a, c, b, o, rfl, hl, hc, _, ha⟩ := hr.pick
  unfold maxLen at hc
  by_cases h0 : (cs.length : Int) = 0
  · have hf : inB cs.length 1 12 = false := by simp [inB]; omega
    go_enter Try.func112, Try.ntmps112
    go_wp2
    go_returns
    exact ⟨ret_bool (by simp [okCols, hf]), rfl⟩
  have hz : ((cs.length : Int) == 0) = false := by simpa using h0
  have hne : ¬ cs = [] := by rintro rfl; simp at h0
  by_cases h1 : (12 : Int) < cs.length
  · have hf : inB cs.length 1 12 = false := by simp [inB]; omega
    go_enter Try.func112, Try.ntmps112
    go_wp2
    go_returns
    exact ⟨ret_bool (by simp [okCols, hf]), rfl⟩
  have HB : Hid (okCols cs = colsB [] cs) := by
    have hf : inB cs.length 1 12 = true := by simp [inB]; omega
    simp [Hid, okCols, hf]
  go_enter Try.func112, Try.ntmps112
  go_wp2
  go_loopw [15] (fun i wr => ∃ k : Nat, k ≤ cs.length ∧ i = .int .i64 k ∧ wr = w ∧ colsB [] cs = colsB (cs.take k) (cs.drop k)) (fun i _ => cs.length - (intOf i).toNat)
  case atStart => exact ⟨0, Nat.zero_le _, rfl, rfl, by simp⟩
  case round =>
    obtain ⟨k, hk, rfl, hwr, heq⟩ := hrel
    replace hwr := hwr.symm
    subst hwr
    have HE : Hid (colsB [] cs = colsB (cs.take k) (cs.drop k)) := heq
    clear heq
    by_cases hkl : k < cs.length
    · obtain ⟨m, hm⟩ : ∃ m, cs[k]? = some m := ⟨cs[k], by simp [hkl]⟩
      obtain ⟨rfl, hblt, _, hcell⟩ := ha k hkl
      have hc0 := hcell k m hm
      have hms := hw m (List.mem_of_getElem? hm)
      have HS : Hid (colsB (cs.take k) (cs.drop k) = (nameB m && !hasS (cs.take k) m && colsB (cs.take (k + 1)) (cs.drop (k + 1)))) := colsB_step hm
      obtain ⟨g', hcut⟩ := hr.cut (Nat.le_of_lt hkl)
      clear hcell hm ha hr hw
      by_cases hnm : nameB m = true
      rotate_left
      · have hf : nameB m = false := by simpa using hnm
        have HF : Hid (nameB m = false) := hf
        go_wp2_with (go_at_call 71; refine (implName_any m _ hms).mono ?_; rintro e w1 ⟨rfl, rfl⟩)
        go_returns
        exact ⟨ret_bool (by rw [HB.out, HE.out, HS.out, HF.out]; rfl), rfl⟩
      · have HN : Hid (nameB m = true) := hnm
        have hcon := contains_any _ _ _ m _ hcut
        obtain ⟨hs, HH⟩ : ∃ hs, Hid (hasS (cs.take k) m = hs) := ⟨_, rfl⟩
        rw [HH.out] at hcon
        cases hs with
        | true =>
          go_wp2_with (first | (go_at_call 71; refine (implName_any m _ hms).mono ?_; rintro e w1 ⟨rfl, rfl⟩) | (go_at_call 142; refine Calls.mono hcon ?_; rintro q w2 ⟨rfl, rfl⟩))
          go_returns
          exact ⟨ret_bool (by rw [HB.out, HE.out, HS.out, HN.out, HH.out]; rfl), rfl⟩
        | false =>
          go_wp2_with (first | (go_at_call 71; refine (implName_any m _ hms).mono ?_; rintro e w1 ⟨rfl, rfl⟩) | (go_at_call 142; refine Calls.mono hcon ?_; rintro q w2 ⟨rfl, rfl⟩))
          exact ⟨⟨k + 1, hkl, by simp, by first | rfl | trivial, by rw [HE.out, HS.out, HN.out, HH.out]; rfl⟩, by simp [intOf]; omega⟩
    · obtain rfl : k = cs.length := by omega
      clear ha hr
      go_wp2
      go_returns
      exact ⟨ret_bool (by rw [HB.out, HE.out, List.drop_length]; rfl), rfl⟩
set_option maxHeartbeats 4000000 in
set_option maxRecDepth 100000 in
theorem implSchemasOk_any (v : Value) (rs : List S2) (w : World) (hw : HsWf rs) (hr : SchsIs w v rs) :
    Calls Try.prog 70 #[v] w fun e w' => e = .returned (.bool (okSch rs)) ∧ Below w.heap.size w w' := by
  obtain ⟨a, c, b, o, rfl, hl, hc, ha⟩ := hr.pick
  unfold maxLen at hc
  clear hr
  by_cases h2 : 20 < (rs.length : Int)
  · go_enter Try.func70, Try.ntmps70
    go_wp2
    go_returns
    exact ⟨ret_bool (by simp [okSch, show ¬ rs.length ≤ 20 from by omega]), by go_grown⟩
  have HB : Hid (okSch rs = okHs none rs) := by simp [Hid, okSch, show rs.length ≤ 20 from by omega]
  go_enter Try.func70, Try.ntmps70
  go_wp2
  go_loopw [10] (fun i wr => ∃ (k : Nat) (q : Int), k ≤ rs.length ∧ q = k ∧ i = .int .i64 q ∧ Below w.heap.size w wr ∧ okHs none rs = okHs (prevH rs k) (rs.drop k)) (fun i _ => rs.length - (intOf i).toNat)
  case atStart => exact ⟨0, 0, Nat.zero_le _, rfl, rfl, by go_grown, by simp [prevH]⟩
  case round =>
    obtain ⟨k, q, hk, hq, rfl, hb, heq⟩ := hrel
    have HE : Hid (okHs none rs = okHs (prevH rs k) (rs.drop k)) := heq
    have hzb := hb.size
    clear heq
    by_cases hlt : k < rs.length
    · obtain ⟨rfl, hblt, hL⟩ := ha k hlt
      obtain ⟨x, u, g, hx, c0, c1, hR, hbr⟩ := hL.at hblt hb hlt
      obtain ⟨ur, cr, rfl, _, _⟩ := hR.shape
      obtain ⟨hxs, hxw⟩ := hw x (List.mem_of_getElem? hx)
      have HS : Hid (okHs (prevH rs k) (rs.drop k) = (nameB x.s && okCols x.cs && okPrevH (prevH rs k) x && okHs (prevH rs (k + 1)) (rs.drop (k + 1)))) := okHs_step hx
      by_cases hnm : nameB x.s = true
      rotate_left
      · have hf : nameB x.s = false := by simpa using hnm
        clear ha hw hL hx
        subst hq
        go_wp2_with (first | (go_at_call 71; refine (implName_any x.s _ hxs).mono ?_; rintro e w1 ⟨rfl, rfl⟩) | (go_at_call 112; refine Calls.mono (columnsOk_any _ x.cs g _ hxw (hR.below (by repeat (first | exact Below.refl _ _ | refine Below.drew ?_ | refine Below.alloc ?_ (by first | (simp; done) | (simp; omega) | omega) _ | refine Below.setCell ?_ (by first | (simp; done) | (simp; omega) | omega) _ | refine bstep (by assumption) (by first | (simp; done) | (simp; omega) | omega) ?_)))) ?_; rintro e w2 ⟨rfl, rfl⟩) | fail)
        go_returns
        refine ⟨ret_bool ?_, by repeat (first | exact Below.refl _ _ | refine Below.drew ?_ | refine Below.alloc ?_ (by first | (simp; done) | (simp; omega) | omega) _ | refine Below.setCell ?_ (by first | (simp; done) | (simp; omega) | omega) _ | refine bstep (by assumption) (by first | (simp; done) | (simp; omega) | omega) ?_)⟩
        rw [HB.out, HE.out, HS.out, hf]
        simp
      by_cases hpl : okCols x.cs = true
      rotate_left
      · have hf : okCols x.cs = false := by simpa using hpl
        clear ha hw hL hx
        subst hq
        go_wp2_with (first | (go_at_call 71; refine (implName_any x.s _ hxs).mono ?_; rintro e w1 ⟨rfl, rfl⟩) | (go_at_call 112; refine Calls.mono (columnsOk_any _ x.cs g _ hxw (hR.below (by repeat (first | exact Below.refl _ _ | refine Below.drew ?_ | refine Below.alloc ?_ (by first | (simp; done) | (simp; omega) | omega) _ | refine Below.setCell ?_ (by first | (simp; done) | (simp; omega) | omega) _ | refine bstep (by assumption) (by first | (simp; done) | (simp; omega) | omega) ?_)))) ?_; rintro e w2 ⟨rfl, rfl⟩) | fail)
        go_returns
        refine ⟨ret_bool ?_, by repeat (first | exact Below.refl _ _ | refine Below.drew ?_ | refine Below.alloc ?_ (by first | (simp; done) | (simp; omega) | omega) _ | refine Below.setCell ?_ (by first | (simp; done) | (simp; omega) | omega) _ | refine bstep (by assumption) (by first | (simp; done) | (simp; omega) | omega) ?_)⟩
        rw [HB.out, HE.out, HS.out, hf]
        simp
      rcases Nat.eq_zero_or_pos k with hk0 | hk0
      · subst hk0
        obtain rfl : q = 0 := by simpa using hq
        rw [Nat.zero_mul, Nat.add_zero] at c0 c1
        clear ha hw hL hx hq
        go_wp2_with (first | (go_at_call 71; refine (implName_any x.s _ hxs).mono ?_; rintro e w1 ⟨rfl, rfl⟩) | (go_at_call 112; refine Calls.mono (columnsOk_any _ x.cs g _ hxw (hR.below (by repeat (first | exact Below.refl _ _ | refine Below.drew ?_ | refine Below.alloc ?_ (by first | (simp; done) | (simp; omega) | omega) _ | refine Below.setCell ?_ (by first | (simp; done) | (simp; omega) | omega) _ | refine bstep (by assumption) (by first | (simp; done) | (simp; omega) | omega) ?_)))) ?_; rintro e w2 ⟨rfl, rfl⟩) | fail)
        go_region
        go_wp2
        go_roundw
        case rel =>
          refine ⟨1, 1, hlt, rfl, by simp, by repeat (first | exact Below.refl _ _ | refine Below.drew ?_ | refine Below.alloc ?_ (by first | (simp; done) | (simp; omega) | omega) _ | refine Below.setCell ?_ (by first | (simp; done) | (simp; omega) | omega) _ | refine bstep (by assumption) (by first | (simp; done) | (simp; omega) | omega) ?_), ?_⟩
          rw [HE.out, HS.out, hnm, hpl, prevH_zero]
          simp [okPrevH]
        case measure => simp [intOf]; omega
      · obtain ⟨j, rfl⟩ : ∃ j, k = j + 1 := ⟨k - 1, by omega⟩
        obtain rfl : q = (j : Int) + 1 := by omega
        obtain ⟨y, t, gy, hy, d0, d1, hT, _⟩ := hL.at hblt hb (show j < rs.length by omega)
        have HP : Hid (prevH rs (j + 1) = some y) := prevH_succ hy
        clear ha hw hL hx hy hq d1 hT
        go_wp2_with (first | (go_at_call 71; refine (implName_any x.s _ hxs).mono ?_; rintro e w1 ⟨rfl, rfl⟩) | (go_at_call 112; refine Calls.mono (columnsOk_any _ x.cs g _ hxw (hR.below (by repeat (first | exact Below.refl _ _ | refine Below.drew ?_ | refine Below.alloc ?_ (by first | (simp; done) | (simp; omega) | omega) _ | refine Below.setCell ?_ (by first | (simp; done) | (simp; omega) | omega) _ | refine bstep (by assumption) (by first | (simp; done) | (simp; omega) | omega) ?_)))) ?_; rintro e w2 ⟨rfl, rfl⟩) | fail)
        have hw1 : IntKind.i64.wrap (j : Int) = j := by rw [IntKind.wrap_i64]; omega
        have hw2 : IntKind.i64.wrap ((j : Int) + 1 - 1) = j := by rw [IntKind.wrap_i64]; omega
        have hi0 : (0 : Int) ≤ j := by omega
        have hi1 : (j : Int) < rs.length := by omega
        have hi2 : (0 : Int) < (j : Int) + 1 := by omega
        have HQ : Hid (okPrevH (prevH rs (j + 1)) x = Op.bytesLess y.s.toList x.s.toList) := by rw [HP.out]; rfl
        go_region_held3 (fun w' => w'.cell? ⟨wr.heap.size, 0, none⟩ = some (.string x.s) ∧ w'.cell? ⟨b, o + j * 2, none⟩ = some (.string y.s)) (refine ⟨?_, ?_⟩ <;> first | (go_simp; done) | (exact cell_later (by assumption) (by go_simp))) (fail)
        go_wp2
        · have hcf : Op.bytesLess y.s.toList x.s.toList = false := by
            have h9 : (!Op.bytesLess y.s.toList x.s.toList) = true := by assumption
            simpa using h9
          go_returns
          refine ⟨ret_bool ?_, by repeat (first | exact Below.refl _ _ | refine Below.drew ?_ | refine Below.alloc ?_ (by first | (simp; done) | (simp; omega) | omega) _ | refine Below.setCell ?_ (by first | (simp; done) | (simp; omega) | omega) _ | refine bstep (by assumption) (by first | (simp; done) | (simp; omega) | omega) ?_)⟩
          rw [HB.out, HE.out, HS.out, HQ.out, hcf]
          simp
        · have hcmp : Op.bytesLess y.s.toList x.s.toList = true := by
            have h9 : (!Op.bytesLess y.s.toList x.s.toList) = false := by assumption
            simpa using h9
          refine ⟨⟨j + 1 + 1, (j : Int) + 1 + 1, hlt, by omega, rfl, by repeat (first | exact Below.refl _ _ | refine Below.drew ?_ | refine Below.alloc ?_ (by first | (simp; done) | (simp; omega) | omega) _ | refine Below.setCell ?_ (by first | (simp; done) | (simp; omega) | omega) _ | refine bstep (by assumption) (by first | (simp; done) | (simp; omega) | omega) ?_), ?_⟩, by simp [intOf]; omega⟩
          rw [HE.out, HS.out, HQ.out, hnm, hpl, hcmp]
          simp
    · clear ha hw
      go_wp2
      go_returns
      refine ⟨ret_bool ?_, hb⟩
      rw [HB.out, HE.out, List.drop_eq_nil_of_le (by omega)]
      rfl
end Go.Proofs.Ytdkbhoichmcodaa
/- Own text. The contract of impl.StepOk. -/
namespace Go.Proofs.Ytdkbhoichmcodaa
open Go.RowKit
set_option linter.unusedVariables false
theorem isEmpty_len {α : Type} (l : List α) : ((l.length : Int) == 0) = l.isEmpty := by cases l <;> simp; omega
/-- one schema in a list of its own. -/
theorem schs_one {w : World} {s : ByteArray} {uc : Value} {cs : List ByteArray} {g : List Nat} (h : StrsF w uc cs g) {a : Option Addr} {B : Nat} (ha : a = some ⟨B, 0, none⟩) (hlt : B < w.heap.size) (h0 : w.cell? ⟨B, 0, none⟩ = some (.string s)) (h1 : w.cell? ⟨B, 1, none⟩ = some uc) : SchsIs w (.slice a 1 1) [⟨s, cs⟩] := by
  refine ⟨a, 1, rfl, Nat.le_refl _, by unfold maxLen; omega, fun _ => ⟨B, 0, ha, hlt, fun i x hx => ?_⟩⟩
  match i, hx with
  | 0, hx =>
    obtain rfl : (⟨s, cs⟩ : S2) = x := by simpa using hx
    exact ⟨uc, g, h0, h1, h⟩
  | i + 1, hx => simp at hx
set_option maxHeartbeats 4000000 in
set_option maxRecDepth 100000 in
theorem implStepOk_any (x : T5) (uc ur : Value) (w : World) (hw : x.wf) (hr : StpIs w uc ur x) :
    Calls Try.prog 27 #[(.agg #[.int .i64 x.k, .string x.s, uc, .string x.q, ur])] w fun e w' => e = .returned (.bool (okStep x)) ∧ Below w.heap.size w w' := by
  obtain ⟨_, ws, wc, wq, wr⟩ := hw
  obtain ⟨⟨ac, cc, rfl, _, _⟩, ar, cr, rfl, _, _⟩ := hr.shape
  obtain ⟨⟨g, hS⟩, hR⟩ := hr
  have e2 := isEmpty_len x.cs
  have e4 := isEmpty_len x.rs
  obtain ⟨b1, e1⟩ : ∃ b, x.s.toList.isEmpty = b := ⟨_, rfl⟩
  obtain ⟨b2, HB2⟩ : ∃ b, Hid (x.cs.isEmpty = b) := ⟨_, rfl⟩
  obtain ⟨b3, e3⟩ : ∃ b, x.q.toList.isEmpty = b := ⟨_, rfl⟩
  obtain ⟨b4, HB4⟩ : ∃ b, Hid (x.rs.isEmpty = b) := ⟨_, rfl⟩
  rw [HB2.out] at e2
  rw [HB4.out] at e4
  have HK : Hid (okStep x = if x.k = 0 then okSch [⟨x.s, x.cs⟩] && b3 && b4
    else if x.k = 1 then nameB x.s && b2 && decide (x.q.size ≤ 1000) && b4
    else if x.k = 2 then nameB x.s && b2 && b3 && b4
    else if x.k = 3 then b1 && b2 && b3 && okRels x.rs
    else false) := by simp only [Hid, okStep, e1, HB2.out, e3, HB4.out]
  by_cases k0 : x.k = 0
  · rw [if_pos k0] at HK
    have k0' : (x.k == 0) = true := by simpa using k0
    obtain ⟨bo, HO⟩ : ∃ b, Hid (okSch [⟨x.s, x.cs⟩] = b) := ⟨_, rfl⟩
    clear k0
    go_enter Try.func27, Try.ntmps27
    go_wp2_with fail
    go_quiet (fail)
    go_wp2_with fail
    refine Calls.mono (implSchemasOk_any _ [⟨x.s, x.cs⟩] _ ?hw (schs_one (s := x.s) (hS.below ?hb) rfl ?hl ?h0 ?h1)) ?_
    case hw => intro y hy; obtain rfl := List.mem_singleton.1 hy; exact ⟨ws, wc⟩
    case hb => repeat (first | (with_reducible exact Below.refl _ _) | (with_reducible refine Below.drew ?_) | (with_reducible refine belowN ?_ _) | (with_reducible refine Below.alloc ?_ ?hh _; case hh => first | (simp; done) | (simp; omega) | omega) | (with_reducible refine Below.setCell ?_ ?hh _; case hh => first | (simp; done) | (simp; omega) | omega) | refine bstep (by assumption) (by first | (simp; done) | (simp; omega) | omega) ?_)
    case hl => simp
    case h0 => go_simp
    case h1 => go_simp
    rw [HO.out]
    rintro e w1 ⟨rfl, hb1⟩
    have bel1 : Below w.heap.size w w1 := by
      refine Below.trans ?_ (hb1.mono ?_)
      · repeat (first | (with_reducible exact Below.refl _ _) | (with_reducible refine Below.drew ?_) | (with_reducible refine belowN ?_ _) | (with_reducible refine Below.alloc ?_ ?hh _; case hh => first | (simp; done) | (simp; omega) | omega) | (with_reducible refine Below.setCell ?_ ?hh _; case hh => first | (simp; done) | (simp; omega) | omega) | refine bstep (by assumption) (by first | (simp; done) | (simp; omega) | omega) ?_)
      · (simp; try omega)
    cases bo <;> cases b3 <;> cases b4 <;> (
      go_wp2_with fail
      go_returns
      exact ⟨ret_bool (by rw [HK.out, HO.out]; rfl), bel1⟩)
  have k0' : (x.k == 0) = false := by simpa using k0
  rw [if_neg k0] at HK
  clear k0
  by_cases k1 : x.k = 1
  · rw [if_pos k1] at HK
    have k1' : (x.k == 1) = true := by simpa using k1
    obtain ⟨bo, HO⟩ : ∃ b, Hid (nameB x.s = b) := ⟨_, rfl⟩
    have hq := wq
    unfold maxLen at hq
    by_cases hk : (x.q.size : Int) ≤ 1000
    · have HQ : Hid (decide (x.q.size ≤ 1000) = true) := by simp [Hid]; omega
      clear k1
      go_enter Try.func27, Try.ntmps27
      go_wp2_with fail
      go_quiet (fail)
      go_wp2_with fail
      refine Calls.mono (implName_any x.s _ ws) ?_
      rw [HO.out]
      rintro e w1 ⟨rfl, rfl⟩
      cases bo <;> cases b2 <;> cases b4 <;> (
        go_wp2_with fail
        go_returns
        exact ⟨ret_bool (by rw [HK.out, HO.out, HQ.out]; rfl), by repeat (first | (with_reducible exact Below.refl _ _) | (with_reducible refine Below.drew ?_) | (with_reducible refine belowN ?_ _) | (with_reducible refine Below.alloc ?_ ?hh _; case hh => first | (simp; done) | (simp; omega) | omega) | (with_reducible refine Below.setCell ?_ ?hh _; case hh => first | (simp; done) | (simp; omega) | omega) | refine bstep (by assumption) (by first | (simp; done) | (simp; omega) | omega) ?_)⟩)
    · have HQ : Hid (decide (x.q.size ≤ 1000) = false) := by simp [Hid]; omega
      clear k1
      go_enter Try.func27, Try.ntmps27
      go_wp2_with fail
      go_quiet (fail)
      go_wp2_with fail
      refine Calls.mono (implName_any x.s _ ws) ?_
      rw [HO.out]
      rintro e w1 ⟨rfl, rfl⟩
      cases bo <;> cases b2 <;> cases b4 <;> (
        go_wp2_with fail
        go_returns
        exact ⟨ret_bool (by rw [HK.out, HO.out, HQ.out]; rfl), by repeat (first | (with_reducible exact Below.refl _ _) | (with_reducible refine Below.drew ?_) | (with_reducible refine belowN ?_ _) | (with_reducible refine Below.alloc ?_ ?hh _; case hh => first | (simp; done) | (simp; omega) | omega) | (with_reducible refine Below.setCell ?_ ?hh _; case hh => first | (simp; done) | (simp; omega) | omega) | refine bstep (by assumption) (by first | (simp; done) | (simp; omega) | omega) ?_)⟩)
  have k1' : (x.k == 1) = false := by simpa using k1
  rw [if_neg k1] at HK
  clear k1
  by_cases k2 : x.k = 2
  · rw [if_pos k2] at HK
    have k2' : (x.k == 2) = true := by simpa using k2
    obtain ⟨bo, HO⟩ : ∃ b, Hid (nameB x.s = b) := ⟨_, rfl⟩
    clear k2
    go_enter Try.func27, Try.ntmps27
    go_wp2_with fail
    go_quiet (fail)
    go_wp2_with fail
    refine Calls.mono (implName_any x.s _ ws) ?_
    rw [HO.out]
    rintro e w1 ⟨rfl, rfl⟩
    cases bo <;> cases b2 <;> cases b3 <;> cases b4 <;> (
      go_wp2_with fail
      go_returns
      exact ⟨ret_bool (by rw [HK.out, HO.out]; rfl), by repeat (first | (with_reducible exact Below.refl _ _) | (with_reducible refine Below.drew ?_) | (with_reducible refine belowN ?_ _) | (with_reducible refine Below.alloc ?_ ?hh _; case hh => first | (simp; done) | (simp; omega) | omega) | (with_reducible refine Below.setCell ?_ ?hh _; case hh => first | (simp; done) | (simp; omega) | omega) | refine bstep (by assumption) (by first | (simp; done) | (simp; omega) | omega) ?_)⟩)
  have k2' : (x.k == 2) = false := by simpa using k2
  rw [if_neg k2] at HK
  clear k2
  by_cases k3 : x.k = 3
  · rw [if_pos k3] at HK
    have k3' : (x.k == 3) = true := by simpa using k3
    obtain ⟨bo, HO⟩ : ∃ b, Hid (okRels x.rs = b) := ⟨_, rfl⟩
    clear k3
    cases b1 with
    | false =>
      go_enter Try.func27, Try.ntmps27
      go_wp2_with fail
      go_quiet (fail)
      go_wp2_with fail
      go_returns
      exact ⟨ret_bool (by rw [HK.out]; rfl), by repeat (first | (with_reducible exact Below.refl _ _) | (with_reducible refine Below.drew ?_) | (with_reducible refine belowN ?_ _) | (with_reducible refine Below.alloc ?_ ?hh _; case hh => first | (simp; done) | (simp; omega) | omega) | (with_reducible refine Below.setCell ?_ ?hh _; case hh => first | (simp; done) | (simp; omega) | omega) | refine bstep (by assumption) (by first | (simp; done) | (simp; omega) | omega) ?_)⟩
    | true =>
    cases b2 with
    | false =>
      go_enter Try.func27, Try.ntmps27
      go_wp2_with fail
      go_quiet (fail)
      go_wp2_with fail
      go_returns
      exact ⟨ret_bool (by rw [HK.out]; rfl), by repeat (first | (with_reducible exact Below.refl _ _) | (with_reducible refine Below.drew ?_) | (with_reducible refine belowN ?_ _) | (with_reducible refine Below.alloc ?_ ?hh _; case hh => first | (simp; done) | (simp; omega) | omega) | (with_reducible refine Below.setCell ?_ ?hh _; case hh => first | (simp; done) | (simp; omega) | omega) | refine bstep (by assumption) (by first | (simp; done) | (simp; omega) | omega) ?_)⟩
    | true =>
    cases b3 with
    | false =>
      go_enter Try.func27, Try.ntmps27
      go_wp2_with fail
      go_quiet (fail)
      go_wp2_with fail
      go_returns
      exact ⟨ret_bool (by rw [HK.out]; rfl), by repeat (first | (with_reducible exact Below.refl _ _) | (with_reducible refine Below.drew ?_) | (with_reducible refine belowN ?_ _) | (with_reducible refine Below.alloc ?_ ?hh _; case hh => first | (simp; done) | (simp; omega) | omega) | (with_reducible refine Below.setCell ?_ ?hh _; case hh => first | (simp; done) | (simp; omega) | omega) | refine bstep (by assumption) (by first | (simp; done) | (simp; omega) | omega) ?_)⟩
    | true =>
    go_enter Try.func27, Try.ntmps27
    go_wp2_with fail
    go_quiet (fail)
    go_wp2_with fail
    refine Calls.mono (relsOk_any _ x.rs _ wr (hR.below ?hb)) ?_
    case hb => repeat (first | (with_reducible exact Below.refl _ _) | (with_reducible refine Below.drew ?_) | (with_reducible refine belowN ?_ _) | (with_reducible refine Below.alloc ?_ ?hh _; case hh => first | (simp; done) | (simp; omega) | omega) | (with_reducible refine Below.setCell ?_ ?hh _; case hh => first | (simp; done) | (simp; omega) | omega) | refine bstep (by assumption) (by first | (simp; done) | (simp; omega) | omega) ?_)
    rw [HO.out]
    rintro e w1 ⟨rfl, hb1⟩
    have bel1 : Below w.heap.size w w1 := by
      refine Below.trans ?_ (hb1.mono ?_)
      · repeat (first | (with_reducible exact Below.refl _ _) | (with_reducible refine Below.drew ?_) | (with_reducible refine belowN ?_ _) | (with_reducible refine Below.alloc ?_ ?hh _; case hh => first | (simp; done) | (simp; omega) | omega) | (with_reducible refine Below.setCell ?_ ?hh _; case hh => first | (simp; done) | (simp; omega) | omega) | refine bstep (by assumption) (by first | (simp; done) | (simp; omega) | omega) ?_)
      · (simp; try omega)
    go_wp2_with fail
    go_returns
    exact ⟨ret_bool (by rw [HK.out, HO.out]; rfl), bel1⟩
  have k3' : (x.k == 3) = false := by simpa using k3
  rw [if_neg k3] at HK
  clear k3
  go_enter Try.func27, Try.ntmps27
  go_wp2_with fail
  go_quiet (fail)
  go_wp2_with fail
  go_returns
  exact ⟨ret_bool (by rw [HK.out]), by repeat (first | (with_reducible exact Below.refl _ _) | (with_reducible refine Below.drew ?_) | (with_reducible refine belowN ?_ _) | (with_reducible refine Below.alloc ?_ ?hh _; case hh => first | (simp; done) | (simp; omega) | omega) | (with_reducible refine Below.setCell ?_ ?hh _; case hh => first | (simp; done) | (simp; omega) | omega) | refine bstep (by assumption) (by first | (simp; done) | (simp; omega) | omega) ?_)⟩
end Go.Proofs.Ytdkbhoichmcodaa
