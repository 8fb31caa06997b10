/- Own text. The contract of impl.ColsOf. -/
import Derived.Test.YtpkebpbflfhbnaaColJ
import Derived.Test.YtpkebpbflfhbnaaCpN
import Derived.Test.YtpkebpbflfhbnaaMarkX
import Derived.Test.YtpkebpbflfhbnaaShelf
import Derived.Handy
import Derived.Maps.AppendAt
namespace Go.Proofs.Ytpkebpbflfhbnaa
open Go.RowKit Go.Deep Go.ChangeShapes Go.WideShapes
set_option linter.unusedVariables false
set_option maxHeartbeats 4000000 in
set_option maxRecDepth 100000 in
theorem implCols_any (D : Nat) (e : E7) (u : Value) (F : List Nat) (w : World) (he : e.wf) (hk : KidsIs w (D + 1) u e.ks F) (hd : F.Nodup ∧ ∀ b ∈ F, Fr w b) (hn : wtE e ≤ 1048576) :
    Calls Try.prog 10 #[(.agg #[.int .i64 e.k, .int .i64 e.n, .int .i64 e.v.k, .int .i64 e.v.n, .string e.v.s, .string e.p, u])] w fun x w' => (∃ v g, x = .returned v ∧ IntsF w' v (colsL (D + 1) e) g ∧ Own w' w.heap.size g) ∧ Below w.heap.size w w' := by
  obtain ⟨i0, hi, hz0, hz1', hz2'⟩ := info_parts Try.infoInt
  obtain ⟨a, c, rfl, hl, hc⟩ := hk.shape
  have hde := hk.re.de
  obtain ⟨L, hL⟩ : ∃ L, Hid (colsL (D + 1) e = L) := ⟨_, rfl⟩
  rw [hL.out]
  go_enter Try.func10, Try.ntmps10
  go_wp2_with fail
  have hb0 : Below w.heap.size w ((w.alloc (.cells #[.int .i64 e.k, .int .i64 e.n, .int .i64 e.v.k, .int .i64 e.v.n, .string e.v.s, .string e.p, .slice a e.ks.length c] 33)).alloc (.cells #[] 3)) := by repeat (first | (with_reducible exact Below.refl _ _) | (with_reducible refine Below.drew ?_) | (with_reducible refine Below.alloc ?_ ?hh _; case hh => first | (simp; done) | (simp; omega) | omega) | (with_reducible refine Below.setCell ?_ ?hh _; case hh => first | (simp; done) | (simp; omega) | omega) | refine bstep (by assumption) (by first | (simp; done) | (simp; omega) | omega) ?_)
  refine Calls.mono (copyNodes_any D (ColIn (colsL (D + 1) e)) colIn_kid e (.slice a e.ks.length c) F _ he ⟨D + 1, hde, fun x h => h⟩ (hk.below hb0) (.inl ⟨hd.1, fun b hb => (hd.2 b hb).keep (hb0.block b (hk.lt b hb))⟩) (by omega)) ?_
  rintro x w1 ⟨⟨v1, w0, rfl, hw0, ns, hang, hown, h0, hQ, hdis, hlen⟩, hb1⟩
  have hz1 := hb1.size
  simp only [World.size_alloc] at hz1 hw0
  have hQat := hQ.at'
  have hmem : ∀ x, x ∈ L ↔ x ∈ colN ns := by
    intro x
    rw [← hL.out]
    constructor
    · exact fun hx => hQ.cols h0 hde hx
    · intro hx
      obtain ⟨y, hy, hy0, rfl⟩ := mem_colN.1 hx
      obtain ⟨j, hj, rfl⟩ := List.mem_iff_getElem.1 hy
      obtain ⟨⟨_, ⟨d', hd', hin⟩, _⟩, _⟩ := hQ.at' j ns[j] (by simp)
      cases d' with
      | zero => exact hd'.elim
      | succ d' => exact hin _ (mem_colsL.2 (.inl ⟨hy0, rfl⟩))
  have hasc : L.Pairwise (· < ·) := by rw [← hL.out]; exact asc_colsL _ _
  have HS : Hid (Lib.compact ((colN ns).mergeSort fun x y => decide (x ≤ y)) = L) := sortC (colN ns) L hasc hmem
  obtain ⟨g, cap, rfl, _, hn0, hcap, hcm, hgl, hgN, _⟩ := pts_read hown h0
  have hptr : ∀ k x, ns[k]? = some x → w1.cell? ⟨g, k, none⟩ = some (.pointer (some ⟨x.b, x.o, none⟩)) := by
    intro k x hx
    obtain ⟨g', cap', hv', _, _, _, _, _, _, hp⟩ := pts_read hown hx
    injection hv' with e1
    injection e1 with e1
    injection e1 with e1
    subst e1
    exact hp
  have hy0 : w1.ownsRow (w.heap.size + 1) 3 1 (.slice (some ⟨w.heap.size + 1, 0, none⟩) 0 0) 0 [] := by
    refine ownsE_keep (w := (w.alloc (.cells #[.int .i64 e.k, .int .i64 e.n, .int .i64 e.v.k, .int .i64 e.v.n, .string e.v.s, .string e.p, .slice a e.ks.length c] 33)).alloc (.cells #[] 3)) (ints_none (by simp) (Nat.le_refl _)) fun b hb => ?_
    simp [Value.ownBlock] at hb
    subst hb
    exact hb1.block _ (by simp)
  have bel1 : Below w.heap.size w w1 := by repeat (first | (with_reducible exact Below.refl _ _) | (with_reducible refine Below.drew ?_) | (with_reducible refine Below.alloc ?_ ?hh _; case hh => first | (simp; done) | (simp; omega) | omega) | (with_reducible refine Below.setCell ?_ ?hh _; case hh => first | (simp; done) | (simp; omega) | omega) | refine bstep (by assumption) (by first | (simp; done) | (simp; omega) | omega) ?_)
  have hzw : w.heap.size + 1 + 1 ≤ w1.heap.size := by omega
  unfold maxLen at hcm
  clear hb1 hQ hown h0 hdis hk hmem hasc hd hb0
  go_wp2
  go_loopw [3, 10] (fun y i wr => ∃ (k yb yc : Nat), k ≤ ns.length ∧ i = .int .i64 k ∧ y = .slice (some ⟨yb, 0, none⟩) (colN (ns.take k)).length yc ∧ wr.ownsRow (w.heap.size + 1) 3 1 (.slice (some ⟨yb, 0, none⟩) (colN (ns.take k)).length yc) (colN (ns.take k)).length (ints (colN (ns.take k))) ∧ (yb = w.heap.size + 1 ∨ w1.heap.size ≤ yb) ∧ (∀ b, b < w1.heap.size → b ≠ w.heap.size + 1 → wr.heap[b]? = w1.heap[b]?) ∧ w1.heap.size ≤ wr.heap.size ∧ Below w.heap.size w wr) (fun _ i _ => ns.length - (intOf i).toNat)
  case atStart => exact ⟨0, w.heap.size + 1, 0, Nat.zero_le _, rfl, by simp [colN], by simpa [colN, ints] using hy0, .inl rfl, fun b _ _ => rfl, Nat.le_refl _, bel1⟩
  case round =>
    obtain ⟨k, yb, yc, hkl, rfl, rfl, hO, hyb, hblk, hzr, hb⟩ := hrel
    by_cases hlt : k < ns.length
    · obtain ⟨x, hx⟩ : ∃ x, ns[k]? = some x := ⟨ns[k], by simp [hlt]⟩
      obtain ⟨⟨_, _, xN, xl, _, _⟩, ⟨c0, c1, _, _, _, _⟩, _⟩ := hQat k x hx
      have p1 := (cell_blk (o := k) (hblk g hgl (by omega))).trans (hptr k x hx)
      have d0 := (cell_blk (o := x.o) (hblk x.b xl (by omega))).trans c0
      have d1 := (cell_blk (o := x.o + 1) (hblk x.b xl (by omega))).trans c1
      have HT := colN_take hx
      have hcl := colN_len (ns.take k)
      have hcl2 : (ns.take k).length ≤ k := by simp; omega
      have hol := ownsE_lt hO
      by_cases h0 : x.e.k = 0
      · rw [if_pos h0] at HT
        have HT : Hid (colN (ns.take (k + 1)) = colN (ns.take k) ++ [x.e.n]) := HT
        rw [h0] at d0
        have HB : Hid (∀ b, b < w1.heap.size → b ≠ w.heap.size + 1 → wr.heap[b]? = w1.heap[b]?) := hblk
        generalize colN (ns.take k) = zs at *
        have hO3 : (wr.alloc (.cells #[.int .i64 x.e.n] 3)).ownsRow (w.heap.size + 1) 3 1 (.slice (some ⟨yb, 0, none⟩) zs.length yc) zs.length (ints zs) := ownsE_keep hO fun b hb => Below.heap_alloc _ _ _ (hol b hb).2
        have hnew : ∀ j' u, [Value.int .i64 x.e.n][j']? = some u → (wr.alloc (.cells #[.int .i64 x.e.n] 3)).cell? ((⟨wr.heap.size, 0, none⟩ : Addr).add j') = some u := by
          intro j' u hu
          match j', hu with
          | 0, hu => simp at hu; subst hu; go_simp
        have hybl : yb < wr.heap.size := (hol yb rfl).2
        clear hO hblk hptr hQat hx c0 c1 h0
        go_wp2_with (at_builtin; refine wpList_append_own_at _ rfl _ _ 28 rfl (w.heap.size + 1) 3 i0 _ 1 8 Try.underlying28 hi hz0 hz1' hz2' rfl (by decide) (.slice (some ⟨yb, 0, none⟩) zs.length yc) zs.length (ints zs) rfl hO3 ⟨wr.heap.size, 0, none⟩ 1 1 [.int .i64 x.e.n] rfl rfl hnew (by simp [Value.oneCell']) ?c3 ?c4 ?c5 ?_)
        case c3 => unfold maxLen; omega
        case c4 => omega
        case c5 => simp; omega
        intro v5 w5 hown5 hgr5 _ hat5
        have hsz5 := hgr5.size
        simp at hsz5
        have hown6 : w5.ownsRow (w.heap.size + 1) 3 1 v5 (zs ++ [x.e.n]).length (ints (zs ++ [x.e.n])) := by
          rw [List.length_append]
          simpa [ints] using hown5
        obtain ⟨b5, c5, hv5⟩ : ∃ b5 c5, v5 = .slice (some ⟨b5, 0, none⟩) (zs ++ [x.e.n]).length c5 := by
          rcases hown6.2 with ⟨_, h⟩ | ⟨b5, c5, _, hv, _⟩
          · simp at h
          · exact ⟨b5, c5, hv⟩
        subst hv5
        have hyb5 : b5 = w.heap.size + 1 ∨ w1.heap.size ≤ b5 := by
          rcases hat5 with h | h
          · simp [Value.ownBlock] at h; rw [h]; exact hyb
          · simp [Value.ownBlock] at h; omega
        have hblk5 : ∀ b, b < w1.heap.size → b ≠ w.heap.size + 1 → w5.heap[b]? = w1.heap[b]? := by
          intro b hb hbg
          rw [← HB.out b hb hbg, hgr5.block b (by simp; omega) (by simp [Value.ownBlock]; omega)]
          exact Below.heap_alloc _ _ _ (by omega)
        have hbw5 : Below w.heap.size w w5 := (hb.alloc (by omega) _).grown hgr5 (by simp; omega) (fun q hq => by simp [Value.ownBlock] at hq; omega)
        rw [← HT.out] at hown6
        have HL5 : Hid ((zs ++ [x.e.n]).length = (colN (ns.take (k + 1))).length) := by show _ = _; rw [HT.out]
        clear hown5 hgr5 hat5 hO3 hnew hol
        go_wp2
        exact ⟨⟨k + 1, b5, c5, hlt, by simp, by first | (rw [← HL5.out]; done) | (rw [← HL5.out]; simp), hown6, hyb5, hblk5, by omega, hbw5⟩, by simp [intOf]; omega⟩
      · rw [if_neg h0] at HT
        have HT : Hid (colN (ns.take (k + 1)) = colN (ns.take k)) := HT
        have hkb : (x.e.k == 0) = false := by simpa using h0
        have hkd : decide (x.e.k = 0) = false := by simpa using h0
        have HB : Hid (∀ b, b < w1.heap.size → b ≠ w.heap.size + 1 → wr.heap[b]? = w1.heap[b]?) := hblk
        clear hblk hptr hQat hx c0 c1 h0
        go_wp2
        exact ⟨⟨k + 1, yb, yc, hlt, by simp, by rw [HT.out], by rw [HT.out]; exact hO, hyb, HB.out, hzr, hb⟩, by simp [intOf]; omega⟩
    · obtain rfl : k = ns.length := by omega
      rw [List.take_length] at hO
      simp only [List.take_length]
      obtain ⟨hH, hc1, hc2, hN', hyl, hfz⟩ := own_holds hO
      have hcl := colN_len ns
      have hS3 := fun w2 w3 n q os => sorted_ints (w2 := w2) (w3 := w3) (n := n) (q := q) (os := os) (L := L) hH hc1 hc2 hN' hyl hfz
      have hms : ((colN ns).mergeSort fun x y => decide (x ≤ y)).length = (colN ns).length := List.length_mergeSort _
      have hCM := fun w2 => Try.slices_Compact_int yb 0 yc ((colN ns).mergeSort fun x y => decide (x ≤ y)) w2
      have hHM : ∀ n os, Sort.Holds (Value.int .i64) (Sort.grow (Sort.putRow (Value.int .i64) (Sort.ahead wr n) yb 0 ((colN ns).mergeSort fun x y => decide (x ≤ y)).toArray) os) yb 0 ((colN ns).mergeSort fun x y => decide (x ≤ y)).toArray := fun n os =>
        Sort.holds_grow _ _ _ _ _ _ (by simpa using hyl) (Sort.holds_putRow _ _ _ _ (colN ns).toArray _ (Sort.holds_ahead _ _ _ _ _ _ hH) (by simp))
      clear hblk hptr hQat hO
      go_wp2_with fail
      refine Calls.mono (Try.slices_Sort_int yb 0 yc (colN ns) wr hH hyl (by omega)) ?_
      rintro q w2 ⟨rfl, n2, os2, h2⟩
      have hH2 := hHM n2 os2
      rw [← h2] at hH2
      have hC2 := hCM w2 hH2 (by rw [hms]; omega) (by rw [hms]; exact hc1)
      rw [hms] at hC2
      have HS3 := hS3 w2
      have H2 : Hid (w2 = Sort.grow (Sort.putRow (Value.int .i64) (Sort.ahead wr n2) yb 0 ((colN ns).mergeSort fun x y => decide (x ≤ y)).toArray) os2) := h2
      have hl2 : (Lib.compact ((colN ns).mergeSort fun x y => decide (x ≤ y))).length = L.length := by rw [HS.out]
      clear hCM hHM hS3 hH hH2 h2
      go_wp2_with fail
      refine Calls.mono hC2 ?_
      rintro q w3 ⟨rfl, q3, h3⟩
      obtain ⟨⟨gg, hI3, hO3⟩, hb3⟩ := HS3 w3 n2 q3 os2 H2.out h3 HS.out
      rw [hl2]
      have hbE : Below w.heap.size w w3 := hb.trans (hb3.mono (by omega))
      clear hC2 HS3 h3
      go_wp2
      refine bodyPost_ret (v := .slice (some ⟨yb, 0, none⟩) L.length yc) (by simp [results, Try.results10, go_sem]) rfl ⟨⟨_, gg, rfl, hI3, ⟨hO3.1, fun b hb' => ⟨by have := (hO3.2 b hb').1; omega, (hO3.2 b hb').2⟩⟩⟩, hbE⟩
end Go.Proofs.Ytpkebpbflfhbnaa
