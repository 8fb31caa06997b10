/- Own texts, joined: contracts that the law's proof goes by. -/
import Derived.Test.YtaeibfipcenhaaaGreatDoorGLViewsOk34
import Derived.Test.YtaeibfipcenhaaaGreatDoorGLViewsOk43
import Derived.Test.YtaeibfipcenhaaaGreatDoorGLViewsOk16
import Derived.Handy
import Derived.Maps.AppendAt
import Derived.Test.YtaeibfipcenhaaaGreatDoorGLViewsOk35
import Derived.Test.YtaeibfipcenhaaaGreatDoorGLViewsOk25
import Derived.Test.YtaeibfipcenhaaaGreatDoorGLViewsOk28
import Derived.Test.YtaeibfipcenhaaaGreatDoorGLViewsOk41
import Derived.Test.YtaeibfipcenhaaaGreatDoorGLViewsOk36
import Derived.BigQuiet
import Derived.Deep.RegionHeld3
namespace Go.Proofs.YtaeibfipcenhaaaGreatDoor
open Go.RowKit Go.Deep Go.ChangeShapes Go.WideShapes
set_option linter.unusedVariables false
set_option maxHeartbeats 4000000 in
set_option maxRecDepth 100000 in
theorem implCols_any (D : Nat) (e : E7) (u : Value) (F : List Nat) (w : World) (he : e.wf) (hk : KidsIs w (D + 1) u e.ks F) (hd : F.Nodup ∧ ∀ b ∈ F, Fr w b) (hn : wtE e ≤ 1048576) :
    Calls Tryz.prog 98 #[(.agg #[.int .i64 e.k, .int .i64 e.n, .int .i64 e.v.k, .int .i64 e.v.n, .string e.v.s, .string e.p, u])] w fun x w' => (∃ v g, x = .returned v ∧ IntsF w' v (colsL (D + 1) e) g ∧ Own w' w.heap.size g) ∧ Below w.heap.size w w' := by
  obtain ⟨i0, hi, hz0, hz1', hz2'⟩ := info_parts Tryz.infoInt
  obtain ⟨a, c, rfl, hl, hc⟩ := hk.shape
  have hde := hk.re.de
  obtain ⟨L, hL⟩ : ∃ L, Hid (colsL (D + 1) e = L) := ⟨_, rfl⟩
  rw [hL.out]
  go_enter Tryz.func98, Tryz.ntmps98
  go_wp2_with fail
  have hb0 : Below w.heap.size w ((w.alloc (.cells #[.int .i64 e.k, .int .i64 e.n, .int .i64 e.v.k, .int .i64 e.v.n, .string e.v.s, .string e.p, .slice a e.ks.length c] 59)).alloc (.cells #[] 3)) := by repeat (first | (with_reducible exact Below.refl _ _) | (with_reducible refine Below.drew ?_) | (with_reducible refine Below.alloc ?_ ?hh _; case hh => first | (simp; done) | (simp; omega) | omega) | (with_reducible refine Below.setCell ?_ ?hh _; case hh => first | (simp; done) | (simp; omega) | omega) | refine bstep (by assumption) (by first | (simp; done) | (simp; omega) | omega) ?_)
  refine Calls.mono (copyNodes_any D (ColIn (colsL (D + 1) e)) colIn_kid e (.slice a e.ks.length c) F _ he ⟨D + 1, hde, fun x h => h⟩ (hk.below hb0) (.inl ⟨hd.1, fun b hb => (hd.2 b hb).keep (hb0.block b (hk.lt b hb))⟩) (by omega)) ?_
  rintro x w1 ⟨⟨v1, w0, rfl, hw0, ns, hang, hown, h0, hQ, hdis, hlen⟩, hb1⟩
  have hz1 := hb1.size
  simp only [World.size_alloc] at hz1 hw0
  have hQat := hQ.at'
  have hmem : ∀ x, x ∈ L ↔ x ∈ colN ns := by
    intro x
    rw [← hL.out]
    constructor
    · exact fun hx => hQ.cols h0 hde hx
    · intro hx
      obtain ⟨y, hy, hy0, rfl⟩ := mem_colN.1 hx
      obtain ⟨j, hj, rfl⟩ := List.mem_iff_getElem.1 hy
      obtain ⟨⟨_, ⟨d', hd', hin⟩, _⟩, _⟩ := hQ.at' j ns[j] (by simp)
      cases d' with
      | zero => exact hd'.elim
      | succ d' => exact hin _ (mem_colsL.2 (.inl ⟨hy0, rfl⟩))
  have hasc : L.Pairwise (· < ·) := by rw [← hL.out]; exact asc_colsL _ _
  have HS : Hid (Lib.compact ((colN ns).mergeSort fun x y => decide (x ≤ y)) = L) := sortC (colN ns) L hasc hmem
  obtain ⟨g, cap, rfl, _, hn0, hcap, hcm, hgl, hgN, _⟩ := pts_read hown h0
  have hptr : ∀ k x, ns[k]? = some x → w1.cell? ⟨g, k, none⟩ = some (.pointer (some ⟨x.b, x.o, none⟩)) := by
    intro k x hx
    obtain ⟨g', cap', hv', _, _, _, _, _, _, hp⟩ := pts_read hown hx
    injection hv' with e1
    injection e1 with e1
    injection e1 with e1
    subst e1
    exact hp
  have hy0 : w1.ownsRow (w.heap.size + 1) 3 1 (.slice (some ⟨w.heap.size + 1, 0, none⟩) 0 0) 0 [] := by
    refine ownsE_keep (w := (w.alloc (.cells #[.int .i64 e.k, .int .i64 e.n, .int .i64 e.v.k, .int .i64 e.v.n, .string e.v.s, .string e.p, .slice a e.ks.length c] 59)).alloc (.cells #[] 3)) (ints_none (by simp) (Nat.le_refl _)) fun b hb => ?_
    simp [Value.ownBlock] at hb
    subst hb
    exact hb1.block _ (by simp)
  have bel1 : Below w.heap.size w w1 := by repeat (first | (with_reducible exact Below.refl _ _) | (with_reducible refine Below.drew ?_) | (with_reducible refine Below.alloc ?_ ?hh _; case hh => first | (simp; done) | (simp; omega) | omega) | (with_reducible refine Below.setCell ?_ ?hh _; case hh => first | (simp; done) | (simp; omega) | omega) | refine bstep (by assumption) (by first | (simp; done) | (simp; omega) | omega) ?_)
  have hzw : w.heap.size + 1 + 1 ≤ w1.heap.size := by omega
  unfold maxLen at hcm
  clear hb1 hQ hown h0 hdis hk hmem hasc hd hb0
  go_wp2
  go_loopw [3, 10] (fun y i wr => ∃ (k yb yc : Nat), k ≤ ns.length ∧ i = .int .i64 k ∧ y = .slice (some ⟨yb, 0, none⟩) (colN (ns.take k)).length yc ∧ wr.ownsRow (w.heap.size + 1) 3 1 (.slice (some ⟨yb, 0, none⟩) (colN (ns.take k)).length yc) (colN (ns.take k)).length (ints (colN (ns.take k))) ∧ (yb = w.heap.size + 1 ∨ w1.heap.size ≤ yb) ∧ (∀ b, b < w1.heap.size → b ≠ w.heap.size + 1 → wr.heap[b]? = w1.heap[b]?) ∧ w1.heap.size ≤ wr.heap.size ∧ Below w.heap.size w wr) (fun _ i _ => ns.length - (intOf i).toNat)
  case atStart => exact ⟨0, w.heap.size + 1, 0, Nat.zero_le _, rfl, by simp [colN], by simpa [colN, ints] using hy0, .inl rfl, fun b _ _ => rfl, Nat.le_refl _, bel1⟩
  case round =>
    obtain ⟨k, yb, yc, hkl, rfl, rfl, hO, hyb, hblk, hzr, hb⟩ := hrel
    by_cases hlt : k < ns.length
    · obtain ⟨x, hx⟩ : ∃ x, ns[k]? = some x := ⟨ns[k], by simp [hlt]⟩
      obtain ⟨⟨_, _, xN, xl, _, _⟩, ⟨c0, c1, _, _, _, _⟩, _⟩ := hQat k x hx
      have p1 := (cell_blk (o := k) (hblk g hgl (by omega))).trans (hptr k x hx)
      have d0 := (cell_blk (o := x.o) (hblk x.b xl (by omega))).trans c0
      have d1 := (cell_blk (o := x.o + 1) (hblk x.b xl (by omega))).trans c1
      have HT := colN_take hx
      have hcl := colN_len (ns.take k)
      have hcl2 : (ns.take k).length ≤ k := by simp; omega
      have hol := ownsE_lt hO
      by_cases h0 : x.e.k = 0
      · rw [if_pos h0] at HT
        have HT : Hid (colN (ns.take (k + 1)) = colN (ns.take k) ++ [x.e.n]) := HT
        rw [h0] at d0
        have HB : Hid (∀ b, b < w1.heap.size → b ≠ w.heap.size + 1 → wr.heap[b]? = w1.heap[b]?) := hblk
        generalize colN (ns.take k) = zs at *
        have hO3 : (wr.alloc (.cells #[.int .i64 x.e.n] 3)).ownsRow (w.heap.size + 1) 3 1 (.slice (some ⟨yb, 0, none⟩) zs.length yc) zs.length (ints zs) := ownsE_keep hO fun b hb => Below.heap_alloc _ _ _ (hol b hb).2
        have hnew : ∀ j' u, [Value.int .i64 x.e.n][j']? = some u → (wr.alloc (.cells #[.int .i64 x.e.n] 3)).cell? ((⟨wr.heap.size, 0, none⟩ : Addr).add j') = some u := by
          intro j' u hu
          match j', hu with
          | 0, hu => simp at hu; subst hu; go_simp
        have hybl : yb < wr.heap.size := (hol yb rfl).2
        clear hO hblk hptr hQat hx c0 c1 h0
        go_wp2_with (at_builtin; refine wpList_append_own_at _ rfl _ _ 100 rfl (w.heap.size + 1) 3 i0 _ 1 8 Tryz.underlying100 hi hz0 hz1' hz2' rfl (by decide) (.slice (some ⟨yb, 0, none⟩) zs.length yc) zs.length (ints zs) rfl hO3 ⟨wr.heap.size, 0, none⟩ 1 1 [.int .i64 x.e.n] rfl rfl hnew (by simp [Value.oneCell']) ?c3 ?c4 ?c5 ?_)
        case c3 => unfold maxLen; omega
        case c4 => omega
        case c5 => simp; omega
        intro v5 w5 hown5 hgr5 _ hat5
        have hsz5 := hgr5.size
        simp at hsz5
        have hown6 : w5.ownsRow (w.heap.size + 1) 3 1 v5 (zs ++ [x.e.n]).length (ints (zs ++ [x.e.n])) := by
          rw [List.length_append]
          simpa [ints] using hown5
        obtain ⟨b5, c5, hv5⟩ : ∃ b5 c5, v5 = .slice (some ⟨b5, 0, none⟩) (zs ++ [x.e.n]).length c5 := by
          rcases hown6.2 with ⟨_, h⟩ | ⟨b5, c5, _, hv, _⟩
          · simp at h
          · exact ⟨b5, c5, hv⟩
        subst hv5
        have hyb5 : b5 = w.heap.size + 1 ∨ w1.heap.size ≤ b5 := by
          rcases hat5 with h | h
          · simp [Value.ownBlock] at h; rw [h]; exact hyb
          · simp [Value.ownBlock] at h; omega
        have hblk5 : ∀ b, b < w1.heap.size → b ≠ w.heap.size + 1 → w5.heap[b]? = w1.heap[b]? := by
          intro b hb hbg
          rw [← HB.out b hb hbg, hgr5.block b (by simp; omega) (by simp [Value.ownBlock]; omega)]
          exact Below.heap_alloc _ _ _ (by omega)
        have hbw5 : Below w.heap.size w w5 := (hb.alloc (by omega) _).grown hgr5 (by simp; omega) (fun q hq => by simp [Value.ownBlock] at hq; omega)
        rw [← HT.out] at hown6
        have HL5 : Hid ((zs ++ [x.e.n]).length = (colN (ns.take (k + 1))).length) := by show _ = _; rw [HT.out]
        clear hown5 hgr5 hat5 hO3 hnew hol
        go_wp2
        exact ⟨⟨k + 1, b5, c5, hlt, by simp, by first | (rw [← HL5.out]; done) | (rw [← HL5.out]; simp), hown6, hyb5, hblk5, by omega, hbw5⟩, by simp [intOf]; omega⟩
      · rw [if_neg h0] at HT
        have HT : Hid (colN (ns.take (k + 1)) = colN (ns.take k)) := HT
        have hkb : (x.e.k == 0) = false := by simpa using h0
        have hkd : decide (x.e.k = 0) = false := by simpa using h0
        have HB : Hid (∀ b, b < w1.heap.size → b ≠ w.heap.size + 1 → wr.heap[b]? = w1.heap[b]?) := hblk
        clear hblk hptr hQat hx c0 c1 h0
        go_wp2
        exact ⟨⟨k + 1, yb, yc, hlt, by simp, by rw [HT.out], by rw [HT.out]; exact hO, hyb, HB.out, hzr, hb⟩, by simp [intOf]; omega⟩
    · obtain rfl : k = ns.length := by omega
      rw [List.take_length] at hO
      simp only [List.take_length]
      obtain ⟨hH, hc1, hc2, hN', hyl, hfz⟩ := own_holds hO
      have hcl := colN_len ns
      have hS3 := fun w2 w3 n q os => sorted_ints (w2 := w2) (w3 := w3) (n := n) (q := q) (os := os) (L := L) hH hc1 hc2 hN' hyl hfz
      have hms : ((colN ns).mergeSort fun x y => decide (x ≤ y)).length = (colN ns).length := List.length_mergeSort _
      have hCM := fun w2 => Tryz.slices_Compact_int yb 0 yc ((colN ns).mergeSort fun x y => decide (x ≤ y)) w2
      have hHM : ∀ n os, Sort.Holds (Value.int .i64) (Sort.grow (Sort.putRow (Value.int .i64) (Sort.ahead wr n) yb 0 ((colN ns).mergeSort fun x y => decide (x ≤ y)).toArray) os) yb 0 ((colN ns).mergeSort fun x y => decide (x ≤ y)).toArray := fun n os =>
        Sort.holds_grow _ _ _ _ _ _ (by simpa using hyl) (Sort.holds_putRow _ _ _ _ (colN ns).toArray _ (Sort.holds_ahead _ _ _ _ _ _ hH) (by simp))
      clear hblk hptr hQat hO
      go_wp2_with fail
      refine Calls.mono (Tryz.slices_Sort_int yb 0 yc (colN ns) wr hH hyl (by omega)) ?_
      rintro q w2 ⟨rfl, n2, os2, h2⟩
      have hH2 := hHM n2 os2
      rw [← h2] at hH2
      have hC2 := hCM w2 hH2 (by rw [hms]; omega) (by rw [hms]; exact hc1)
      rw [hms] at hC2
      have HS3 := hS3 w2
      have H2 : Hid (w2 = Sort.grow (Sort.putRow (Value.int .i64) (Sort.ahead wr n2) yb 0 ((colN ns).mergeSort fun x y => decide (x ≤ y)).toArray) os2) := h2
      have hl2 : (Lib.compact ((colN ns).mergeSort fun x y => decide (x ≤ y))).length = L.length := by rw [HS.out]
      clear hCM hHM hS3 hH hH2 h2
      go_wp2_with fail
      refine Calls.mono hC2 ?_
      rintro q w3 ⟨rfl, q3, h3⟩
      obtain ⟨⟨gg, hI3, hO3⟩, hb3⟩ := HS3 w3 n2 q3 os2 H2.out h3 HS.out
      rw [hl2]
      have hbE : Below w.heap.size w w3 := hb.trans (hb3.mono (by omega))
      clear hC2 HS3 h3
      go_wp2
      refine bodyPost_ret (v := .slice (some ⟨yb, 0, none⟩) L.length yc) (by simp [results, Tryz.results98, go_sem]) rfl ⟨⟨_, gg, rfl, hI3, ⟨hO3.1, fun b hb' => ⟨by have := (hO3.2 b hb').1; omega, (hO3.2 b hb').2⟩⟩⟩, hbE⟩
end Go.Proofs.YtaeibfipcenhaaaGreatDoor
namespace Go.Proofs.YtaeibfipcenhaaaGreatDoor
open Go.RowKit
set_option linter.unusedVariables false
set_option linter.unusedSimpArgs false
theorem belowE_all {e : E7} {W : Int} {w : World} {D : Nat} {u : Value} {F : List Nat} (hk : KidsIs w D u e.ks F) (h : okE 13 e = true) : belowE e W = (colsL D e).all fun x => decide (x < W) := by
  rw [belowE, h, Bool.true_and, Bool.eq_iff_iff, colsBelow_iff W 13 e w D u F hk h, List.all_eq_true]
  simp
theorem allI_step {l : List Int} {k : Nat} {x : Int} {q : Int → Bool} (h : l[k]? = some x) : (l.drop k).all q = (q x && (l.drop (k + 1)).all q) := by
  obtain ⟨hk, rfl⟩ := List.getElem?_eq_some_iff.1 h
  rw [List.drop_eq_getElem_cons hk, List.all_cons]
theorem flat_each {G : List (List Nat)} (h : G.flatten.Nodup) {k : Nat} {g : List Nat} (hg : G[k]? = some g) : g.Nodup ∧ ∀ b ∈ g, b ∈ G.flatten := by
  obtain ⟨hk, rfl⟩ := List.getElem?_eq_some_iff.1 hg
  refine ⟨?_, fun b hb => List.mem_flatten.2 ⟨G[k], List.getElem_mem hk, hb⟩⟩
  have e : G = G.take k ++ G[k] :: G.drop (k + 1) := by rw [← List.drop_eq_getElem_cons hk, List.take_append_drop]
  rw [e, List.flatten_append, List.flatten_cons] at h
  exact (List.nodup_append.1 (List.nodup_append.1 h).2.1).1
set_option maxHeartbeats 8000000 in
set_option maxRecDepth 100000 in
theorem expsOver_any (v : Value) (es : List E7) (F : List Nat) (D : Nat) (W : Int) (w : World) (hk : KidsIs w D v es F) (hd : F.Nodup ∧ ∀ b ∈ F, Fr w b) (hn : wtEs es ≤ 1048576) :
    Calls Tryz.prog 77 #[.int .i64 W, v] w fun x w' => x = .returned (.bool (es.all (belowE · W))) ∧ Below w.heap.size w w' := by
  obtain ⟨D, rfl⟩ := hk.succ
  obtain ⟨a, c, b, o, G, rfl, hl, hc, hG, _, ha⟩ := hk.pick
  unfold maxLen at hc
  clear hk
  go_enter Tryz.func77, Tryz.ntmps77
  go_wp2_with fail
  go_loopw [11] (fun i wr => ∃ k : Nat, k ≤ es.length ∧ i = .int .i64 k ∧ es.all (belowE · W) = (es.drop k).all (belowE · W) ∧ Below w.heap.size w wr) (fun i _ => es.length - (intOf i).toNat)
  case atStart => exact ⟨0, Nat.zero_le _, rfl, by simp, by repeat (first | (with_reducible exact Below.refl _ _) | (with_reducible refine Below.drew ?_) | (with_reducible refine Below.alloc ?_ ?hh _; case hh => first | (simp; done) | (simp; omega) | omega) | (with_reducible refine Below.setCell ?_ ?hh _; case hh => first | (simp; done) | (simp; omega) | omega) | refine bstep (by assumption) (by first | (simp; done) | (simp; omega) | omega) ?_)⟩
  case round =>
    obtain ⟨k, hk, rfl, heq, hb⟩ := hrel
    have HE : Hid (es.all (belowE · W) = (es.drop k).all (belowE · W)) := heq
    have hzb := hb.size
    clear heq
    by_cases hlt : k < es.length
    · obtain ⟨rfl, hblt, hF, hL⟩ := ha k hlt
      obtain ⟨x, g, u, hx, hg, hxw, ⟨c0, c1, c2, c3, c4, c5⟩, c6, hK, hbr⟩ := hL.at hG hblt hb hlt
      obtain ⟨ax, cx, rfl, _, _⟩ := hK.shape
      obtain ⟨D', rfl⟩ := hK.succ
      have HS : Hid ((es.drop k).all (belowE · W) = (belowE x W && (es.drop (k + 1)).all (belowE · W))) := allB_step hx
      have hxn : wtE x ≤ 1048576 := by have := wtE_mem (List.mem_of_getElem? hx); omega
      have hkI : (k : Int) < es.length := by omega
      have hdg : g.Nodup ∧ ∀ t ∈ g, Fr wr t := by
        rw [hF] at hd
        have h1 := flat_each (List.nodup_cons.1 hd.1).2 hg
        refine ⟨h1.1, fun t ht => ?_⟩
        have h2 := hd.2 t (List.mem_cons_of_mem _ (h1.2 t ht))
        obtain ⟨cc, tt, ll, h3⟩ := h2.1
        exact h2.keep (hb.block t (lt_of_blk h3))
      have hO := fun w2 (hb : Below wr.heap.size wr w2) => implExpOk_any x _ g (D' + 1) w2 hxw (hK.below hb)
      have hC := fun w2 (hb : Below wr.heap.size wr w2) => implCols_any D' x _ g w2 hxw (hK.below hb) ⟨hdg.1, fun t ht => by
        have h2 := hdg.2 t ht
        obtain ⟨cc, tt, ll, h3⟩ := h2.1
        exact h2.keep (hb.block t (lt_of_blk h3))⟩ hxn
      obtain ⟨bo, HO⟩ : ∃ b, Hid (okE 13 x = b) := ⟨_, rfl⟩
      rw [HO.out] at hO
      clear ha hL hx hg hxw hdg hF hd
      go_wp2_with fail
      refine Calls.mono (hO _ (by repeat (first | (with_reducible exact Below.refl _ _) | (with_reducible refine Below.drew ?_) | (with_reducible refine Below.alloc ?_ ?hh _; case hh => first | (simp; done) | (simp; omega) | omega) | (with_reducible refine Below.setCell ?_ ?hh _; case hh => first | (simp; done) | (simp; omega) | omega) | refine bstep (by assumption) (by first | (simp; done) | (simp; omega) | omega) ?_))) ?_
      rintro y w1 ⟨rfl, hb1⟩
      have bel1 : Below wr.heap.size wr w1 := by repeat (first | (with_reducible exact Below.refl _ _) | (with_reducible refine Below.drew ?_) | (with_reducible refine Below.alloc ?_ ?hh _; case hh => first | (simp; done) | (simp; omega) | omega) | (with_reducible refine Below.setCell ?_ ?hh _; case hh => first | (simp; done) | (simp; omega) | omega) | refine bstep (by assumption) (by first | (simp; done) | (simp; omega) | omega) ?_)
      have d0 : w1.cell? ⟨wr.heap.size, 0, none⟩ = some (.int .i64 x.k) := cell_later hb1 (by go_simp)
      have d1 : w1.cell? ⟨wr.heap.size, 1, none⟩ = some (.int .i64 x.n) := cell_later hb1 (by go_simp)
      have d2 : w1.cell? ⟨wr.heap.size, 2, none⟩ = some (.int .i64 x.v.k) := cell_later hb1 (by go_simp)
      have d3 : w1.cell? ⟨wr.heap.size, 3, none⟩ = some (.int .i64 x.v.n) := cell_later hb1 (by go_simp)
      have d4 : w1.cell? ⟨wr.heap.size, 4, none⟩ = some (.string x.v.s) := cell_later hb1 (by go_simp)
      have d5 : w1.cell? ⟨wr.heap.size, 5, none⟩ = some (.string x.p) := cell_later hb1 (by go_simp)
      have d6 : w1.cell? ⟨wr.heap.size, 6, none⟩ = some (.slice ax x.ks.length cx) := cell_later hb1 (by go_simp)
      have belE := hb.trans (bel1.mono hzb)
      clear hO hb1 c0 c1 c2 c3 c4 c5 c6
      cases bo with
      | false =>
        have HF : Hid (es.all (belowE · W) = false) := by show _ = _; rw [HE.out, HS.out, belowE_no HO.out, Bool.false_and]
        clear hK hC
        go_wp2
        go_returns
        exact ⟨by rw [HF.out]; rfl, belE⟩
      | true =>
        have HB : Hid (belowE x W = (colsL (D' + 1) x).all fun z => decide (z < W)) := belowE_all hK HO.out
        clear hK
        have hlen : (colsL (D' + 1) x).length ≤ 1 + wtE x := colsL_len (D' + 1) x
        obtain ⟨L, HL⟩ : ∃ L, Hid (colsL (D' + 1) x = L) := ⟨_, rfl⟩
        rw [HL.out] at hC hlen
        go_wp2_with fail
        refine Calls.mono (hC _ bel1) ?_
        rintro y w2 ⟨⟨vi, gi, rfl, hI, _⟩, hb2⟩
        have bel2 : Below w.heap.size w w2 := belE.trans (hb2.mono belE.size)
        obtain ⟨ay, cy, by', oy, rfl, hyl, hyc, _, hyc2⟩ := hI.pick
        unfold maxLen at hyc
        clear hC hb2 bel1 belE hb hI d0 d1 d2 d3 d4 d5 d6
        go_wp2_with fail
        go_loopw [21] (fun i wi => ∃ j : Nat, j ≤ L.length ∧ i = .int .i64 j ∧ (L.all fun z => decide (z < W)) = ((L.drop j).all fun z => decide (z < W)) ∧ Below w2.heap.size w2 wi) (fun i _ => L.length - (intOf i).toNat)
        case atStart => exact ⟨0, Nat.zero_le _, rfl, by simp, Below.refl _ _⟩
        case round =>
          obtain ⟨j, hj, rfl, hje, hbi⟩ := hrel
          have HJ : Hid ((L.all fun z => decide (z < W)) = ((L.drop j).all fun z => decide (z < W))) := hje
          have belI := bel2.trans (hbi.mono bel2.size)
          clear hje
          by_cases hjl : j < L.length
          · obtain ⟨rfl, hyb, _, hcell⟩ := hyc2 j hjl
            obtain ⟨z, hz⟩ : ∃ z, L[j]? = some z := ⟨L[j], by simp⟩
            have cz := ((bcell hbi).1 _ _ hyb).trans (hcell j z hz)
            have HZ : Hid (((L.drop j).all fun z => decide (z < W)) = (decide (z < W) && ((L.drop (j + 1)).all fun z => decide (z < W)))) := allI_step hz
            have hjI : (j : Int) < L.length := by omega
            clear hyc2 hcell hz
            by_cases hzW : z < W
            · have hzW' : ¬ z ≥ W := by omega
              have HF : Hid ((L.all fun z => decide (z < W)) = ((L.drop (j + 1)).all fun z => decide (z < W))) := by show _ = _; rw [HJ.out, HZ.out, decide_eq_true hzW, Bool.true_and]
              go_wp2_with fail
              exact ⟨⟨j + 1, hjl, by simp, HF.out, hbi⟩, by simp [intOf]; omega⟩
            · have hzW' : z ≥ W := by omega
              have HF : Hid (es.all (belowE · W) = false) := by show _ = _; rw [HE.out, HS.out, HB.out, HL.out, HJ.out, HZ.out, decide_eq_false hzW, Bool.false_and, Bool.false_and]
              go_wp2
              go_returns
              exact ⟨by rw [HF.out]; rfl, belI⟩
          · obtain rfl : j = L.length := by omega
            have HF : Hid (es.all (belowE · W) = (es.drop (k + 1)).all (belowE · W)) := by show _ = _; rw [HE.out, HS.out, HB.out, HL.out, HJ.out, List.drop_length, List.all_nil, Bool.true_and]
            clear hyc2
            go_wp2_with fail
            exact ⟨⟨k + 1, hlt, by simp, HF.out, belI⟩, by simp [intOf]; omega⟩
    · obtain rfl : k = es.length := by omega
      have HF : Hid (es.all (belowE · W) = true) := by show _ = _; rw [HE.out, List.drop_length]; rfl
      clear ha
      go_wp2
      go_returns
      exact ⟨by rw [HF.out]; rfl, hb⟩
end Go.Proofs.YtaeibfipcenhaaaGreatDoor
namespace Go.Proofs.YtaeibfipcenhaaaGreatDoor
open Go.RowKit
set_option linter.unusedVariables false
set_option linter.unusedSimpArgs false
theorem kids_one {w : World} {e : E7} {ue : Value} {Fe : List Nat} {D : Nat} (hk : KidsIs w D ue e.ks Fe) (he : e.wf) : KidsIs (w.alloc (.cells #[.int .i64 e.k, .int .i64 e.n, .int .i64 e.v.k, .int .i64 e.v.n, .string e.v.s, .string e.p, ue] 59)) (D + 1) (.slice (some ⟨w.heap.size, 0, none⟩) 1 1) [e] (w.heap.size :: Fe) := by
  refine ⟨_, 1, [Fe], rfl, Nat.le_refl _, by decide, rfl, (fun h => by cases h), (fun _ => ⟨w.heap.size, 0, rfl, by simp, by simp, ?_⟩)⟩
  intro i x g hx hg
  rcases i with _ | i
  · simp at hx hg
    subst hx hg
    exact ⟨he, ⟨by go_simp, by go_simp, by go_simp, by go_simp, by go_simp, by go_simp⟩, ue, by go_simp, hk.below ((Below.refl _ _).alloc (Nat.le_refl _) _)⟩
  · simp at hx
theorem overOne {w : World} {e : E7} {ue : Value} {Fe : List Nat} {D : Nat} (hk : KidsIs w D ue e.ks Fe) (he : e.wf) (hd : Fe.Nodup ∧ ∀ b ∈ Fe, Fr w b) (hn : wtE e ≤ 1048576) (W : Int) :
    Calls Tryz.prog 77 #[.int .i64 W, .slice (some ⟨w.heap.size, 0, none⟩) 1 1] (w.alloc (.cells #[.int .i64 e.k, .int .i64 e.n, .int .i64 e.v.k, .int .i64 e.v.n, .string e.v.s, .string e.p, ue] 59)) fun x w' => x = .returned (.bool (belowE e W)) ∧ Below w.heap.size w w' := by
  have hlt := hk.lt
  refine Calls.mono (expsOver_any _ [e] (w.heap.size :: Fe) (D + 1) W _ (kids_one hk he) ⟨List.nodup_cons.2 ⟨fun h => by have := hlt _ h; omega, hd.1⟩, fun b hb => ?_⟩ (by simp [wtEs]; omega)) ?_
  · rcases List.mem_cons.1 hb with rfl | hb
    · exact ⟨⟨_, _, _, heap_alloc_new w _⟩, fun o => by go_simp⟩
    · exact (hd.2 b hb).keep (Below.heap_alloc _ _ _ (hlt b hb))
  · rintro x w' ⟨rfl, hb⟩
    refine ⟨by simp, ?_⟩
    have h1 : Below w.heap.size w (w.alloc (.cells #[.int .i64 e.k, .int .i64 e.n, .int .i64 e.v.k, .int .i64 e.v.n, .string e.v.s, .string e.p, ue] 59)) := (Below.refl _ _).alloc (Nat.le_refl _) _
    exact h1.trans (hb.mono h1.size)
/-- what rightOf answers of a plan whose kids have v and u columns and stand in the slice us. -/
def RgtOut (W0 : World) (rs : List R3) (p : P12) (v u : Int) (us : Value) (n : Nat) (x : Ending) : Prop :=
  (okTop rs p v u = true ∧ ∃ y ut, x = .returned y ∧ FormR W0 rs p (outW rs p v u) ut y ∧ (ut = us ∨ n = 0 ∧ ut = .slice none 0 0)) ∨ (okTop rs p v u = false ∧ x = .returned .nilIface)
set_option maxHeartbeats 8000000 in
set_option maxRecDepth 100000 in
theorem right_0 {W0 w : World} {rs : List R3} {p : P12} {ue us uk vd : Value} {Fe Fs Fd : List Nat} {D N : Nat} (hb0 : Below W0.heap.size W0 w) (hdb : okDb rs = true) (hR : RelsF W0 vd rs Fd) (hw : p.wf) (hn : wtP p ≤ 1048576) (ke : KidsIs W0 D ue p.e.ks Fe) (kes : KidsIs W0 D us p.es Fs) (ae : Own W0 N Fe) (aq : Own W0 N Fs) (huk : ∃ a c, uk = .slice a p.ks.length c) (hp : partsP p = true) (hk : p.k = 0) (v u : Int) (a : Option Addr) (c : Nat) (hc : 0 ≤ c ∧ c ≤ maxLen) :
    Calls Tryz.prog 56 #[vd, (.agg #[.int .i64 p.k, .string p.s, .int .i64 p.e.k, .int .i64 p.e.n, .int .i64 p.e.v.k, .int .i64 p.e.v.n, .string p.e.v.s, .string p.e.p, ue, us, .int .i64 p.n, uk]), .slice a 0 c] w fun x w' => RgtOut W0 rs p v u (.slice a 0 c) 0 x ∧ Below w.heap.size w w' := by
  have hwt := wtP_eq p
  have hzw := hb0.size
  unfold maxLen at hc
  obtain ⟨aE, cE, rfl, hE1, hE2⟩ := ke.shape
  obtain ⟨aS, cS, rfl, hS1, hS2⟩ := kes.shape
  obtain ⟨aK, cK, rfl⟩ := huk
  unfold maxLen at hE2 hS2
  obtain ⟨ad, ld, cd, rfl⟩ := hR.is.shape
  have hT0 := fun (w2 : World) (hb : Below w.heap.size w w2) => tableOf_none p.s _ rs w2 ((hR.below hb0).is.below hb)
  have hT1 := fun (w2 : World) (hb : Below w.heap.size w w2) (x : R3) => tableOf_base W0 p.s _ rs Fd x w2 hR (hb0.trans (hb.mono hzw))
  have hB := bxP_new w p (.slice aE p.e.ks.length cE) (.slice aS p.es.length cS) (.slice aK p.ks.length cK) 62
  have HK : Hid (p.k = 0) := hk
  clear hk
  go_enter Tryz.func56, Tryz.ntmps56
  go_wp2_with fail
  go_loopw [7, 12] (fun s i wr => ∃ k : Nat, k ≤ 0 ∧ i = .int .i64 k ∧ s = .int .i64 0 ∧ BxP wr w.heap.size p (.slice aE p.e.ks.length cE) (.slice aS p.es.length cS) (.slice aK p.ks.length cK) ∧ Below w.heap.size w wr) (fun _ i _ => 0 - (intOf i).toNat)
  case atStart => exact ⟨0, Nat.zero_le _, rfl, rfl, hB.below (by repeat (first | (with_reducible exact Below.refl _ _) | (with_reducible refine Below.drew ?_) | (with_reducible refine Below.alloc ?_ ?hh _; case hh => first | (simp; done) | (simp; omega) | omega) | (with_reducible refine Below.setCell ?_ ?hh _; case hh => first | (simp; done) | (simp; omega) | omega) | refine bstep (by assumption) (by first | (simp; done) | (simp; omega) | omega) ?_)), by repeat (first | (with_reducible exact Below.refl _ _) | (with_reducible refine Below.drew ?_) | (with_reducible refine Below.alloc ?_ ?hh _; case hh => first | (simp; done) | (simp; omega) | omega) | (with_reducible refine Below.setCell ?_ ?hh _; case hh => first | (simp; done) | (simp; omega) | omega) | refine bstep (by assumption) (by first | (simp; done) | (simp; omega) | omega) ?_)⟩
  case round =>
    obtain ⟨k, hkn, rfl, rfl, hBr, hb⟩ := hrel
    have hzb := hb.size
    obtain rfl : k = 0 := by omega
    have hBk := hBr
    obtain ⟨b', b0, b1, b2, b3, b4, b5, b6, b7, b8, b9, b10, b11⟩ := hBr
    rw [HK.out] at b0
    have hT0' := hT0 wr hb
    have hT1' := hT1 wr hb
    clear hT0 hT1
    cases hr : relOf rs p.s with
    | none =>
      have hq := hT0' hr
      clear hT0' hT1'
      go_wp2_with fail
      go_at_call 76
      refine Calls.mono hq ?_
      rintro z w2 ⟨rfl, hb2⟩
      go_wp2_with fail
      go_returns
      have hk := HK.out
      exact ⟨.inr ⟨by simp [okTop, hk, hr], rfl⟩, hb.trans (hb2.mono hzb)⟩
    | some x =>
      have hq := hT1' x hr (relOf_pos hdb hr)
      clear hT0' hT1'
      go_wp2_with fail
      go_at_call 76
      refine Calls.mono hq ?_
      rintro z w2 ⟨⟨y, G, rfl, hF⟩, hb2⟩
      go_wp2_with fail
      go_returns
      have hk := HK.out
      have e1 : outW rs p v u = x.W := by simp [outW, hk, relW, hr]
      exact ⟨.inl ⟨by simp [okTop, hk, hr], _, _, rfl, by rw [e1]; exact .inl ⟨hk, rfl, x, y, hr, rfl, ⟨G, hF⟩, rfl⟩, .inr ⟨rfl, rfl⟩⟩, hb.trans (hb2.mono hzb)⟩
set_option maxHeartbeats 8000000 in
set_option maxRecDepth 100000 in
theorem right_1 {W0 w : World} {rs : List R3} {p : P12} {ue us uk vd : Value} {Fe Fs Fd : List Nat} {D N : Nat} (hb0 : Below W0.heap.size W0 w) (hdb : okDb rs = true) (hR : RelsF W0 vd rs Fd) (hw : p.wf) (hn : wtP p ≤ 1048576) (ke : KidsIs W0 D ue p.e.ks Fe) (kes : KidsIs W0 D us p.es Fs) (ae : Own W0 N Fe) (aq : Own W0 N Fs) (huk : ∃ a c, uk = .slice a p.ks.length c) (hp : partsP p = true) (hk : p.k = 1) (v u : Int) (a : Option Addr) (c : Nat) (hc : 1 ≤ c ∧ c ≤ maxLen) (gk : Nat) (x0 t0 : Value) (w0 : Wid x0 v t0) (v0 : 0 ≤ v ∧ v ≤ 12) (s0 : ∃ a l c, t0 = .slice a l c) (c0 : w.cell? ⟨gk, 0, none⟩ = some x0) :
    Calls Tryz.prog 56 #[vd, (.agg #[.int .i64 p.k, .string p.s, .int .i64 p.e.k, .int .i64 p.e.n, .int .i64 p.e.v.k, .int .i64 p.e.v.n, .string p.e.v.s, .string p.e.p, ue, us, .int .i64 p.n, uk]), .slice (some ⟨gk, 0, none⟩) 1 c] w fun x w' => RgtOut W0 rs p v u (.slice (some ⟨gk, 0, none⟩) 1 c) 1 x ∧ Below w.heap.size w w' := by
  have hwt := wtP_eq p
  have hzw := hb0.size
  unfold maxLen at hc
  obtain ⟨aE, cE, rfl, hE1, hE2⟩ := ke.shape
  obtain ⟨aS, cS, rfl, hS1, hS2⟩ := kes.shape
  obtain ⟨aK, cK, rfl⟩ := huk
  unfold maxLen at hE2 hS2
  have hO := fun (w2 : World) (hb : Below w.heap.size w w2) => overOne (ke.below (hb0.trans (hb.mono hzw))) hw.2.2.1 ⟨ae.1, fun b hb' => ((ae.dst ke).2 b hb').keep ((hb0.trans (hb.mono hzw)).block b (ke.lt b hb'))⟩ (by omega) v
  obtain ⟨bo, HO⟩ : ∃ b, Hid (belowE p.e v = b) := ⟨_, rfl⟩
  rw [HO.out] at hO
  obtain ⟨t0', y0, k0, rfl, hM0, _⟩ := w0
  obtain ⟨z0, z1, z2, rfl⟩ := s0
  have hgk : gk < w.heap.size := World.block_lt_of_cell? _ _ c0
  have hB := bxP_new w p (.slice aE p.e.ks.length cE) (.slice aS p.es.length cS) (.slice aK p.ks.length cK) 62
  have HK : Hid (p.k = 1) := hk
  clear hk
  go_enter Tryz.func56, Tryz.ntmps56
  go_wp2_with fail
  go_loopw [7, 12] (fun s i wr => ∃ k : Nat, k ≤ 1 ∧ i = .int .i64 k ∧ s = .int .i64 (if k = 0 then 0 else v) ∧ BxP wr w.heap.size p (.slice aE p.e.ks.length cE) (.slice aS p.es.length cS) (.slice aK p.ks.length cK) ∧ Below w.heap.size w wr) (fun _ i _ => 1 - (intOf i).toNat)
  case atStart => exact ⟨0, Nat.zero_le _, rfl, rfl, hB.below (by repeat (first | (with_reducible exact Below.refl _ _) | (with_reducible refine Below.drew ?_) | (with_reducible refine Below.alloc ?_ ?hh _; case hh => first | (simp; done) | (simp; omega) | omega) | (with_reducible refine Below.setCell ?_ ?hh _; case hh => first | (simp; done) | (simp; omega) | omega) | refine bstep (by assumption) (by first | (simp; done) | (simp; omega) | omega) ?_)), by repeat (first | (with_reducible exact Below.refl _ _) | (with_reducible refine Below.drew ?_) | (with_reducible refine Below.alloc ?_ ?hh _; case hh => first | (simp; done) | (simp; omega) | omega) | (with_reducible refine Below.setCell ?_ ?hh _; case hh => first | (simp; done) | (simp; omega) | omega) | refine bstep (by assumption) (by first | (simp; done) | (simp; omega) | omega) ?_)⟩
  case round =>
    obtain ⟨k, hkn, rfl, rfl, hBr, hb⟩ := hrel
    have hzb := hb.size
    rcases Nat.lt_or_ge k 1 with hlt | hge
    · obtain rfl : k = 0 := by omega
      have d0 := ((bcell hb).1 gk 0 hgk).trans c0
      have hgr : gk < wr.heap.size := by omega
      go_wp2_with (go_at_call 158; refine Calls.mono (frameWidth_any _ _ _ _ _ _) ?_; rintro z w2 ⟨rfl, hb2⟩)
      exact ⟨⟨1, by omega, rfl, by simp [wrap64]; try omega, hBr.below hb2, hb.trans (hb2.mono hzb)⟩, by simp [intOf]⟩
    · obtain rfl : k = 1 := by omega
      have hBk := hBr
      obtain ⟨b', b0, b1, b2, b3, b4, b5, b6, b7, b8, b9, b10, b11⟩ := hBr
      rw [HK.out] at b0
      cases bo with
      | true =>
        go_wp2_with (go_at_call 77; refine Calls.mono (hO _ hb) ?_; rintro z w2 ⟨rfl, hb2⟩; have bel2 : Below w.heap.size w w2 := hb.trans (hb2.mono hzb); have B2 := hBk.below hb2; clear b0 b1 b2 b3 b4 b5 b6 b7 b8 b9 b10 b11 hO hb2; obtain ⟨_, b0, b1, b2, b3, b4, b5, b6, b7, b8, b9, b10, b11⟩ := B2; rw [HK.out] at b0)
        go_returns
        have hk := HK.out
        have e1 : outW rs p v u = v := by simp [outW, hk]
        exact ⟨.inl ⟨by simp [okTop, hk, HO.out], _, _, rfl, by rw [e1]; exact (.inr (.inl ⟨hk, _, Fe, D, ke, rfl⟩)), .inl rfl⟩, bel2⟩
      | false =>
        go_wp2_with (go_at_call 77; refine Calls.mono (hO _ hb) ?_; rintro z w2 ⟨rfl, hb2⟩; have bel2 : Below w.heap.size w w2 := hb.trans (hb2.mono hzb); have B2 := hBk.below hb2; clear b0 b1 b2 b3 b4 b5 b6 b7 b8 b9 b10 b11 hO hb2; obtain ⟨_, b0, b1, b2, b3, b4, b5, b6, b7, b8, b9, b10, b11⟩ := B2; rw [HK.out] at b0)
        go_quiet (fail)
        go_wp2_with fail
        go_returns
        have hk := HK.out
        exact ⟨.inr ⟨by simp [okTop, hk, HO.out], rfl⟩, bel2.trans ((below_drewN w2 _).mono bel2.size)⟩
set_option maxHeartbeats 8000000 in
set_option maxRecDepth 100000 in
theorem right_2 {W0 w : World} {rs : List R3} {p : P12} {ue us uk vd : Value} {Fe Fs Fd : List Nat} {D N : Nat} (hb0 : Below W0.heap.size W0 w) (hdb : okDb rs = true) (hR : RelsF W0 vd rs Fd) (hw : p.wf) (hn : wtP p ≤ 1048576) (ke : KidsIs W0 D ue p.e.ks Fe) (kes : KidsIs W0 D us p.es Fs) (ae : Own W0 N Fe) (aq : Own W0 N Fs) (huk : ∃ a c, uk = .slice a p.ks.length c) (hp : partsP p = true) (hk : p.k = 2) (v u : Int) (a : Option Addr) (c : Nat) (hc : 1 ≤ c ∧ c ≤ maxLen) (gk : Nat) (x0 t0 : Value) (w0 : Wid x0 v t0) (v0 : 0 ≤ v ∧ v ≤ 12) (s0 : ∃ a l c, t0 = .slice a l c) (c0 : w.cell? ⟨gk, 0, none⟩ = some x0) :
    Calls Tryz.prog 56 #[vd, (.agg #[.int .i64 p.k, .string p.s, .int .i64 p.e.k, .int .i64 p.e.n, .int .i64 p.e.v.k, .int .i64 p.e.v.n, .string p.e.v.s, .string p.e.p, ue, us, .int .i64 p.n, uk]), .slice (some ⟨gk, 0, none⟩) 1 c] w fun x w' => RgtOut W0 rs p v u (.slice (some ⟨gk, 0, none⟩) 1 c) 1 x ∧ Below w.heap.size w w' := by
  have hwt := wtP_eq p
  have hzw := hb0.size
  unfold maxLen at hc
  obtain ⟨aE, cE, rfl, hE1, hE2⟩ := ke.shape
  obtain ⟨aS, cS, rfl, hS1, hS2⟩ := kes.shape
  obtain ⟨aK, cK, rfl⟩ := huk
  unfold maxLen at hE2 hS2
  have hO := fun (w2 : World) (hb : Below w.heap.size w w2) => expsOver_any _ p.es Fs D v w2 (kes.below (hb0.trans (hb.mono hzw))) ⟨aq.1, fun b hb' => ((aq.dst kes).2 b hb').keep ((hb0.trans (hb.mono hzw)).block b (kes.lt b hb'))⟩ (by omega)
  obtain ⟨bo, HO⟩ : ∃ b, Hid (p.es.all (belowE · v) = b) := ⟨_, rfl⟩
  rw [HO.out] at hO
  obtain ⟨t0', y0, k0, rfl, hM0, _⟩ := w0
  obtain ⟨z0, z1, z2, rfl⟩ := s0
  have hgk : gk < w.heap.size := World.block_lt_of_cell? _ _ c0
  have hB := bxP_new w p (.slice aE p.e.ks.length cE) (.slice aS p.es.length cS) (.slice aK p.ks.length cK) 62
  have HK : Hid (p.k = 2) := hk
  clear hk
  go_enter Tryz.func56, Tryz.ntmps56
  go_wp2_with fail
  go_loopw [7, 12] (fun s i wr => ∃ k : Nat, k ≤ 1 ∧ i = .int .i64 k ∧ s = .int .i64 (if k = 0 then 0 else v) ∧ BxP wr w.heap.size p (.slice aE p.e.ks.length cE) (.slice aS p.es.length cS) (.slice aK p.ks.length cK) ∧ Below w.heap.size w wr) (fun _ i _ => 1 - (intOf i).toNat)
  case atStart => exact ⟨0, Nat.zero_le _, rfl, rfl, hB.below (by repeat (first | (with_reducible exact Below.refl _ _) | (with_reducible refine Below.drew ?_) | (with_reducible refine Below.alloc ?_ ?hh _; case hh => first | (simp; done) | (simp; omega) | omega) | (with_reducible refine Below.setCell ?_ ?hh _; case hh => first | (simp; done) | (simp; omega) | omega) | refine bstep (by assumption) (by first | (simp; done) | (simp; omega) | omega) ?_)), by repeat (first | (with_reducible exact Below.refl _ _) | (with_reducible refine Below.drew ?_) | (with_reducible refine Below.alloc ?_ ?hh _; case hh => first | (simp; done) | (simp; omega) | omega) | (with_reducible refine Below.setCell ?_ ?hh _; case hh => first | (simp; done) | (simp; omega) | omega) | refine bstep (by assumption) (by first | (simp; done) | (simp; omega) | omega) ?_)⟩
  case round =>
    obtain ⟨k, hkn, rfl, rfl, hBr, hb⟩ := hrel
    have hzb := hb.size
    rcases Nat.lt_or_ge k 1 with hlt | hge
    · obtain rfl : k = 0 := by omega
      have d0 := ((bcell hb).1 gk 0 hgk).trans c0
      have hgr : gk < wr.heap.size := by omega
      go_wp2_with (go_at_call 158; refine Calls.mono (frameWidth_any _ _ _ _ _ _) ?_; rintro z w2 ⟨rfl, hb2⟩)
      exact ⟨⟨1, by omega, rfl, by simp [wrap64]; try omega, hBr.below hb2, hb.trans (hb2.mono hzb)⟩, by simp [intOf]⟩
    · obtain rfl : k = 1 := by omega
      have hBk := hBr
      obtain ⟨b', b0, b1, b2, b3, b4, b5, b6, b7, b8, b9, b10, b11⟩ := hBr
      rw [HK.out] at b0
      have hes : 1 ≤ p.es.length ∧ p.es.length ≤ 12 := by have h1 := hp; simp [partsP, HK.out] at h1; omega
      cases bo with
      | true =>
        go_wp2_with (go_at_call 77; refine Calls.mono (hO _ hb) ?_; rintro z w2 ⟨rfl, hb2⟩; have bel2 : Below w.heap.size w w2 := hb.trans (hb2.mono hzb); have B2 := hBk.below hb2; clear b0 b1 b2 b3 b4 b5 b6 b7 b8 b9 b10 b11 hO hb2; obtain ⟨_, b0, b1, b2, b3, b4, b5, b6, b7, b8, b9, b10, b11⟩ := B2; rw [HK.out] at b0)
        go_returns
        have hk := HK.out
        have e1 : outW rs p v u = p.es.length := by simp [outW, hk]
        exact ⟨.inl ⟨by have h1 := HO.out; simp at h1; simp [okTop, hk]; exact ⟨by omega, h1⟩, _, _, rfl, by rw [e1]; exact (.inr (.inr (.inl ⟨hk, _, Fs, D, kes, rfl⟩))), .inl rfl⟩, bel2⟩
      | false =>
        go_wp2_with (go_at_call 77; refine Calls.mono (hO _ hb) ?_; rintro z w2 ⟨rfl, hb2⟩; have bel2 : Below w.heap.size w w2 := hb.trans (hb2.mono hzb); have B2 := hBk.below hb2; clear b0 b1 b2 b3 b4 b5 b6 b7 b8 b9 b10 b11 hO hb2; obtain ⟨_, b0, b1, b2, b3, b4, b5, b6, b7, b8, b9, b10, b11⟩ := B2; rw [HK.out] at b0)
        go_quiet (fail)
        go_wp2_with fail
        go_returns
        have hk := HK.out
        exact ⟨.inr ⟨by have h1 := HO.out; rw [okTop, if_neg (by omega), if_neg (by omega), if_pos hk, h1, Bool.and_false], rfl⟩, bel2.trans ((below_drewN w2 _).mono bel2.size)⟩
set_option maxHeartbeats 8000000 in
set_option maxRecDepth 100000 in
theorem right_3 {W0 w : World} {rs : List R3} {p : P12} {ue us uk vd : Value} {Fe Fs Fd : List Nat} {D N : Nat} (hb0 : Below W0.heap.size W0 w) (hdb : okDb rs = true) (hR : RelsF W0 vd rs Fd) (hw : p.wf) (hn : wtP p ≤ 1048576) (ke : KidsIs W0 D ue p.e.ks Fe) (kes : KidsIs W0 D us p.es Fs) (ae : Own W0 N Fe) (aq : Own W0 N Fs) (huk : ∃ a c, uk = .slice a p.ks.length c) (hp : partsP p = true) (hk : p.k = 3) (v u : Int) (a : Option Addr) (c : Nat) (hc : 2 ≤ c ∧ c ≤ maxLen) (gk : Nat) (x0 t0 : Value) (w0 : Wid x0 v t0) (v0 : 0 ≤ v ∧ v ≤ 12) (s0 : ∃ a l c, t0 = .slice a l c) (c0 : w.cell? ⟨gk, 0, none⟩ = some x0) (x1 t1 : Value) (w1 : Wid x1 u t1) (v1 : 0 ≤ u ∧ u ≤ 12) (s1 : ∃ a l c, t1 = .slice a l c) (c1 : w.cell? ⟨gk, 1, none⟩ = some x1) :
    Calls Tryz.prog 56 #[vd, (.agg #[.int .i64 p.k, .string p.s, .int .i64 p.e.k, .int .i64 p.e.n, .int .i64 p.e.v.k, .int .i64 p.e.v.n, .string p.e.v.s, .string p.e.p, ue, us, .int .i64 p.n, uk]), .slice (some ⟨gk, 0, none⟩) 2 c] w fun x w' => RgtOut W0 rs p v u (.slice (some ⟨gk, 0, none⟩) 2 c) 2 x ∧ Below w.heap.size w w' := by
  have hwt := wtP_eq p
  have hzw := hb0.size
  unfold maxLen at hc
  obtain ⟨aE, cE, rfl, hE1, hE2⟩ := ke.shape
  obtain ⟨aS, cS, rfl, hS1, hS2⟩ := kes.shape
  obtain ⟨aK, cK, rfl⟩ := huk
  unfold maxLen at hE2 hS2
  have hO := fun (w2 : World) (hb : Below w.heap.size w w2) => overOne (ke.below (hb0.trans (hb.mono hzw))) hw.2.2.1 ⟨ae.1, fun b hb' => ((ae.dst ke).2 b hb').keep ((hb0.trans (hb.mono hzw)).block b (ke.lt b hb'))⟩ (by omega) (v + u)
  obtain ⟨bo, HO⟩ : ∃ b, Hid (belowE p.e (v + u) = b) := ⟨_, rfl⟩
  rw [HO.out] at hO
  obtain ⟨t0', y0, k0, rfl, hM0, _⟩ := w0
  obtain ⟨z0, z1, z2, rfl⟩ := s0
  obtain ⟨t1', y1, k1, rfl, hM1, _⟩ := w1
  obtain ⟨z3, z4, z5, rfl⟩ := s1
  have hgk : gk < w.heap.size := World.block_lt_of_cell? _ _ c0
  have hB := bxP_new w p (.slice aE p.e.ks.length cE) (.slice aS p.es.length cS) (.slice aK p.ks.length cK) 62
  have HK : Hid (p.k = 3) := hk
  clear hk
  go_enter Tryz.func56, Tryz.ntmps56
  go_wp2_with fail
  go_loopw [7, 12] (fun s i wr => ∃ k : Nat, k ≤ 2 ∧ i = .int .i64 k ∧ s = .int .i64 (if k = 0 then 0 else if k = 1 then v else v + u) ∧ BxP wr w.heap.size p (.slice aE p.e.ks.length cE) (.slice aS p.es.length cS) (.slice aK p.ks.length cK) ∧ Below w.heap.size w wr) (fun _ i _ => 2 - (intOf i).toNat)
  case atStart => exact ⟨0, Nat.zero_le _, rfl, rfl, hB.below (by repeat (first | (with_reducible exact Below.refl _ _) | (with_reducible refine Below.drew ?_) | (with_reducible refine Below.alloc ?_ ?hh _; case hh => first | (simp; done) | (simp; omega) | omega) | (with_reducible refine Below.setCell ?_ ?hh _; case hh => first | (simp; done) | (simp; omega) | omega) | refine bstep (by assumption) (by first | (simp; done) | (simp; omega) | omega) ?_)), by repeat (first | (with_reducible exact Below.refl _ _) | (with_reducible refine Below.drew ?_) | (with_reducible refine Below.alloc ?_ ?hh _; case hh => first | (simp; done) | (simp; omega) | omega) | (with_reducible refine Below.setCell ?_ ?hh _; case hh => first | (simp; done) | (simp; omega) | omega) | refine bstep (by assumption) (by first | (simp; done) | (simp; omega) | omega) ?_)⟩
  case round =>
    obtain ⟨k, hkn, rfl, rfl, hBr, hb⟩ := hrel
    have hzb := hb.size
    rcases Nat.lt_or_ge k 1 with hlt | hge
    · obtain rfl : k = 0 := by omega
      have d0 := ((bcell hb).1 gk 0 hgk).trans c0
      have hgr : gk < wr.heap.size := by omega
      go_wp2_with (go_at_call 158; refine Calls.mono (frameWidth_any _ _ _ _ _ _) ?_; rintro z w2 ⟨rfl, hb2⟩)
      exact ⟨⟨1, by omega, rfl, by simp [wrap64]; try omega, hBr.below hb2, hb.trans (hb2.mono hzb)⟩, by simp [intOf]⟩
    · rcases Nat.lt_or_ge k 2 with hlt | hge
      · obtain rfl : k = 1 := by omega
        have d1 := ((bcell hb).1 gk 1 hgk).trans c1
        have hgr : gk < wr.heap.size := by omega
        go_wp2_with (go_at_call 158; refine Calls.mono (frameWidth_any _ _ _ _ _ _) ?_; rintro z w2 ⟨rfl, hb2⟩)
        exact ⟨⟨2, by omega, rfl, by simp [wrap64]; try omega, hBr.below hb2, hb.trans (hb2.mono hzb)⟩, by simp [intOf]⟩
      · obtain rfl : k = 2 := by omega
        have hBk := hBr
        obtain ⟨b', b0, b1, b2, b3, b4, b5, b6, b7, b8, b9, b10, b11⟩ := hBr
        rw [HK.out] at b0
        cases bo with
        | true =>
          go_wp2_with (go_at_call 77; refine Calls.mono (hO _ hb) ?_; rintro z w2 ⟨rfl, hb2⟩; have bel2 : Below w.heap.size w w2 := hb.trans (hb2.mono hzb); have B2 := hBk.below hb2; clear b0 b1 b2 b3 b4 b5 b6 b7 b8 b9 b10 b11 hO hb2; obtain ⟨_, b0, b1, b2, b3, b4, b5, b6, b7, b8, b9, b10, b11⟩ := B2; rw [HK.out] at b0)
          go_returns
          have hk := HK.out
          have e1 : outW rs p v u = v + u := by simp [outW, hk]
          exact ⟨.inl ⟨by simp [okTop, hk, HO.out], _, _, rfl, by rw [e1]; exact (.inr (.inr (.inr (.inl ⟨hk, _, Fe, D, ke, rfl⟩)))), .inl rfl⟩, bel2⟩
        | false =>
          go_wp2_with (go_at_call 77; refine Calls.mono (hO _ hb) ?_; rintro z w2 ⟨rfl, hb2⟩; have bel2 : Below w.heap.size w w2 := hb.trans (hb2.mono hzb); have B2 := hBk.below hb2; clear b0 b1 b2 b3 b4 b5 b6 b7 b8 b9 b10 b11 hO hb2; obtain ⟨_, b0, b1, b2, b3, b4, b5, b6, b7, b8, b9, b10, b11⟩ := B2; rw [HK.out] at b0)
          go_quiet (fail)
          go_wp2_with fail
          go_returns
          have hk := HK.out
          exact ⟨.inr ⟨by simp [okTop, hk, HO.out], rfl⟩, bel2.trans ((below_drewN w2 _).mono bel2.size)⟩
set_option maxHeartbeats 8000000 in
set_option maxRecDepth 100000 in
theorem right_4 {W0 w : World} {rs : List R3} {p : P12} {ue us uk vd : Value} {Fe Fs Fd : List Nat} {D N : Nat} (hb0 : Below W0.heap.size W0 w) (hdb : okDb rs = true) (hR : RelsF W0 vd rs Fd) (hw : p.wf) (hn : wtP p ≤ 1048576) (ke : KidsIs W0 D ue p.e.ks Fe) (kes : KidsIs W0 D us p.es Fs) (ae : Own W0 N Fe) (aq : Own W0 N Fs) (huk : ∃ a c, uk = .slice a p.ks.length c) (hp : partsP p = true) (hk : p.k = 4) (v u : Int) (a : Option Addr) (c : Nat) (hc : 2 ≤ c ∧ c ≤ maxLen) (gk : Nat) (x0 t0 : Value) (w0 : Wid x0 v t0) (v0 : 0 ≤ v ∧ v ≤ 12) (s0 : ∃ a l c, t0 = .slice a l c) (c0 : w.cell? ⟨gk, 0, none⟩ = some x0) (x1 t1 : Value) (w1 : Wid x1 u t1) (v1 : 0 ≤ u ∧ u ≤ 12) (s1 : ∃ a l c, t1 = .slice a l c) (c1 : w.cell? ⟨gk, 1, none⟩ = some x1) :
    Calls Tryz.prog 56 #[vd, (.agg #[.int .i64 p.k, .string p.s, .int .i64 p.e.k, .int .i64 p.e.n, .int .i64 p.e.v.k, .int .i64 p.e.v.n, .string p.e.v.s, .string p.e.p, ue, us, .int .i64 p.n, uk]), .slice (some ⟨gk, 0, none⟩) 2 c] w fun x w' => RgtOut W0 rs p v u (.slice (some ⟨gk, 0, none⟩) 2 c) 2 x ∧ Below w.heap.size w w' := by
  have hwt := wtP_eq p
  have hzw := hb0.size
  unfold maxLen at hc
  obtain ⟨aE, cE, rfl, hE1, hE2⟩ := ke.shape
  obtain ⟨aS, cS, rfl, hS1, hS2⟩ := kes.shape
  obtain ⟨aK, cK, rfl⟩ := huk
  unfold maxLen at hE2 hS2
  obtain ⟨t0', y0, k0, rfl, hM0, _⟩ := w0
  obtain ⟨z0, z1, z2, rfl⟩ := s0
  obtain ⟨t1', y1, k1, rfl, hM1, _⟩ := w1
  obtain ⟨z3, z4, z5, rfl⟩ := s1
  have hgk : gk < w.heap.size := World.block_lt_of_cell? _ _ c0
  have hB := bxP_new w p (.slice aE p.e.ks.length cE) (.slice aS p.es.length cS) (.slice aK p.ks.length cK) 62
  have HK : Hid (p.k = 4) := hk
  clear hk
  go_enter Tryz.func56, Tryz.ntmps56
  go_wp2_with fail
  go_loopw [7, 12] (fun s i wr => ∃ k : Nat, k ≤ 2 ∧ i = .int .i64 k ∧ s = .int .i64 (if k = 0 then 0 else if k = 1 then v else v + u) ∧ BxP wr w.heap.size p (.slice aE p.e.ks.length cE) (.slice aS p.es.length cS) (.slice aK p.ks.length cK) ∧ Below w.heap.size w wr) (fun _ i _ => 2 - (intOf i).toNat)
  case atStart => exact ⟨0, Nat.zero_le _, rfl, rfl, hB.below (by repeat (first | (with_reducible exact Below.refl _ _) | (with_reducible refine Below.drew ?_) | (with_reducible refine Below.alloc ?_ ?hh _; case hh => first | (simp; done) | (simp; omega) | omega) | (with_reducible refine Below.setCell ?_ ?hh _; case hh => first | (simp; done) | (simp; omega) | omega) | refine bstep (by assumption) (by first | (simp; done) | (simp; omega) | omega) ?_)), by repeat (first | (with_reducible exact Below.refl _ _) | (with_reducible refine Below.drew ?_) | (with_reducible refine Below.alloc ?_ ?hh _; case hh => first | (simp; done) | (simp; omega) | omega) | (with_reducible refine Below.setCell ?_ ?hh _; case hh => first | (simp; done) | (simp; omega) | omega) | refine bstep (by assumption) (by first | (simp; done) | (simp; omega) | omega) ?_)⟩
  case round =>
    obtain ⟨k, hkn, rfl, rfl, hBr, hb⟩ := hrel
    have hzb := hb.size
    rcases Nat.lt_or_ge k 1 with hlt | hge
    · obtain rfl : k = 0 := by omega
      have d0 := ((bcell hb).1 gk 0 hgk).trans c0
      have hgr : gk < wr.heap.size := by omega
      go_wp2_with (go_at_call 158; refine Calls.mono (frameWidth_any _ _ _ _ _ _) ?_; rintro z w2 ⟨rfl, hb2⟩)
      exact ⟨⟨1, by omega, rfl, by simp [wrap64]; try omega, hBr.below hb2, hb.trans (hb2.mono hzb)⟩, by simp [intOf]⟩
    · rcases Nat.lt_or_ge k 2 with hlt | hge
      · obtain rfl : k = 1 := by omega
        have d1 := ((bcell hb).1 gk 1 hgk).trans c1
        have hgr : gk < wr.heap.size := by omega
        go_wp2_with (go_at_call 158; refine Calls.mono (frameWidth_any _ _ _ _ _ _) ?_; rintro z w2 ⟨rfl, hb2⟩)
        exact ⟨⟨2, by omega, rfl, by simp [wrap64]; try omega, hBr.below hb2, hb.trans (hb2.mono hzb)⟩, by simp [intOf]⟩
      · obtain rfl : k = 2 := by omega
        have hBk := hBr
        obtain ⟨b', b0, b1, b2, b3, b4, b5, b6, b7, b8, b9, b10, b11⟩ := hBr
        rw [HK.out] at b0
        have d0 := ((bcell hb).1 gk 0 hgk).trans c0
        have d1 := ((bcell hb).1 gk 1 hgk).trans c1
        have hgr : gk < wr.heap.size := by omega
        by_cases hvu : v = u
        · have hq : decide (v = u) = true := decide_eq_true hvu
          go_wp2_with fail
          go_region_held3 (fun w' => w'.cell? ⟨w.heap.size, 0, none⟩ = some (.int .i64 4) ∧ w'.cell? ⟨gk, 0, none⟩ = some (.iface t0' y0) ∧ w'.cell? ⟨gk, 1, none⟩ = some (.iface t1' y1)) (refine ⟨?_, ?_, ?_⟩ <;> first | (with_reducible assumption) | (go_simp; done) | (exact cell_later (by assumption) (by go_simp))) (first | (go_at_call 158; refine Calls.mono (frameWidth_any _ _ _ _ _ _) ?_; rintro z w4 ⟨rfl, hb4⟩; have hz4 := hb4.size; (try simp at hz4)))
          have bel4 : Below w.heap.size w w4 := by repeat (first | (with_reducible exact Below.refl _ _) | (with_reducible refine Below.drew ?_) | (with_reducible refine Below.alloc ?_ ?hh _; case hh => first | (simp; done) | (simp; omega) | omega) | (with_reducible refine Below.setCell ?_ ?hh _; case hh => first | (simp; done) | (simp; omega) | omega) | refine bstep (by assumption) (by first | (simp; done) | (simp; omega) | omega) ?_)
          have hzb4 := bel4.size
          have hh : w4.cell? ⟨w.heap.size, 0, none⟩ = some (.int .i64 4) ∧ w4.cell? ⟨gk, 0, none⟩ = some (.iface t0' y0) ∧ w4.cell? ⟨gk, 1, none⟩ = some (.iface t1' y1) := by assumption
          obtain ⟨p0, p1, p2⟩ := hh
          have hg4 : gk < w4.heap.size := by omega
          have hw4 : w.heap.size < w4.heap.size := World.block_lt_of_cell? _ _ p0
          clear b0 b1 b2 b3 b4 b5 b6 b7 b8 b9 b10 b11 d0 d1
          go_wp2_with fail
          go_region_held3 (fun w' => w'.cell? ⟨w.heap.size, 0, none⟩ = some (.int .i64 4) ∧ w'.cell? ⟨gk, 0, none⟩ = some (.iface t0' y0)) (refine ⟨?_, ?_⟩ <;> first | (with_reducible assumption) | (go_simp; done) | (exact cell_later (by assumption) (by go_simp))) (first | (go_at_call 158; refine Calls.mono (frameWidth_any _ _ _ _ _ _) ?_; rintro z w5 ⟨rfl, hb5⟩; have hz5 := hb5.size; (try simp at hz5)))
          go_wp2_with fail
          go_returns
          have hk := HK.out
          have e1 : outW rs p v u = u := by simp [outW, hk, hvu]
          exact ⟨.inl ⟨by simp [okTop, hk, hvu], _, _, rfl, by rw [e1]; exact (.inr (.inr (.inr (.inr (.inl ⟨hk, rfl⟩))))), .inl rfl⟩, by repeat (first | (with_reducible exact Below.refl _ _) | (with_reducible refine Below.drew ?_) | (with_reducible refine Below.alloc ?_ ?hh _; case hh => first | (simp; done) | (simp; omega) | omega) | (with_reducible refine Below.setCell ?_ ?hh _; case hh => first | (simp; done) | (simp; omega) | omega) | refine bstep (by assumption) (by first | (simp; done) | (simp; omega) | omega) ?_)⟩
        · have hq : decide (v = u) = false := decide_eq_false hvu
          go_wp2_with fail
          go_region_held3 (fun w' => w'.cell? ⟨w.heap.size, 0, none⟩ = some (.int .i64 4) ∧ w'.cell? ⟨gk, 0, none⟩ = some (.iface t0' y0) ∧ w'.cell? ⟨gk, 1, none⟩ = some (.iface t1' y1)) (refine ⟨?_, ?_, ?_⟩ <;> first | (with_reducible assumption) | (go_simp; done) | (exact cell_later (by assumption) (by go_simp))) (first | (go_at_call 158; refine Calls.mono (frameWidth_any _ _ _ _ _ _) ?_; rintro z w4 ⟨rfl, hb4⟩; have hz4 := hb4.size; (try simp at hz4)))
          have bel4 : Below w.heap.size w w4 := by repeat (first | (with_reducible exact Below.refl _ _) | (with_reducible refine Below.drew ?_) | (with_reducible refine Below.alloc ?_ ?hh _; case hh => first | (simp; done) | (simp; omega) | omega) | (with_reducible refine Below.setCell ?_ ?hh _; case hh => first | (simp; done) | (simp; omega) | omega) | refine bstep (by assumption) (by first | (simp; done) | (simp; omega) | omega) ?_)
          have hzb4 := bel4.size
          have hh : w4.cell? ⟨w.heap.size, 0, none⟩ = some (.int .i64 4) ∧ w4.cell? ⟨gk, 0, none⟩ = some (.iface t0' y0) ∧ w4.cell? ⟨gk, 1, none⟩ = some (.iface t1' y1) := by assumption
          obtain ⟨p0, p1, p2⟩ := hh
          have hw4 : w.heap.size < w4.heap.size := World.block_lt_of_cell? _ _ p0
          clear b0 b1 b2 b3 b4 b5 b6 b7 b8 b9 b10 b11 d0 d1
          go_wp2_with fail
          go_returns
          have hk := HK.out
          exact ⟨.inr ⟨by simp [okTop, hk, hvu], rfl⟩, by repeat (first | (with_reducible exact Below.refl _ _) | (with_reducible refine Below.drew ?_) | (with_reducible refine Below.alloc ?_ ?hh _; case hh => first | (simp; done) | (simp; omega) | omega) | (with_reducible refine Below.setCell ?_ ?hh _; case hh => first | (simp; done) | (simp; omega) | omega) | refine bstep (by assumption) (by first | (simp; done) | (simp; omega) | omega) ?_)⟩
set_option maxHeartbeats 8000000 in
set_option maxRecDepth 100000 in
theorem right_5 {W0 w : World} {rs : List R3} {p : P12} {ue us uk vd : Value} {Fe Fs Fd : List Nat} {D N : Nat} (hb0 : Below W0.heap.size W0 w) (hdb : okDb rs = true) (hR : RelsF W0 vd rs Fd) (hw : p.wf) (hn : wtP p ≤ 1048576) (ke : KidsIs W0 D ue p.e.ks Fe) (kes : KidsIs W0 D us p.es Fs) (ae : Own W0 N Fe) (aq : Own W0 N Fs) (huk : ∃ a c, uk = .slice a p.ks.length c) (hp : partsP p = true) (hk : p.k = 5) (v u : Int) (a : Option Addr) (c : Nat) (hc : 1 ≤ c ∧ c ≤ maxLen) (gk : Nat) (x0 t0 : Value) (w0 : Wid x0 v t0) (v0 : 0 ≤ v ∧ v ≤ 12) (s0 : ∃ a l c, t0 = .slice a l c) (c0 : w.cell? ⟨gk, 0, none⟩ = some x0) :
    Calls Tryz.prog 56 #[vd, (.agg #[.int .i64 p.k, .string p.s, .int .i64 p.e.k, .int .i64 p.e.n, .int .i64 p.e.v.k, .int .i64 p.e.v.n, .string p.e.v.s, .string p.e.p, ue, us, .int .i64 p.n, uk]), .slice (some ⟨gk, 0, none⟩) 1 c] w fun x w' => RgtOut W0 rs p v u (.slice (some ⟨gk, 0, none⟩) 1 c) 1 x ∧ Below w.heap.size w w' := by
  have hwt := wtP_eq p
  have hzw := hb0.size
  unfold maxLen at hc
  obtain ⟨aE, cE, rfl, hE1, hE2⟩ := ke.shape
  obtain ⟨aS, cS, rfl, hS1, hS2⟩ := kes.shape
  obtain ⟨aK, cK, rfl⟩ := huk
  unfold maxLen at hE2 hS2
  obtain ⟨t0', y0, k0, rfl, hM0, _⟩ := w0
  obtain ⟨z0, z1, z2, rfl⟩ := s0
  have hgk : gk < w.heap.size := World.block_lt_of_cell? _ _ c0
  have hB := bxP_new w p (.slice aE p.e.ks.length cE) (.slice aS p.es.length cS) (.slice aK p.ks.length cK) 62
  have HK : Hid (p.k = 5) := hk
  clear hk
  go_enter Tryz.func56, Tryz.ntmps56
  go_wp2_with fail
  go_loopw [7, 12] (fun s i wr => ∃ k : Nat, k ≤ 1 ∧ i = .int .i64 k ∧ s = .int .i64 (if k = 0 then 0 else v) ∧ BxP wr w.heap.size p (.slice aE p.e.ks.length cE) (.slice aS p.es.length cS) (.slice aK p.ks.length cK) ∧ Below w.heap.size w wr) (fun _ i _ => 1 - (intOf i).toNat)
  case atStart => exact ⟨0, Nat.zero_le _, rfl, rfl, hB.below (by repeat (first | (with_reducible exact Below.refl _ _) | (with_reducible refine Below.drew ?_) | (with_reducible refine Below.alloc ?_ ?hh _; case hh => first | (simp; done) | (simp; omega) | omega) | (with_reducible refine Below.setCell ?_ ?hh _; case hh => first | (simp; done) | (simp; omega) | omega) | refine bstep (by assumption) (by first | (simp; done) | (simp; omega) | omega) ?_)), by repeat (first | (with_reducible exact Below.refl _ _) | (with_reducible refine Below.drew ?_) | (with_reducible refine Below.alloc ?_ ?hh _; case hh => first | (simp; done) | (simp; omega) | omega) | (with_reducible refine Below.setCell ?_ ?hh _; case hh => first | (simp; done) | (simp; omega) | omega) | refine bstep (by assumption) (by first | (simp; done) | (simp; omega) | omega) ?_)⟩
  case round =>
    obtain ⟨k, hkn, rfl, rfl, hBr, hb⟩ := hrel
    have hzb := hb.size
    rcases Nat.lt_or_ge k 1 with hlt | hge
    · obtain rfl : k = 0 := by omega
      have d0 := ((bcell hb).1 gk 0 hgk).trans c0
      have hgr : gk < wr.heap.size := by omega
      go_wp2_with (go_at_call 158; refine Calls.mono (frameWidth_any _ _ _ _ _ _) ?_; rintro z w2 ⟨rfl, hb2⟩)
      exact ⟨⟨1, by omega, rfl, by simp [wrap64]; try omega, hBr.below hb2, hb.trans (hb2.mono hzb)⟩, by simp [intOf]⟩
    · obtain rfl : k = 1 := by omega
      have hBk := hBr
      obtain ⟨b', b0, b1, b2, b3, b4, b5, b6, b7, b8, b9, b10, b11⟩ := hBr
      rw [HK.out] at b0
      go_wp2_with fail
      go_quiet (fail)
      go_wp2_with fail
      go_returns
      have hk := HK.out
      have e1 : outW rs p v u = v := by simp [outW, hk]
      exact ⟨.inl ⟨by simp [okTop, hk], _, _, rfl, by rw [e1]; exact (.inr (.inr (.inr (.inr (.inr (.inl ⟨hk, rfl⟩)))))), .inl rfl⟩, hb.trans ((below_drewN wr _).mono hzb)⟩
set_option maxHeartbeats 8000000 in
set_option maxRecDepth 100000 in
theorem right_6 {W0 w : World} {rs : List R3} {p : P12} {ue us uk vd : Value} {Fe Fs Fd : List Nat} {D N : Nat} (hb0 : Below W0.heap.size W0 w) (hdb : okDb rs = true) (hR : RelsF W0 vd rs Fd) (hw : p.wf) (hn : wtP p ≤ 1048576) (ke : KidsIs W0 D ue p.e.ks Fe) (kes : KidsIs W0 D us p.es Fs) (ae : Own W0 N Fe) (aq : Own W0 N Fs) (huk : ∃ a c, uk = .slice a p.ks.length c) (hp : partsP p = true) (hk : p.k = 6) (v u : Int) (a : Option Addr) (c : Nat) (hc : 1 ≤ c ∧ c ≤ maxLen) (gk : Nat) (x0 t0 : Value) (w0 : Wid x0 v t0) (v0 : 0 ≤ v ∧ v ≤ 12) (s0 : ∃ a l c, t0 = .slice a l c) (c0 : w.cell? ⟨gk, 0, none⟩ = some x0) :
    Calls Tryz.prog 56 #[vd, (.agg #[.int .i64 p.k, .string p.s, .int .i64 p.e.k, .int .i64 p.e.n, .int .i64 p.e.v.k, .int .i64 p.e.v.n, .string p.e.v.s, .string p.e.p, ue, us, .int .i64 p.n, uk]), .slice (some ⟨gk, 0, none⟩) 1 c] w fun x w' => RgtOut W0 rs p v u (.slice (some ⟨gk, 0, none⟩) 1 c) 1 x ∧ Below w.heap.size w w' := by
  have hwt := wtP_eq p
  have hzw := hb0.size
  unfold maxLen at hc
  obtain ⟨aE, cE, rfl, hE1, hE2⟩ := ke.shape
  obtain ⟨aS, cS, rfl, hS1, hS2⟩ := kes.shape
  obtain ⟨aK, cK, rfl⟩ := huk
  unfold maxLen at hE2 hS2
  have hO := fun (w2 : World) (hb : Below w.heap.size w w2) => expsOver_any _ p.es Fs D v w2 (kes.below (hb0.trans (hb.mono hzw))) ⟨aq.1, fun b hb' => ((aq.dst kes).2 b hb').keep ((hb0.trans (hb.mono hzw)).block b (kes.lt b hb'))⟩ (by omega)
  obtain ⟨bo, HO⟩ : ∃ b, Hid (p.es.all (belowE · v) = b) := ⟨_, rfl⟩
  rw [HO.out] at hO
  obtain ⟨t0', y0, k0, rfl, hM0, _⟩ := w0
  obtain ⟨z0, z1, z2, rfl⟩ := s0
  have hgk : gk < w.heap.size := World.block_lt_of_cell? _ _ c0
  have hB := bxP_new w p (.slice aE p.e.ks.length cE) (.slice aS p.es.length cS) (.slice aK p.ks.length cK) 62
  have HK : Hid (p.k = 6) := hk
  clear hk
  go_enter Tryz.func56, Tryz.ntmps56
  go_wp2_with fail
  go_loopw [7, 12] (fun s i wr => ∃ k : Nat, k ≤ 1 ∧ i = .int .i64 k ∧ s = .int .i64 (if k = 0 then 0 else v) ∧ BxP wr w.heap.size p (.slice aE p.e.ks.length cE) (.slice aS p.es.length cS) (.slice aK p.ks.length cK) ∧ Below w.heap.size w wr) (fun _ i _ => 1 - (intOf i).toNat)
  case atStart => exact ⟨0, Nat.zero_le _, rfl, rfl, hB.below (by repeat (first | (with_reducible exact Below.refl _ _) | (with_reducible refine Below.drew ?_) | (with_reducible refine Below.alloc ?_ ?hh _; case hh => first | (simp; done) | (simp; omega) | omega) | (with_reducible refine Below.setCell ?_ ?hh _; case hh => first | (simp; done) | (simp; omega) | omega) | refine bstep (by assumption) (by first | (simp; done) | (simp; omega) | omega) ?_)), by repeat (first | (with_reducible exact Below.refl _ _) | (with_reducible refine Below.drew ?_) | (with_reducible refine Below.alloc ?_ ?hh _; case hh => first | (simp; done) | (simp; omega) | omega) | (with_reducible refine Below.setCell ?_ ?hh _; case hh => first | (simp; done) | (simp; omega) | omega) | refine bstep (by assumption) (by first | (simp; done) | (simp; omega) | omega) ?_)⟩
  case round =>
    obtain ⟨k, hkn, rfl, rfl, hBr, hb⟩ := hrel
    have hzb := hb.size
    rcases Nat.lt_or_ge k 1 with hlt | hge
    · obtain rfl : k = 0 := by omega
      have d0 := ((bcell hb).1 gk 0 hgk).trans c0
      have hgr : gk < wr.heap.size := by omega
      go_wp2_with (go_at_call 158; refine Calls.mono (frameWidth_any _ _ _ _ _ _) ?_; rintro z w2 ⟨rfl, hb2⟩)
      exact ⟨⟨1, by omega, rfl, by simp [wrap64]; try omega, hBr.below hb2, hb.trans (hb2.mono hzb)⟩, by simp [intOf]⟩
    · obtain rfl : k = 1 := by omega
      have hBk := hBr
      obtain ⟨b', b0, b1, b2, b3, b4, b5, b6, b7, b8, b9, b10, b11⟩ := hBr
      rw [HK.out] at b0
      have hes : p.es.length ≤ 1 := by have h1 := hp; simp [partsP, HK.out] at h1; omega
      go_wp2_with fail
      go_quiet (fail)
      by_cases hn0 : 0 ≤ p.n
      · by_cases hnv : p.n ≤ v
        · cases bo with
          | true =>
            go_wp2_with (go_at_call 77; refine Calls.mono (hO _ (hb.trans ((below_drewN wr _).mono hzb))) ?_; rintro z w2 ⟨rfl, hb2⟩; have hb3 : Below wr.heap.size wr w2 := (below_drewN wr _).trans (hb2.mono (below_drewN wr _).size); have bel2 : Below w.heap.size w w2 := hb.trans (hb3.mono hzb); have B2 := hBk.below hb3; clear b0 b1 b2 b3 b4 b5 b6 b7 b8 b9 b10 b11 hO hb2 hb3; obtain ⟨_, b0, b1, b2, b3, b4, b5, b6, b7, b8, b9, b10, b11⟩ := B2; rw [HK.out] at b0)
            go_returns
            have hk := HK.out
            have e1 : outW rs p v u = p.n + 1 + p.es.length := by simp [outW, hk]
            exact ⟨.inl ⟨by have h1 := HO.out; simp at h1; simp [okTop, hk]; exact ⟨⟨⟨hn0, hnv⟩, hes⟩, h1⟩, _, _, rfl, by rw [e1]; exact (.inr (.inr (.inr (.inr (.inr (.inr ⟨hk, _, Fs, D, kes, rfl⟩)))))), .inl rfl⟩, bel2⟩
          | false =>
            go_wp2_with (go_at_call 77; refine Calls.mono (hO _ (hb.trans ((below_drewN wr _).mono hzb))) ?_; rintro z w2 ⟨rfl, hb2⟩; have hb3 : Below wr.heap.size wr w2 := (below_drewN wr _).trans (hb2.mono (below_drewN wr _).size); have bel2 : Below w.heap.size w w2 := hb.trans (hb3.mono hzb); have B2 := hBk.below hb3; clear b0 b1 b2 b3 b4 b5 b6 b7 b8 b9 b10 b11 hO hb2 hb3; obtain ⟨_, b0, b1, b2, b3, b4, b5, b6, b7, b8, b9, b10, b11⟩ := B2; rw [HK.out] at b0)
            go_returns
            have hk := HK.out
            exact ⟨.inr ⟨by have h1 := HO.out; rw [okTop, if_neg (by omega), if_neg (by omega), if_neg (by omega), if_neg (by omega), if_neg (by omega), if_pos hk, h1, Bool.and_false], rfl⟩, bel2⟩
        · go_wp2_with fail
          go_returns
          have hk := HK.out
          exact ⟨.inr ⟨by simp [okTop, hk]; intros; omega, rfl⟩, hb.trans ((below_drewN wr _).mono hzb)⟩
      · go_wp2_with fail
        go_returns
        have hk := HK.out
        exact ⟨.inr ⟨by simp [okTop, hk]; intros; omega, rfl⟩, hb.trans ((below_drewN wr _).mono hzb)⟩
end Go.Proofs.YtaeibfipcenhaaaGreatDoor
