/- Own text. The contract of impl.Names. -/
import Derived.Test.YtjhcachbaebhfaaNmT
import Derived.Test.YtjhcachbaebhfaaNmW
import Derived.Handy
import Derived.Maps.AppendAt
namespace Go.Proofs.Ytjhcachbaebhfaa
open Go.RowKit Go.Deep Go.ChangeShapes Go.WideShapes
set_option linter.unusedVariables false
theorem cells_ofN {w : World} {a : Addr} {v : Value} (h : w.cell? a = some v) : ∃ c t l, w.heap[a.block]? = some (.cells c t l) := by
  unfold World.cell? at h
  split at h
  · rename_i c t l hc
    exact ⟨_, _, _, hc⟩
  · cases h
theorem KidsIs.cellsN {w : World} : ∀ {d : Nat} {v : Value} {es : List E7} {F : List Nat}, KidsIs w d v es F → ∀ b ∈ F, ∃ c t l, w.heap[b]? = some (.cells c t l)
  | 0, _, _, _, h => h.elim
  | d + 1, v, es, F, h => by
    obtain ⟨a, c, G, rfl, _, _, hG, h0, h⟩ := h
    by_cases hne : es = []
    · rw [h0 hne]; intro b hb; cases hb
    obtain ⟨b, o, rfl, hlt, rfl, hL⟩ := h hne
    intro x hx
    have hp : 0 < es.length := List.length_pos_iff.2 hne
    have hpG : 0 < G.length := by omega
    rcases List.mem_cons.1 hx with rfl | hx
    · obtain ⟨_, ⟨hc, _⟩, _⟩ := hL 0 es[0] G[0] (by simp) (by simp)
      exact cells_ofN hc
    obtain ⟨g, hg, hxg⟩ := List.mem_flatten.1 hx
    obtain ⟨i, hi, rfl⟩ := List.mem_iff_getElem.1 hg
    have hi' : i < es.length := by omega
    obtain ⟨_, _, u, _, hk⟩ := hL i es[i] G[i] (by simp) (by simp)
    exact hk.cellsN x hxg
theorem PlansIs.cellsN {w : World} {D : Nat} : ∀ {d : Nat} {v : Value} {ps : List P12} {F : List Nat}, PlansIs w D d v ps F → ∀ b ∈ F, ∃ c t l, w.heap[b]? = some (.cells c t l)
  | 0, _, _, _, h => h.elim
  | d + 1, v, ps, F, h => by
    obtain ⟨a, c, G, rfl, _, _, hG, h0, h⟩ := h
    by_cases hne : ps = []
    · rw [h0 hne]; intro b hb; cases hb
    obtain ⟨b, o, rfl, hlt, rfl, hL⟩ := h hne
    intro x hx
    have hp : 0 < ps.length := List.length_pos_iff.2 hne
    have hpG : 0 < G.length := by omega
    rcases List.mem_cons.1 hx with rfl | hx
    · obtain ⟨_, _, _, _, ⟨hc, _⟩, _⟩ := hL 0 ps[0] G[0] (by simp) (by simp)
      exact cells_ofN hc
    obtain ⟨g, hg, hxg⟩ := List.mem_flatten.1 hx
    obtain ⟨i, hi, rfl⟩ := List.mem_iff_getElem.1 hg
    have hi' : i < ps.length := by omega
    obtain ⟨_, ue, us, u, _, Fe, Fs, h', hgg, ke, kes, kp⟩ := hL i ps[i] G[i] (by simp) (by simp)
    rw [hgg] at hxg
    rcases List.mem_append.1 hxg with hx | hx
    · exact ke.cellsN x hx
    rcases List.mem_append.1 hx with hx | hx
    · exact kes.cellsN x hx
    · exact kp.cellsN x hx
/-- the names of the tables among places. -/
def namN (ns : List N9) : List ByteArray := (ns.filter fun x => x.p.k == 0).map fun x => x.p.s
theorem namN_take {ns : List N9} {k : Nat} {x : N9} (h : ns[k]? = some x) : namN (ns.take (k + 1)) = if x.p.k = 0 then namN (ns.take k) ++ [x.p.s] else namN (ns.take k) := by
  unfold namN
  rw [take_snocC h, List.filter_append, List.map_append]
  by_cases h0 : x.p.k = 0
  · rw [if_pos h0]; simp [h0]
  · rw [if_neg h0]; simp [h0]
theorem namN_len (ns : List N9) : (namN ns).length ≤ ns.length := by
  unfold namN
  rw [List.length_map]
  exact List.length_filter_le _ _
theorem mem_namN {ns : List N9} {x : ByteArray} : x ∈ namN ns ↔ ∃ y ∈ ns, y.p.k = 0 ∧ x = y.p.s := by
  unfold namN
  rw [List.mem_map]
  constructor
  · rintro ⟨y, hy, rfl⟩
    rw [List.mem_filter] at hy
    exact ⟨y, hy.1, by simpa using hy.2, rfl⟩
  · rintro ⟨y, hy, h0, rfl⟩
    exact ⟨y, List.mem_filter.2 ⟨hy, by simpa using h0⟩, rfl⟩
theorem cell_noneN {w : World} {b o : Nat} {t : TypeId} {l : Nat × Nat} (h : w.heap[b]? = some (.cells #[] t l)) : w.cell? ⟨b, o, none⟩ = none := by
  simp [World.cell?, h]
theorem own_subN {w : World} {N : Nat} {F G : List Nat} (h : Own w N F) (hs : G.Sublist F) : Own w N G := ⟨hs.nodup h.1, fun b hb => h.2 b (hs.subset hb)⟩
set_option maxHeartbeats 4000000 in
set_option maxRecDepth 100000 in
theorem implNames_any (D d N : Nat) (p : P12) (ue us u : Value) (F : List Nat) (w : World) (hL0 : ListsP w D (PlansIs w D d) p ue us u F) (ho : Own w N F) (hn : wtP p ≤ 1048576) :
    Calls Try.prog 56 #[(.agg #[.int .i64 p.k, .string p.s, .int .i64 p.e.k, .int .i64 p.e.n, .int .i64 p.e.v.k, .int .i64 p.e.v.n, .string p.e.v.s, .string p.e.p, ue, us, .int .i64 p.n, u])] w fun x w' => (∃ v g, x = .returned v ∧ StrsF w' v (namL d p) g ∧ Own w' w.heap.size g) ∧ Below w.heap.size w w' := by
  obtain ⟨i0, hi, hz0, hz1', hz2'⟩ := info_parts Try.infoStr
  obtain ⟨ae, ce, ak, ck, a, c, rfl, rfl, rfl, _, _, _, _, _, _⟩ := hL0.shape
  obtain ⟨L, hL⟩ : ∃ L, Hid (namL d p = L) := ⟨_, rfl⟩
  have hbx : Below w.heap.size w ((w.alloc (.cells #[.int .i64 p.k, .string p.s, .int .i64 p.e.k, .int .i64 p.e.n, .int .i64 p.e.v.k, .int .i64 p.e.v.n, .string p.e.v.s, .string p.e.p, .slice ae p.e.ks.length ce, .slice ak p.es.length ck, .int .i64 p.n, .slice a p.ks.length c] 77)).alloc (.cells #[] 9)) := by repeat (first | (with_reducible exact Below.refl _ _) | (with_reducible refine Below.drew ?_) | (with_reducible refine Below.alloc ?_ ?hh _; case hh => first | (simp; done) | (simp; omega) | omega) | (with_reducible refine Below.setCell ?_ ?hh _; case hh => first | (simp; done) | (simp; omega) | omega) | refine bstep (by assumption) (by first | (simp; done) | (simp; omega) | omega) ?_)
  have hblt := hL0.lt
  have ho2 := ho.below hblt hbx
  obtain ⟨Fe, Fs, h, rfl, ke, kes, kp⟩ := hL0.below hbx
  have hoh := own_subN ho2 ((List.sublist_append_right Fs h).trans (List.sublist_append_right Fe _))
  have hok : (⟨w.heap.size, 0, D, d, p, h⟩ : N9).ok ((w.alloc (.cells #[.int .i64 p.k, .string p.s, .int .i64 p.e.k, .int .i64 p.e.n, .int .i64 p.e.v.k, .int .i64 p.e.v.n, .string p.e.v.s, .string p.e.p, .slice ae p.e.ks.length ce, .slice ak p.es.length ck, .int .i64 p.n, .slice a p.ks.length c] 77)).alloc (.cells #[] 9)) := by
    refine ⟨?_, ?_, ?_, .slice a p.ks.length c, ?_, kp⟩
    · show w.heap.size < _
      simp
      try omega
    · dsimp only
      go_simp
    · dsimp only
      go_simp
    · dsimp only
      go_simp
  have hfr : ∀ x ∈ h, FrN ((w.alloc (.cells #[.int .i64 p.k, .string p.s, .int .i64 p.e.k, .int .i64 p.e.n, .int .i64 p.e.v.k, .int .i64 p.e.v.n, .string p.e.v.s, .string p.e.p, .slice ae p.e.ks.length ce, .slice ak p.es.length ck, .int .i64 p.n, .slice a p.ks.length c] 77)).alloc (.cells #[] 9)) x := fun x hx => ⟨kp.cellsN x hx, (hoh.2 x hx).2⟩
  have hcall := placesOf_any D d w.heap.size 0 N p h _ hok hoh hfr hn
  have hno : ∀ o, ((w.alloc (.cells #[.int .i64 p.k, .string p.s, .int .i64 p.e.k, .int .i64 p.e.n, .int .i64 p.e.v.k, .int .i64 p.e.v.n, .string p.e.v.s, .string p.e.p, .slice ae p.e.ks.length ce, .slice ak p.es.length ck, .int .i64 p.n, .slice a p.ks.length c] 77)).alloc (.cells #[] 9)).cell? ⟨w.heap.size + 1, o, none⟩ = none := fun o => cell_noneN (heap_twoN w (.cells #[.int .i64 p.k, .string p.s, .int .i64 p.e.k, .int .i64 p.e.n, .int .i64 p.e.v.k, .int .i64 p.e.v.n, .string p.e.v.s, .string p.e.p, .slice ae p.e.ks.length ce, .slice ak p.es.length ck, .int .i64 p.n, .slice a p.ks.length c] 77) (.cells #[] 9)).2
  have hy1 : ((w.alloc (.cells #[.int .i64 p.k, .string p.s, .int .i64 p.e.k, .int .i64 p.e.n, .int .i64 p.e.v.k, .int .i64 p.e.v.n, .string p.e.v.s, .string p.e.p, .slice ae p.e.ks.length ce, .slice ak p.es.length ck, .int .i64 p.n, .slice a p.ks.length c] 77)).alloc (.cells #[] 9)).ownsRow (w.heap.size + 1) 9 1 (.slice (some ⟨w.heap.size + 1, 0, none⟩) 0 0) 0 [] := ints_none (by simp) (Nat.le_refl _)
  have hsz : ((w.alloc (.cells #[.int .i64 p.k, .string p.s, .int .i64 p.e.k, .int .i64 p.e.n, .int .i64 p.e.v.k, .int .i64 p.e.v.n, .string p.e.v.s, .string p.e.p, .slice ae p.e.ks.length ce, .slice ak p.es.length ck, .int .i64 p.n, .slice a p.ks.length c] 77)).alloc (.cells #[] 9)).heap.size = w.heap.size + 1 + 1 := by simp
  rw [hL.out] at hcall ⊢
  clear hok hoh hfr ho2 ke kes kp hL0 hblt ho
  go_enter Try.func56, Try.ntmps56
  go_wp2_with fail
  generalize (w.alloc (.cells #[.int .i64 p.k, .string p.s, .int .i64 p.e.k, .int .i64 p.e.n, .int .i64 p.e.v.k, .int .i64 p.e.v.n, .string p.e.v.s, .string p.e.p, .slice ae p.e.ks.length ce, .slice ak p.es.length ck, .int .i64 p.n, .slice a p.ks.length c] 77)).alloc (.cells #[] 9) = wB at *
  refine Calls.mono hcall ?_
  rintro x w1 ⟨⟨v1, ns, rfl, hown, hoks, hlen, hmem⟩, hb1⟩
  have hz1 := hb1.size
  have hasc : L.Pairwise lessS := by rw [← hL.out]; exact asc_namL _ _
  have HS : Hid (Lib.compact (((namN ns).map ByteArray.toList).mergeSort fun x y => decide (x ≤ y)) = L.map ByteArray.toList) := sortS (namN ns) L hasc fun x => (hmem x).trans mem_namN.symm
  obtain ⟨ao, cap, rfl, hcap, hcm⟩ : ∃ ao cap, v1 = .slice ao ns.length cap ∧ ns.length ≤ cap ∧ cap ≤ maxLen := by
    rcases hown.2 with ⟨hv, h0⟩ | ⟨g, cap, cur, hv, _, _, hn', hm, _⟩
    · exact ⟨none, 0, by rw [h0]; exact hv, by omega, by simp⟩
    · exact ⟨_, cap, hv, hn', hm⟩
  have hptr : ∀ (k : Nat) (x : N9), ns[k]? = some x → ∃ g, ao = some ⟨g, 0, none⟩ ∧ w1.cell? ⟨g, k, none⟩ = some (.pointer (some ⟨x.b, x.o, none⟩)) ∧ g < w1.heap.size ∧ w.heap.size + 1 + 1 ≤ g := by
    intro k x hx
    obtain ⟨g', cap', hv', _, _, _, _, hgl, hgN, hp⟩ := own_readN hown hx
    injection hv' with e1
    exact ⟨g', e1, hp, hgl, by omega⟩
  have hQat : ∀ (k : Nat) (x : N9), ns[k]? = some x → x.b < w1.heap.size ∧ x.b ≠ w.heap.size + 1 ∧ w1.cell? ⟨x.b, x.o, none⟩ = some (.int .i64 x.p.k) ∧ w1.cell? ⟨x.b, x.o + 1, none⟩ = some (.string x.p.s) := by
    intro k x hx
    obtain ⟨h1, h2, h3, _⟩ := hoks x (List.mem_of_getElem? hx)
    refine ⟨by omega, fun e => ?_, ((bcell hb1).1 _ _ h1).trans h2, ((bcell hb1).1 _ _ h1).trans h3⟩
    rw [e, hno] at h2
    cases h2
  have hy0 : w1.ownsRow (w.heap.size + 1) 9 1 (.slice (some ⟨w.heap.size + 1, 0, none⟩) 0 0) 0 [] := ownsE_keep hy1 fun b hb => by
    simp [Value.ownBlock] at hb
    subst hb
    exact hb1.block _ (by omega)
  have bel1 : Below w.heap.size w w1 := hbx.trans (hb1.mono (by omega))
  have hzw : w.heap.size + 1 + 1 ≤ w1.heap.size := by omega
  unfold maxLen at hcm
  have hlen2 : ns.length ≤ 1048577 := by omega
  clear hb1 hown hoks hmem hasc hno hy1 hcall hbx
  go_wp2
  go_loopw [3, 9] (fun y i wr => ∃ (k yb yc : Nat), k ≤ ns.length ∧ i = .int .i64 k ∧ y = .slice (some ⟨yb, 0, none⟩) (namN (ns.take k)).length yc ∧ wr.ownsRow (w.heap.size + 1) 9 1 (.slice (some ⟨yb, 0, none⟩) (namN (ns.take k)).length yc) (namN (ns.take k)).length (strs (namN (ns.take k))) ∧ (yb = w.heap.size + 1 ∨ w1.heap.size ≤ yb) ∧ (∀ b, b < w1.heap.size → b ≠ w.heap.size + 1 → wr.heap[b]? = w1.heap[b]?) ∧ w1.heap.size ≤ wr.heap.size ∧ Below w.heap.size w wr) (fun _ i _ => ns.length - (intOf i).toNat)
  case atStart => exact ⟨0, w.heap.size + 1, 0, Nat.zero_le _, rfl, by simp [namN], by simpa [namN, strs] using hy0, .inl rfl, fun b _ _ => rfl, Nat.le_refl _, bel1⟩
  case round =>
    obtain ⟨k, yb, yc, hkl, rfl, rfl, hO, hyb, hblk, hzr, hb⟩ := hrel
    by_cases hlt : k < ns.length
    · obtain ⟨x, hx⟩ : ∃ x, ns[k]? = some x := ⟨ns[k], by simp [hlt]⟩
      obtain ⟨xl, xN, c0, c1⟩ := hQat k x hx
      obtain ⟨g, rfl, hpk, hgl, hgN⟩ := hptr k x hx
      have p1 := (cell_blk (o := k) (hblk g hgl (by omega))).trans hpk
      have d0 := (cell_blk (o := x.o) (hblk x.b xl xN)).trans c0
      have d1 := (cell_blk (o := x.o + 1) (hblk x.b xl xN)).trans c1
      have HT := namN_take hx
      have hcl := namN_len (ns.take k)
      have hcl2 : (ns.take k).length ≤ k := by simp; omega
      have hol := ownsE_lt hO
      by_cases h0 : x.p.k = 0
      · rw [if_pos h0] at HT
        have HT : Hid (namN (ns.take (k + 1)) = namN (ns.take k) ++ [x.p.s]) := HT
        rw [h0] at d0
        have HB : Hid (∀ b, b < w1.heap.size → b ≠ w.heap.size + 1 → wr.heap[b]? = w1.heap[b]?) := hblk
        generalize namN (ns.take k) = zs at *
        have hO3 : (wr.alloc (.cells #[.string x.p.s] 9)).ownsRow (w.heap.size + 1) 9 1 (.slice (some ⟨yb, 0, none⟩) zs.length yc) zs.length (strs zs) := ownsE_keep hO fun b hb => Below.heap_alloc _ _ _ (hol b hb).2
        have hnew : ∀ j' u, [Value.string x.p.s][j']? = some u → (wr.alloc (.cells #[.string x.p.s] 9)).cell? ((⟨wr.heap.size, 0, none⟩ : Addr).add j') = some u := by
          intro j' u hu
          match j', hu with
          | 0, hu => simp at hu; subst hu; go_simp
        have hybl : yb < wr.heap.size := (hol yb rfl).2
        clear hO hblk hptr hQat hx c0 c1 h0
        go_wp2_with (at_builtin; refine wpList_append_own_at _ rfl _ _ 80 rfl (w.heap.size + 1) 9 i0 _ 1 16 Try.underlying80 hi hz0 hz1' hz2' rfl (by decide) (.slice (some ⟨yb, 0, none⟩) zs.length yc) zs.length (strs zs) rfl hO3 ⟨wr.heap.size, 0, none⟩ 1 1 [.string x.p.s] rfl rfl hnew (by simp [Value.oneCell']) ?c3 ?c4 ?c5 ?_)
        case c3 => unfold maxLen; omega
        case c4 => omega
        case c5 => simp; omega
        intro v5 w5 hown5 hgr5 _ hat5
        have hsz5 := hgr5.size
        simp at hsz5
        have hown6 : w5.ownsRow (w.heap.size + 1) 9 1 v5 (zs ++ [x.p.s]).length (strs (zs ++ [x.p.s])) := by
          rw [List.length_append]
          simpa [strs] using hown5
        obtain ⟨b5, c5, hv5⟩ : ∃ b5 c5, v5 = .slice (some ⟨b5, 0, none⟩) (zs ++ [x.p.s]).length c5 := by
          rcases hown6.2 with ⟨_, h⟩ | ⟨b5, c5, _, hv, _⟩
          · simp at h
          · exact ⟨b5, c5, hv⟩
        subst hv5
        have hyb5 : b5 = w.heap.size + 1 ∨ w1.heap.size ≤ b5 := by
          rcases hat5 with h | h
          · simp [Value.ownBlock] at h; rw [h]; exact hyb
          · simp [Value.ownBlock] at h; omega
        have hblk5 : ∀ b, b < w1.heap.size → b ≠ w.heap.size + 1 → w5.heap[b]? = w1.heap[b]? := by
          intro b hb hbg
          rw [← HB.out b hb hbg, hgr5.block b (by simp; omega) (by simp [Value.ownBlock]; omega)]
          exact Below.heap_alloc _ _ _ (by omega)
        have hbw5 : Below w.heap.size w w5 := (hb.alloc (by omega) _).grown hgr5 (by simp; omega) (fun q hq => by simp [Value.ownBlock] at hq; omega)
        rw [← HT.out] at hown6
        have HL5 : Hid ((zs ++ [x.p.s]).length = (namN (ns.take (k + 1))).length) := by show _ = _; rw [HT.out]
        clear hown5 hgr5 hat5 hO3 hnew hol
        go_wp2
        exact ⟨⟨k + 1, b5, c5, hlt, by simp, by first | (rw [← HL5.out]; done) | (rw [← HL5.out]; simp), hown6, hyb5, hblk5, by omega, hbw5⟩, by simp [intOf]; omega⟩
      · rw [if_neg h0] at HT
        have HT : Hid (namN (ns.take (k + 1)) = namN (ns.take k)) := HT
        have hkb : (x.p.k == 0) = false := by simpa using h0
        have hkd : decide (x.p.k = 0) = false := by simpa using h0
        have HB : Hid (∀ b, b < w1.heap.size → b ≠ w.heap.size + 1 → wr.heap[b]? = w1.heap[b]?) := hblk
        clear hblk hptr hQat hx c0 c1 h0
        go_wp2
        exact ⟨⟨k + 1, yb, yc, hlt, by simp, by rw [HT.out], by rw [HT.out]; exact hO, hyb, HB.out, hzr, hb⟩, by simp [intOf]; omega⟩
    · obtain rfl : k = ns.length := by omega
      rw [List.take_length] at hO
      simp only [List.take_length]
      obtain ⟨hH, hc1, hc2, hN', hyl, hfz⟩ := own_holdsS hO
      have hcl := namN_len ns
      have hS3 := fun w2 w3 n q os => sorted_strs (zs := (namN ns).map ByteArray.toList) (w2 := w2) (w3 := w3) (n := n) (q := q) (os := os) (L := L) hH (by rw [List.length_map]; exact hc1) hc2 hN' hyl hfz
      have hms : (((namN ns).map ByteArray.toList).mergeSort fun x y => decide (x ≤ y)).length = (namN ns).length := by rw [List.length_mergeSort, List.length_map]
      have hCM := fun w2 => Try.slices_Compact_string yb 0 yc (((namN ns).map ByteArray.toList).mergeSort fun x y => decide (x ≤ y)) w2
      have hHM : ∀ n os, Sort.Holds encStr (Sort.grow (Sort.putRow encStr (Sort.ahead wr n) yb 0 (((namN ns).map ByteArray.toList).mergeSort fun x y => decide (x ≤ y)).toArray) os) yb 0 (((namN ns).map ByteArray.toList).mergeSort fun x y => decide (x ≤ y)).toArray := fun n os =>
        Sort.holds_grow _ _ _ _ _ _ (by simpa using hyl) (Sort.holds_putRow _ _ _ _ ((namN ns).map ByteArray.toList).toArray _ (Sort.holds_ahead _ _ _ _ _ _ hH) (by simp))
      have hSS := Try.slices_Sort_string yb 0 yc ((namN ns).map ByteArray.toList) wr hH hyl (by rw [List.length_map]; omega)
      rw [List.length_map] at hSS
      clear hblk hptr hQat hO
      go_wp2_with fail
      refine Calls.mono (hSS) ?_
      rintro q w2 ⟨rfl, n2, os2, h2⟩
      have hH2 := hHM n2 os2
      rw [← h2] at hH2
      have hC2 := hCM w2 hH2 (by rw [hms]; omega) (by rw [hms]; exact hc1)
      rw [hms] at hC2
      have HS3 := hS3 w2
      have H2 : Hid (w2 = Sort.grow (Sort.putRow encStr (Sort.ahead wr n2) yb 0 (((namN ns).map ByteArray.toList).mergeSort fun x y => decide (x ≤ y)).toArray) os2) := h2
      have hl2 : (Lib.compact (((namN ns).map ByteArray.toList).mergeSort fun x y => decide (x ≤ y))).length = L.length := by rw [HS.out, List.length_map]
      clear hCM hHM hS3 hH hH2 h2
      go_wp2_with fail
      refine Calls.mono hC2 ?_
      rintro q w3 ⟨rfl, q3, h3⟩
      obtain ⟨⟨gg, hI3, hO3⟩, hb3⟩ := HS3 w3 n2 q3 os2 H2.out (by rw [List.length_map]; exact h3) HS.out
      rw [hl2]
      have hbE : Below w.heap.size w w3 := hb.trans (hb3.mono (by omega))
      clear hC2 HS3 h3
      go_wp2
      refine bodyPost_ret (v := .slice (some ⟨yb, 0, none⟩) L.length yc) (by simp [results, Try.results56, go_sem]) rfl ⟨⟨_, gg, rfl, hI3, ⟨hO3.1, fun b hb' => ⟨by have := (hO3.2 b hb').1; omega, (hO3.2 b hb').2⟩⟩⟩, hbE⟩
end Go.Proofs.Ytjhcachbaebhfaa
