/- Own text. The contract of impl.placesOf. -/
import Derived.Test.YtjhcachbaebhfaaNmQ
import Derived.Handy
import Derived.WideMake
import Derived.Deep.RegionHeld3
import Derived.Deep.Slices
namespace Go.Proofs.Ytjhcachbaebhfaa
open Go.RowKit Go.Deep
set_option linter.unusedVariables false
theorem heap_twoN (w : World) (X Y : Obj) : ((w.alloc X).alloc Y).heap[w.heap.size]? = some X ∧ ((w.alloc X).alloc Y).heap[w.heap.size + 1]? = some Y := by
  constructor
  · show ((w.heap.push X).push Y)[w.heap.size]? = some X
    simp [Array.getElem?_push]
  · have := heap_alloc_new (w.alloc X) Y
    rwa [World.size_alloc] at this
theorem own_keep3N {w w' : World} {N e n s : Nat} {v : Value} {xs : List Value} (h : w.ownsRow N e s v n xs) (hb : ∀ g c t l, v.ownBlock = some g → w.heap[g]? = some (.cells c t l) → w'.heap[g]? = w.heap[g]?) : w'.ownsRow N e s v n xs := by
  refine ⟨h.1, ?_⟩
  rcases h.2 with hn | ⟨g, cap, cur, rfl, hg, hc, rest⟩
  · exact .inl hn
  · exact .inr ⟨g, cap, cur, rfl, hg, (hb g _ _ _ rfl hc).trans hc, rest⟩
theorem own_shapeN {w : World} {N e n s : Nat} {v : Value} {xs : List Value} (h : w.ownsRow N e s v n xs) (hn : 0 < n) : ∃ g cap, v = .slice (some ⟨g, 0, none⟩) n cap ∧ n ≤ cap ∧ cap ≤ maxLen ∧ N ≤ g ∧ g < w.heap.size ∧ ∃ c t l, w.heap[g]? = some (.cells c t l) := by
  rcases h.2 with ⟨_, h0⟩ | ⟨g, cap, cur, rfl, hg, hc, hn', hm, _⟩
  · omega
  · refine ⟨g, cap, rfl, hn', hm, hg, ?_, _, _, _, hc⟩
    rcases Nat.lt_or_ge g w.heap.size with h' | h'
    · exact h'
    · simp [Array.getElem?_eq_none h'] at hc
theorem Try.infoPtrP : (Try.prog.info? 138).map (fun i => (i.zero, i.size, i.bytes)) = some (some (.pointer none), 1, 8) := by kernel_rfl
/-- what placesOf answers: the places, and by them the names of the list L. -/
def PlOut (w w' : World) (tot : Nat) (L : List ByteArray) (x : Ending) : Prop :=
  ∃ v ms, x = .returned v ∧ w'.ownsRow w.heap.size 138 1 v ms.length (pcN ms) ∧ (∀ m ∈ ms, m.ok w) ∧ ms.length ≤ tot ∧ ∀ x, x ∈ L ↔ ∃ m ∈ ms, m.p.k = 0 ∧ x = m.p.s
theorem flat_map_subN {q r : Nat → List Nat} : ∀ (l : List Nat), (∀ i ∈ l, (q i).Sublist (r i)) → (l.map q).flatten.Sublist (l.map r).flatten
  | [], _ => by simp
  | x :: l, h => by
    rw [List.map_cons, List.flatten_cons, List.map_cons, List.flatten_cons]
    exact List.Sublist.append (h x List.mem_cons_self) (flat_map_subN l fun i hi => h i (List.mem_cons_of_mem _ hi))
theorem kids_N {w : World} {D d bl ol : Nat} {m : N9} {G : List (List Nat)} (hL : PLies w D d bl ol m.p.ks G) (hblt : bl < w.heap.size) (hG : G.length = m.p.ks.length) (hD : m.D = D) :
    ∃ K : List (List Nat), K.length = m.p.ks.length ∧ K.flatten.Sublist G.flatten ∧ ∀ j, j < m.p.ks.length → (kN m d bl ol K j).ok w := by
  have each : ∀ i, i < m.p.ks.length → ∃ k : List Nat, k.Sublist (G.getD i []) ∧ (⟨bl, ol + i * 12, m.D, d, m.p.ks.getD i DataW.nil, k⟩ : N9).ok w := by
    intro i hi
    have hi' : i < G.length := by omega
    obtain ⟨_, ue, us, u, hc, Fe, Fs, h', hg, _, _, kp⟩ := hL i m.p.ks[i] G[i] (by simp) (by simp)
    have e : G.getD i [] = G[i] := by simp [List.getD_eq_getElem?_getD, hi']
    have e' : m.p.ks.getD i DataW.nil = m.p.ks[i] := by simp [List.getD_eq_getElem?_getD, hi]
    have s3 : h'.Sublist G[i] := by rw [hg]; exact (List.sublist_append_right _ _).trans (List.sublist_append_right _ _)
    refine ⟨h', by rw [e]; exact s3, ?_⟩
    rw [e', hD]
    exact ⟨hblt, hc.1, hc.2.1, u, hc.2.2.2.2.2.2.2.2.2.2.2, kp⟩
  obtain ⟨q, hq⟩ := choose_lt each
  refine ⟨(List.range m.p.ks.length).map q, by simp, ?_, fun j hj => ?_⟩
  · rw [← flat_getDN G, hG]
    exact flat_map_subN _ fun i hi => (hq i (List.mem_range.1 hi)).1
  · have := (hq j hj).2
    unfold kN
    rw [show ((List.range m.p.ks.length).map q).getD j [] = q j from by simp [List.getD_eq_getElem?_getD, hj]]
    exact this
attribute [local go_sem] Go.run_makeMap_plain
set_option maxHeartbeats 4000000 in
set_option maxRecDepth 100000 in
theorem placesOf_any (D d b q N : Nat) (p : P12) (F : List Nat) (w : World) (h : (⟨b, q, D, d, p, F⟩ : N9).ok w) (hO : Own w N F) (hFr : ∀ x ∈ F, FrN w x) (hn : wtP p ≤ 1048576) :
    Calls Try.prog 115 #[.pointer (some ⟨b, q, none⟩)] w fun x w' => PlOut w w' (1 + wtP p) (namL d p) x ∧ Below w.heap.size w w' := by
  have hFr' : ∀ x ∈ F, FrN w x ∧ x < w.heap.size := fun x hx => ⟨hFr x hx, by obtain ⟨_, _, _, _, _, hk⟩ := h; exact hk.lt x hx⟩
  obtain ⟨i0, hi, hz0, hz1, hz2⟩ := info_parts Try.infoPtrP
  go_enter Try.func115, Try.ntmps115
  go_wp2_with fail
  go_loopw [3, 5] (fun v i wr => ∃ (k : Nat) (ms : List N9) (es : Array MapEntry) (ck : Nat), i = .int .i64 k ∧ QueN w F (w.heap.size + 1) (namL d p) (1 + wtP p) wr v k ms es ck) (fun _ i _ => 1 + wtP p - (intOf i).toNat)
  case atStart =>
    refine ⟨0, [⟨b, q, D, d, p, F⟩], #[], 0, rfl, ⟨by simp, ⟨by simp [pcN], .inr ⟨w.heap.size, 1, #[.pointer (some ⟨b, q, none⟩)], rfl, Nat.le_refl _, ?_, by simp, by simp [maxLen], by simp, by simp [pcN]⟩⟩, ?_, by repeat (first | (with_reducible exact Below.refl _ _) | (with_reducible refine Below.drew ?_) | (with_reducible refine Below.alloc ?_ ?hh _; case hh => first | (simp; done) | (simp; omega) | omega) | (with_reducible refine Below.setCell ?_ ?hh _; case hh => first | (simp; done) | (simp; omega) | omega) | refine bstep (by assumption) (by first | (simp; done) | (simp; omega) | omega) ?_), ?_, by simp, by simp, by simpa using hO.1, ?_, by simp⟩⟩
    · exact (heap_twoN w _ _).1
    · exact (heap_twoN w _ _).2
    · intro m hm
      rcases List.mem_singleton.1 hm with rfl
      exact h
    · intro x
      unfold NamesAt
      obtain ⟨d', hd'⟩ := h.pos
      dsimp only at hd'
      constructor
      · intro hx
        exact .inr ⟨_, List.mem_singleton.2 rfl, hx⟩
      · rintro (⟨m, hm, hk⟩ | ⟨m, hm, hx⟩)
        · rcases List.mem_singleton.1 hm with rfl
          rw [hd', mem_namL]
          exact .inl hk
        · rcases List.mem_singleton.1 hm with rfl
          exact hx
  case round =>
    obtain ⟨k, ms, es, ck, rfl, hQ⟩ := hrel
    have hb := hQ.bel
    have hzb := hb.size
    have htot := hQ.tot
    by_cases hlt : k < ms.length
    · have hm : ms[k]? = some ms[k] := by simp
      generalize ms[k] = m at hm
      obtain ⟨g, cap, hv, hnl, hik, hcap, hmx, hglt, hNg, c0⟩ := own_readN hQ.own hm
      subst hv
      have hPl := hQ.ok m (List.mem_of_getElem? hm)
      unfold maxLen at hmx
      obtain ⟨d1, hd1⟩ := hPl.pos
      obtain ⟨hlbw, _, _, ul, hul, hKl⟩ := id hPl
      rw [hd1] at hKl
      have hblw : m.b < wr.heap.size := by omega
      have HQ : Hid (QueN w F (w.heap.size + 1) (namL d p) (1 + wtP p) wr (.slice (some ⟨g, 0, none⟩) ms.length cap) k ms es ck) := hQ
      have HM : Hid (ms[k]? = some m) := hm
      have HD : Hid (m.d = d1 + 1) := hd1
      obtain ⟨al, cl, bl, ol, Ga, rfl, hll, hcl, hGa, hF0, hal⟩ := hKl.pick
      have hulr : wr.cell? ⟨m.b, m.o + 11, none⟩ = some (.slice al m.p.ks.length cl) := by
        rw [(Below.cell (p := ⟨m.b, m.o + 11, none⟩) hb hlbw)]; exact hul
      obtain ⟨G, hG, hGs, hGp⟩ : ∃ G : List (List Nat), G.length = m.p.ks.length ∧ (m.p.ks ≠ [] → ∃ R, m.F = bl :: R ∧ G.flatten.Sublist R) ∧ ∀ j, j < m.p.ks.length → (kN m d1 bl ol G j).ok w := by
        by_cases hne : m.p.ks = []
        · exact ⟨[], by rw [hne]; rfl, fun h => absurd hne h, fun i hi => by rw [hne] at hi; simp at hi⟩
        · obtain ⟨_, hblt, hFl, hLl⟩ := hal 0 (List.length_pos_iff.2 hne)
          obtain ⟨K, k1, k2, k3⟩ := kids_N (m := m) hLl hblt hGa rfl
          exact ⟨K, k1, fun _ => ⟨_, hFl, k2⟩, k3⟩
      unfold maxLen at hcl
      have htl : ms.length + m.p.ks.length ≤ 1048577 := by
        have := HQ.out.tot
        have e := wtP_eq m.p
        obtain ⟨hkl, rfl⟩ := List.getElem?_eq_some_iff.1 HM.out
        rw [List.drop_eq_getElem_cons hkl, List.map_cons, List.sum_cons] at this
        omega
      have hI0 : InnN w F (w.heap.size + 1) wr (.slice (some ⟨g, 0, none⟩) ms.length cap) k ms m d1 bl ol G 0 es ck := HQ.out.inn (Below.refl _ _)
      clear hQ hm hd1 hKl hul hPl
      go_wp2_with fail
      go_loopw [3, 28] (fun v' kk w' => ∃ (j : Nat) (es' : Array MapEntry) (ck' : Nat), j ≤ m.p.ks.length ∧ kk = .int .i64 j ∧ InnN w F (w.heap.size + 1) w' v' k ms m d1 bl ol G j es' ck') (fun _ kk _ => m.p.ks.length - (intOf kk).toNat)
      case atStart => exact ⟨0, es, ck, Nat.zero_le _, rfl, hI0⟩
      case round =>
        clear hI0
        obtain ⟨j, es', ck', hj, rfl, hI⟩ := hrel
        by_cases hjl : j < m.p.ks.length
        · obtain ⟨rfl, hblt, hFl, hLl⟩ := hal j hjl
          have hblm : bl ∈ m.F := by rw [hFl]; exact List.mem_cons_self
          have hX := hI.bel
          have hBz : w.heap.size + 1 < wr.heap.size := (Array.getElem?_eq_some_iff.1 hI.map).1
          have hmX := hI.map
          have hoX := hI.own
          have hfX := hI.fresh HM.out hblm hFr' hX
          have hblF : bl ∈ F := HQ.out.sub m (by
            obtain ⟨hkl, rfl⟩ := List.getElem?_eq_some_iff.1 HM.out
            rw [List.drop_eq_getElem_cons hkl]; exact List.mem_cons_self) bl hblm
          have hpX : FrN wr bl := (hFr' bl hblF).1.keep (hX.block bl (hFr' bl hblF).2)
          obtain ⟨n, hn'⟩ : ∃ n, n = ms.length + j := ⟨_, rfl⟩
          rw [← hn'] at hoX
          obtain ⟨g2, cap2, rfl, hc2, hm2, hN2, hlt2, hcl2⟩ := own_shapeN hoX (by omega)
          unfold maxLen at hm2
          have hlook := look_noN wr (p := ⟨bl, ol + j * 12, none⟩) hmX hpX hfX
          have hupd := upd_noN wr (p := ⟨bl, ol + j * 12, none⟩) (v := .int .i64 n) hmX hpX hfX
          obtain ⟨y0, y1, y2, y3⟩ := upd_worldN (o' := .map (es'.push ⟨.pointer (some ⟨bl, ol + j * 12, none⟩), .int .i64 n, ck'⟩) (ck' + 1)) hmX (by omega) hX
          generalize ({ wr with heap := wr.heap.setIfInBounds (w.heap.size + 1) (.map (es'.push ⟨.pointer (some ⟨bl, ol + j * 12, none⟩), .int .i64 n, ck'⟩) (ck' + 1)) } : World) = wY at *
          have hgB : g2 ≠ w.heap.size + 1 := by
            rintro rfl
            obtain ⟨c, t, l, hc⟩ := hcl2
            rw [hmX] at hc; cases hc
          have hoY : wY.ownsRow w.heap.size 138 1 (.slice (some ⟨g2, 0, none⟩) n cap2) n (pcN (ms ++ ksN m d1 bl ol G j)) := own_keep3N hoX fun g' c t l hg' _ => by
            simp [Value.ownBlock] at hg'
            subst hg'
            exact y1 _ hgB
          have HI : Hid (InnN w F (w.heap.size + 1) wr (.slice (some ⟨g2, 0, none⟩) n cap2) k ms m d1 bl ol G j es' ck') := hI
          have HN : Hid (n = ms.length + j) := hn'
          have hn2 : n + 1 ≤ 1048577 := by omega
          have hnew : ∀ j' u, [Value.pointer (some ⟨bl, ol + j * 12, none⟩)][j']? = some u → (wY.alloc (.cells #[.pointer (some ⟨bl, ol + j * 12, none⟩)] 138)).cell? ((⟨wY.heap.size, 0, none⟩ : Addr).add j') = some u := by
            intro j' u hu
            match j', hu with
            | 0, hu => simp at hu; subst hu; go_simp
          have hoZ : (wY.alloc (.cells #[.pointer (some ⟨bl, ol + j * 12, none⟩)] 138)).ownsRow w.heap.size 138 1 (.slice (some ⟨g2, 0, none⟩) n cap2) n (pcN (ms ++ ksN m d1 bl ol G j)) := own_keep2N hoY ((Below.refl _ _).alloc (Nat.le_refl _) _)
          have hyz : w.heap.size + 1 < wY.heap.size := by omega
          clear hI hn' hoX hfX hpX hX hmX hcl2 hal hGp hGs hulr c0 y2
          go_wp2_with (at_builtin; refine wpList_append_own _ rfl _ _ 143 rfl w.heap.size 138 i0 _ 1 8 Try.underlying143 hi hz0 hz1 hz2 rfl (by decide) _ _ _ rfl hoZ ⟨wY.heap.size, 0, none⟩ 1 1 [.pointer (some ⟨bl, ol + j * 12, none⟩)] rfl rfl hnew (by simp [Value.oneCell']) ?c3 ?c4 ?c5 ?_)
          case c3 => unfold maxLen; omega
          case c4 => omega
          case c5 => simp; omega
          intro v5 w5 hown5 hgr5 _
          have hB5 : w5.heap[w.heap.size + 1]? = some (.map (es'.push ⟨.pointer (some ⟨bl, ol + j * 12, none⟩), .int .i64 n, ck'⟩) (ck' + 1)) := by
            rw [hgr5.block _ (by simp; omega) (by simp [Value.ownBlock]; omega)]
            rw [Below.block ((Below.refl _ _).alloc (Nat.le_refl _) _) _ hyz]
            exact y0
          have hbel5 : Below w.heap.size w w5 := (Below.alloc y3 (by omega) _).grown hgr5 (by simp; omega) (fun k' hk' => by simp [Value.ownBlock] at hk'; omega)
          have hI5 := HI.out.step hblF (by rw [HN.out] at hown5; exact hown5) hB5 hbel5
          clear hown5 hgr5 hB5 hbel5
          go_wp2
          exact ⟨⟨j + 1, _, _, hjl, by simp, hI5⟩, by simp [intOf]; omega⟩
        · obtain rfl : j = m.p.ks.length := by omega
          have hQ' := InnN.done HQ.out HM.out HD.out hG hF0 hGs hGp hI
          have hkt : k < 1 + wtP p := by omega
          clear hI hal hGp hGs
          go_wp2_with fail
          exact ⟨⟨k + 1, _, es', ck', by simp, hQ'⟩, by simp [intOf]; omega⟩
    · have hk0 : k = ms.length := by have := hQ.le; omega
      have HN : Hid (∀ x, x ∈ namL d p ↔ ∃ m ∈ ms, m.p.k = 0 ∧ x = m.p.s) := by
        intro x
        rw [hQ.names x, hk0, List.drop_length]
        unfold NamesAt
        simp
      have HO : Hid (wr.ownsRow w.heap.size 138 1 u3 ms.length (pcN ms)) := hQ.own
      have HK : Hid (∀ m ∈ ms, m.ok w) := hQ.ok
      obtain ⟨ao, cap, hv, hmx⟩ : ∃ ao cap, u3 = .slice ao ms.length cap ∧ ms.length ≤ maxLen := by
        rcases hQ.own.2 with ⟨hv, h0⟩ | ⟨g, cap, cur, hv, _, _, hn', hm, _⟩
        · exact ⟨none, 0, by rw [h0]; exact hv, by rw [h0]; simp⟩
        · exact ⟨_, cap, hv, by omega⟩
      unfold maxLen at hmx
      subst hv
      have hle : ms.length ≤ 1 + wtP p := by omega
      clear hQ
      go_wp2_with fail
      refine bodyPost_ret (v := .slice ao ms.length cap) (by simp [results, Try.results115, go_sem]) rfl ⟨⟨_, ms, rfl, HO.out, HK.out, hle, HN.out⟩, hb⟩
end Go.Proofs.Ytjhcachbaebhfaa
