/- Own text. The contracts of impl.copyNodes and impl.copyExp: a copy of an expression, and the list of what stands in it. -/
import Derived.Test.YtnbcmkbkiebbdaaNodK
import Derived.Test.YtnbcmkbkiebbdaaClnR
import Derived.Handy
import Derived.Maps.AppendAt
namespace Go.Proofs.Ytnbcmkbkiebbdaa
open Go.RowKit Go.Deep Go.ChangeShapes Go.WideShapes
set_option linter.unusedVariables false
theorem Try.infoPtE : (Try.prog.info? 121).map (fun i => (i.zero, i.size, i.bytes)) = some (some (.pointer none), 1, 8) := by kernel_rfl
/-- the pointers to nodes. -/
def pts (ns : List Nd) : List Value := ns.map fun x => .pointer (some ⟨x.b, x.o, none⟩)
theorem pts_len (ns : List Nd) : (pts ns).length = ns.length := by simp [pts]
theorem pts_push (ns : List Nd) (x : Nd) : pts (ns ++ [x]) = pts ns ++ [.pointer (some ⟨x.b, x.o, none⟩)] := by simp [pts]
theorem pts_read {w : World} {N n : Nat} {v : Value} {ns : List Nd} {t : TypeId} (h : w.ownsRow N t 1 v n (pts ns)) {i : Nat} {x : Nd} (hx : ns[i]? = some x) :
    ∃ g cap, v = .slice (some ⟨g, 0, none⟩) n cap ∧ n = ns.length ∧ i < n ∧ n ≤ cap ∧ cap ≤ maxLen ∧ g < w.heap.size ∧ N ≤ g ∧ w.cell? ⟨g, i, none⟩ = some (.pointer (some ⟨x.b, x.o, none⟩)) := by
  obtain ⟨hl, ho⟩ := h
  rw [pts_len] at hl
  have hi : i < ns.length := (List.getElem?_eq_some_iff.1 hx).1
  have e0 : (pts ns)[i]? = some (.pointer (some ⟨x.b, x.o, none⟩)) := by simp [pts, hx]
  rcases ho with ⟨_, h0⟩ | ⟨g, cap, cur, rfl, hg, hc, hn, hmx, hs, ht⟩
  · omega
  have hlt : g < w.heap.size := by
    rcases Nat.lt_or_ge g w.heap.size with h' | h'
    · exact h'
    · simp [Array.getElem?_eq_none h'] at hc
  refine ⟨g, cap, rfl, by omega, by omega, hn, hmx, hlt, hg, ?_⟩
  simp only [World.cell?, hc]
  rw [← ht, List.getElem?_take, if_pos (by omega), Array.getElem?_toList] at e0
  simpa using e0
theorem news_take {ks : List E7} {g k : Nat} {e : E7} (h : ks[k]? = some e) : (news ks g).take (k + 1) = (news ks g).take k ++ [⟨g, k * 7, e⟩] := by
  have h1 := news_at (g := g) h
  obtain ⟨hk, h2⟩ := List.getElem?_eq_some_iff.1 h1
  rw [List.take_succ_eq_append_getElem hk, h2]
theorem nq_start {w : World} {D : Nat} {P : E7 → Prop} {e : E7} {u : Value} {wr : World} (hN : 0 < w.heap.size) (he : e.wf) (hP : P e) (hb : w.heap.size < wr.heap.size) (hf : ∀ q, wr.frozen? ⟨w.heap.size, q, none⟩ = false) (hc : cellsE wr w.heap.size 0 e) (hu : wr.cell? ⟨w.heap.size, 6, none⟩ = some u) (hr : RE w (D + 1) u e.ks) :
    NQ w D (fun _ => (0, 0)) P wr 0 [⟨w.heap.size, 0, e⟩] := by
  refine ⟨fun j x hx => ?_, fun j k x y hx hy _ _ => ?_, rfl, fun c hc => hc⟩
  · cases j with
    | zero =>
      simp at hx
      subst hx
      exact ⟨⟨he, hP, Nat.le_refl _, hb, hf, rfl⟩, hc, u, hu, fun _ => hr, fun h => absurd h (by omega)⟩
    | succ j => simp at hx
  · have h1 := (List.getElem?_eq_some_iff.1 hx).1
    have h2 := (List.getElem?_eq_some_iff.1 hy).1
    simp at h1 h2
    omega
theorem clOf_parts {w wr w1 : World} {u v : Value} {ks : List E7} (hcl : ClOf w1 wr.heap.size u v ks.length) (hb : Below w.heap.size w w1) :
    ∃ gg av cv, v = .slice av ks.length cv ∧ wr.heap.size ≤ gg ∧ ks.length ≤ cv ∧ cv ≤ maxLen ∧ (ks ≠ [] → av = some ⟨gg, 0, none⟩) ∧
      (ks ≠ [] → gg < w1.heap.size ∧ (∀ q, w1.frozen? ⟨gg, q, none⟩ = false) ∧ ∀ b o n c, u = .slice (some ⟨b, o, none⟩) n c → b < w.heap.size → ∀ j, j < ks.length * 7 → w1.cell? ⟨gg, j, none⟩ = w.cell? ⟨b, o + j, none⟩) := by
  rcases hcl with ⟨h0, a, c, rfl, hc⟩ | ⟨b, o, c, g, cap, rfl, rfl, hg, hgl, hcap, hm, hf, hcell⟩
  · have hne : ¬ ks ≠ [] := fun h => h (List.length_eq_zero_iff.1 h0)
    exact ⟨wr.heap.size, a, c, by rw [h0], Nat.le_refl _, by omega, hc, fun h => absurd h hne, fun h => absurd h hne⟩
  · refine ⟨g, _, cap, rfl, hg, hcap, hm, fun _ => rfl, fun _ => ⟨hgl, hf, fun b' o' n' c' hu hb' j hj => ?_⟩⟩
    injection hu with ha
    injection ha with ha
    injection ha with h1 h2
    subst h1 h2
    rw [hcell j hj]
    exact (bcell hb).1 _ _ hb'
theorem NQ.round {w wr w1 w3 : World} {D i g gg : Nat} {hang : Nat → Nat × Nat} {P : E7 → Prop} {ns : List Nd} {x : Nd} {u : Value} {av : Option Addr} {cv : Nat} (h : NQ w D hang P wr i ns) (hx : ns[i]? = some x) (hP : ∀ e, P e → ∀ k ∈ e.ks, P k) (hu : wr.cell? ⟨x.b, x.o + 6, none⟩ = some u) (hN : w.heap.size ≤ wr.heap.size)
    (hb1 : Below wr.heap.size wr w1) (hdis : ∀ (j : Nat) (y : Nd), ns[j]? = some y → y.b ≠ g) (hg : g < wr.heap.size) (hs3 : w1.heap.size ≤ w3.heap.size)
    (h3 : ∀ b, b < w1.heap.size → b ≠ g → w3.heap[b]? = (w1.setCell ⟨x.b, x.o + 6, none⟩ (.slice av x.e.ks.length cv)).heap[b]?)
    (hgg : wr.heap.size ≤ gg) (hc1 : x.e.ks.length ≤ cv) (hc2 : cv ≤ maxLen) (hav : x.e.ks ≠ [] → av = some ⟨gg, 0, none⟩)
    (hgl : x.e.ks ≠ [] → gg < w1.heap.size ∧ (∀ q, w1.frozen? ⟨gg, q, none⟩ = false) ∧ ∀ b o n c, u = .slice (some ⟨b, o, none⟩) n c → b < w.heap.size → ∀ j, j < x.e.ks.length * 7 → w1.cell? ⟨gg, j, none⟩ = w.cell? ⟨b, o + j, none⟩) :
    NQ w D (fun c => if c = gg then (x.b, x.o + 6) else hang c) P w3 (i + 1) (ns ++ news x.e.ks gg) := by
  have hz1 := hb1.size
  have hlt : ∀ (j : Nat) (y : Nd), ns[j]? = some y → y.b < wr.heap.size := fun j y hy => (h.at' j y hy).1.2.2.2.1
  have hxl := hlt i x hx
  refine h.step hx hP hu (by omega) hN (fun j y hy q hne => ?_) (fun j y hy q => ?_) ?_ hgg ⟨av, cv, rfl, hc1, hc2, hav⟩ fun hne => ?_
  · have hy1 := hlt j y hy
    rw [cell_blk (h3 y.b (by omega) (hdis j y hy)), World.cell?_setCell_other _ _ _ _ (by
      intro e
      have e1 := congrArg Addr.block e
      have e2 := congrArg Addr.off e
      rcases hne with h | h
      · exact h e1.symm
      · exact h e2.symm)]
    exact (bcell hb1).1 _ _ hy1
  · have hy1 := hlt j y hy
    rw [frozen_blk (h3 y.b (by omega) (hdis j y hy)), World.frozen?_setCell]
    exact (bcell hb1).2 _ _ hy1
  · rw [cell_blk (h3 x.b (by omega) (hdis i x hx))]
    exact World.cell?_setCell_same _ _ _ (((bcell hb1).1 _ _ hxl).trans hu)
  · obtain ⟨hl, hf, hc⟩ := hgl hne
    have hgb : w3.heap[gg]? = w1.heap[gg]? := by
      rw [h3 gg hl (by omega)]
      exact Below.heap_setCell _ _ _ _ (by show gg ≠ x.b; omega)
    exact ⟨by omega, fun q => (frozen_blk hgb).trans (hf q), fun b o n c hu hb j hj => (cell_blk hgb).trans (hc b o n c hu hb j hj)⟩
/-- what copyNodes answers: the slice v of pointers to the nodes of the copy, the first one the copy itself. -/
def CpOut (w : World) (D : Nat) (P : E7 → Prop) (e : E7) (w' : World) (v : Value) : Prop :=
  ∃ (ns : List Nd) (hang : Nat → Nat × Nat), w'.ownsRow w.heap.size 121 1 v ns.length (pts ns) ∧ ns[0]? = some ⟨w.heap.size, 0, e⟩ ∧ NQ w D hang P w' ns.length ns ∧ (∀ (j : Nat) (y : Nd), ns[j]? = some y → v.ownBlock ≠ some y.b) ∧ ns.length ≤ 2097153
set_option maxHeartbeats 4000000 in
set_option maxRecDepth 100000 in
theorem copyNodes_any (D : Nat) (P : E7 → Prop) (hP : ∀ e, P e → ∀ k ∈ e.ks, P k) (e : E7) (u : Value) (F : List Nat) (w : World) (hN : 0 < w.heap.size) (he : e.wf) (hPe : P e) (hk : KidsIs w (D + 1) u e.ks F) (hn : wtE e ≤ 2097152) :
    Calls Try.prog 90 #[(.agg #[.int .i64 e.k, .int .i64 e.n, .int .i64 e.v.k, .int .i64 e.v.n, .string e.v.s, .string e.p, u])] w fun x w' => (∃ v, x = .returned v ∧ CpOut w D P e w' v) ∧ Below w.heap.size w w' := by
  obtain ⟨i0, hi, hz0, hz1, hz2⟩ := info_parts Try.infoPtE
  obtain ⟨a, c, rfl, hl, hc⟩ := hk.shape
  have hre := hk.re
  clear hk
  go_enter Try.func90, Try.ntmps90
  go_wp2
  go_loopw [3, 4] (fun y i wr => ∃ (i' : Nat) (ns : List Nd) (hang : Nat → Nat × Nat), i = .int .i64 i' ∧ i' ≤ ns.length ∧ wr.ownsRow w.heap.size 121 1 y ns.length (pts ns) ∧ ns[0]? = some ⟨w.heap.size, 0, e⟩ ∧ NQ w D hang P wr i' ns ∧ (∀ (j : Nat) (z : Nd), ns[j]? = some z → y.ownBlock ≠ some z.b) ∧ Below w.heap.size w wr ∧ i' + rem i' ns ≤ 1 + wtE e) (fun _ i _ => 1 + wtE e - (intOf i).toNat)
  case atStart =>
    refine ⟨0, [⟨w.heap.size, 0, e⟩], fun _ => (0, 0), rfl, Nat.zero_le _, ?_, rfl, nq_start hN he hPe (by simp; omega) (fun q => by go_simp) ⟨by go_simp, by go_simp, by go_simp, by go_simp, by go_simp, by go_simp⟩ (u := .slice a e.ks.length c) (by go_simp) hre, ?_, by repeat (first | (with_reducible exact Below.refl _ _) | (with_reducible refine Below.drew ?_) | (with_reducible refine Below.alloc ?_ ?hh _; case hh => first | (simp; done) | (simp; omega) | omega) | (with_reducible refine Below.setCell ?_ ?hh _; case hh => first | (simp; done) | (simp; omega) | omega) | refine bstep (by assumption) (by first | (simp; done) | (simp; omega) | omega) ?_), by simp [rem]⟩
    · refine ⟨by simp [pts], .inr ⟨w.heap.size + 1, 1, #[.pointer (some ⟨w.heap.size, 0, none⟩)], rfl, by omega, ?_, Nat.le_refl _, by unfold maxLen; omega, by first | rfl | simp, by first | rfl | simp [pts]⟩⟩
      have := heap_alloc_new (w.alloc (.cells #[.int .i64 e.k, .int .i64 e.n, .int .i64 e.v.k, .int .i64 e.v.n, .string e.v.s, .string e.p, .slice a e.ks.length c] 53)) (.cells #[.pointer (some ⟨w.heap.size, 0, none⟩)] 121)
      simpa using this
    · intro j z hz
      have h1 := (List.getElem?_eq_some_iff.1 hz).1
      simp at h1
      subst h1
      simp at hz
      subst hz
      simp [Value.ownBlock]
  case round =>
    obtain ⟨i, ns, hang, rfl, hile, hown, h00, hQ, hdis, hb, hrem⟩ := hrel
    have hzb := hb.size
    have hlen : ns.length ≤ 2097153 := by have := rem_len i ns; omega
    by_cases hlt : i < ns.length
    · obtain ⟨x, hx⟩ : ∃ x, ns[i]? = some x := ⟨ns[i], by simp [hlt]⟩
      obtain ⟨g, cap, rfl, _, _, hcap, hcm, hgl0, hgN, hp⟩ := pts_read hown hx
      obtain ⟨⟨xw, xP, xN, xl, xf, xo⟩, xc, uu, xu, xre, _⟩ := hQ.at' i x hx
      have xre := xre (Nat.le_refl _)
      obtain ⟨au, cu, rfl, hul, huc⟩ := xre.shape
      have hxr := rem_pos hx
      have hks : x.e.ks.length ≤ 2097152 := by have := wtE_eq x.e; omega
      have hxg : x.b ≠ g := fun h => hdis i x hx (by rw [h]; rfl)
      have HX : Hid (ns[i]? = some x) := hx
      have HR := fun g => rem_step g hx
      unfold maxLen at hcm huc
      clear hre hx
      go_wp2_with fail
      refine Calls.mono (cloneR_any D (.slice au x.e.ks.length cu) x.e.ks wr (RE.below hb xre) hks) ?_
      rintro ex w1 ⟨⟨v1, rfl, hcl⟩, hb1⟩
      have hz1' := hb1.size
      have hbw1 : Below w.heap.size w w1 := hb.trans (hb1.mono hzb)
      obtain ⟨gg, av, cv, rfl, hgg, hcv1, hcv2, hav, hgl⟩ := clOf_parts hcl hbw1
      have p1 := ((bcell hb1).1 _ _ hgl0).trans hp
      have xu1 := ((bcell hb1).1 _ _ xl).trans xu
      have xf1 : ∀ q, w1.frozen? ⟨x.b, q, none⟩ = false := fun q => ((bcell hb1).2 _ q xl).trans (xf q)
      have xl1 : x.b < w1.heap.size := by omega
      have gl1 : g < w1.heap.size := by omega
      have hown1 : w1.ownsRow w.heap.size 121 1 (.slice (some ⟨g, 0, none⟩) ns.length cap) ns.length (pts ns) := ownsE_keep hown fun b hb => by simp [Value.ownBlock] at hb; subst hb; exact hb1.block _ hgl0
      have HQ : Hid (NQ w D hang P wr i ns) := hQ
      clear hcl hp hQ
      go_wp2
      obtain ⟨wo, hwo⟩ : ∃ z, z = wr := ⟨_, rfl⟩
      subst hwo
      go_loopw [3, 31] (fun y' k' wr' => ∃ (k : Nat), k ≤ x.e.ks.length ∧ k' = .int .i64 k ∧ wr'.ownsRow w.heap.size 121 1 y' (ns.length + k) (pts (ns ++ (news x.e.ks gg).take k)) ∧ (∀ b, b < w1.heap.size → b ≠ g → wr'.heap[b]? = (w1.setCell ⟨x.b, x.o + 6, none⟩ (.slice av x.e.ks.length cv)).heap[b]?) ∧ w1.heap.size ≤ wr'.heap.size ∧ (∀ q, y'.ownBlock = some q → q = g ∨ w1.heap.size ≤ q) ∧ Below w.heap.size w wr') (fun _ k' _ => x.e.ks.length - (intOf k').toNat)
      case atStart =>
        refine ⟨0, Nat.zero_le _, rfl, ?_, fun b _ _ => rfl, by simp, fun q hq => by simp [Value.ownBlock] at hq; exact .inl hq.symm, hbw1.setCell (by show w.heap.size ≤ x.b; exact xN) _⟩
        rw [List.take_zero, List.append_nil]
        exact ownsE_keep hown1 fun b hb => by simp [Value.ownBlock] at hb; subst hb; exact Below.heap_setCell _ _ _ _ (Ne.symm hxg)
      case round =>
        obtain ⟨k, hkl, rfl, hown2, hblk, hz2', hob, hbw2⟩ := hrel
        by_cases hk2 : k < x.e.ks.length
        · have hne : x.e.ks ≠ [] := by intro h; rw [h] at hk2; simp at hk2
          obtain rfl := hav hne
          obtain ⟨ek, hek⟩ : ∃ ek, x.e.ks[k]? = some ek := ⟨x.e.ks[k], by simp [hk2]⟩
          have HT := news_take (g := gg) hek
          have hol := ownsE_lt hown2
          have HB : Hid (∀ b, b < w1.heap.size → b ≠ g → wr.heap[b]? = (w1.setCell ⟨x.b, x.o + 6, none⟩ (.slice (some ⟨gg, 0, none⟩) x.e.ks.length cv)).heap[b]?) := hblk
          have hown3 : (wr.alloc (.cells #[.pointer (some ⟨gg, k * 7, none⟩)] 121)).ownsRow w.heap.size 121 1 u3 (ns.length + k) (pts (ns ++ (news x.e.ks gg).take k)) := ownsE_keep hown2 fun b hb => Below.heap_alloc _ _ _ (hol b hb).2
          have hnew : ∀ j' u, [Value.pointer (some ⟨gg, k * 7, none⟩)][j']? = some u → (wr.alloc (.cells #[.pointer (some ⟨gg, k * 7, none⟩)] 121)).cell? ((⟨wr.heap.size, 0, none⟩ : Addr).add j') = some u := by
            intro j' u hu
            match j', hu with
            | 0, hu => simp at hu; subst hu; go_simp
          have hkm : ns.length + k ≤ 5000000 := by omega
          clear hown2 hav hblk hgl
          go_wp2_with (at_builtin; refine wpList_append_own_at _ rfl _ _ 119 rfl w.heap.size 121 i0 _ 1 8 Try.underlying119 hi hz0 hz1 hz2 rfl (by decide) u3 (ns.length + k) (pts (ns ++ (news x.e.ks gg).take k)) rfl hown3 ⟨wr.heap.size, 0, none⟩ 1 1 [.pointer (some ⟨gg, k * 7, none⟩)] rfl rfl hnew (by simp [Value.oneCell']) ?c3 ?c4 ?c5 ?_)
          case c3 => unfold maxLen; omega
          case c4 => omega
          case c5 => have := hbw2.size; simp; omega
          intro v5 w5 hown5 hgr5 _ hat5
          have hsz5 := hgr5.size
          simp at hsz5
          have hown6 : w5.ownsRow w.heap.size 121 1 v5 (ns.length + (k + 1)) (pts (ns ++ (news x.e.ks gg).take (k + 1))) := by
            rw [HT, ← List.append_assoc, pts_push]
            exact hown5
          have hob5 : ∀ q, v5.ownBlock = some q → q = g ∨ w1.heap.size ≤ q := by
            intro q hq
            rcases hat5 with e | e
            · rw [e] at hq; exact hob q hq
            · rw [e] at hq; cases hq; right; omega
          have hblk5 : ∀ b, b < w1.heap.size → b ≠ g → w5.heap[b]? = (w1.setCell ⟨x.b, x.o + 6, none⟩ (.slice (some ⟨gg, 0, none⟩) x.e.ks.length cv)).heap[b]? := by
            intro b hb hbg
            rw [← HB.out b hb hbg, hgr5.block b (by simp; omega) (fun e => by rcases hob b e.symm with h | h; exact hbg h; omega)]
            exact Below.heap_alloc _ _ _ (by omega)
          have hbw5 : Below w.heap.size w w5 := (hbw2.alloc hbw2.size _).grown hgr5 (by have := hbw2.size; simp; omega) (fun q hq => (hol q hq).1)
          clear hown5 hgr5 hat5 hown3 hnew hol hob hbw2
          go_wp2
          exact ⟨⟨k + 1, hk2, by simp, hown6, hblk5, by omega, hob5, hbw5⟩, by simp [intOf]; omega⟩
        · obtain rfl : k = x.e.ks.length := by omega
          have hQ3 := HQ.out.round HX.out hP xu hzb hb1 (fun j y hy => fun h => hdis j y hy (by rw [h]; rfl)) hgl0 hz2' hblk hgg hcv1 hcv2 hav hgl
          have hrem3 := HR gg
          have hown6 : wr.ownsRow w.heap.size 121 1 u3 (ns ++ news x.e.ks gg).length (pts (ns ++ news x.e.ks gg)) := by
            rw [← news_len x.e.ks gg, List.take_length] at hown2
            rw [List.length_append]
            exact hown2
          have hdis3 : ∀ (j : Nat) (z : Nd), (ns ++ news x.e.ks gg)[j]? = some z → u3.ownBlock ≠ some z.b := by
            intro j z hz hq
            have hq := hob _ hq
            by_cases hj : j < ns.length
            · rw [List.getElem?_append_left hj] at hz
              have h1 := (HQ.out.at' j z hz).1.2.2.2.1
              rcases hq with h | h
              · exact hdis j z hz (by rw [h]; rfl)
              · omega
            · rw [List.getElem?_append_right (by omega)] at hz
              obtain ⟨ez, hez, rfl⟩ := news_of hz
              have hne : x.e.ks ≠ [] := by intro h; rw [h] at hez; simp at hez
              have h1 := (hgl hne).1
              dsimp only at hq
              omega
          have h003 : (ns ++ news x.e.ks gg)[0]? = some ⟨w.heap.size, 0, e⟩ := by
            rw [List.getElem?_append_left (by omega)]; exact h00
          have hlt3 : i + 1 ≤ (ns ++ news x.e.ks gg).length := by rw [List.length_append]; omega
          clear HQ HX HR hown2 hown1 hown hdis h00 hblk hgl hav
          go_wp2
          exact ⟨⟨i + 1, _, _, by simp, hlt3, hown6, h003, hQ3, hdis3, hbw2, by omega⟩, by simp [intOf]; omega⟩
    · obtain rfl : i = ns.length := by omega
      obtain ⟨g, cap, rfl, _, _, hcap, hcm, hgl0, hgN, hp⟩ := pts_read hown h00
      unfold maxLen at hcm
      clear hp
      go_wp2
      refine bodyPost_ret (v := .slice (some ⟨g, 0, none⟩) ns.length cap) (by simp [results, Try.results90, go_sem]) rfl ⟨⟨_, rfl, ns, hang, hown, h00, hQ, hdis, hlen⟩, hb⟩
/-- every expression is closed under itself. -/
theorem RE.own {w w' : World} {D : Nat} {hang : Nat → Nat × Nat} {P : E7 → Prop} {ns : List Nd} {d j : Nat} {x : Nd} {u : Value} (hN : 0 < w.heap.size) (h : NQ w D hang P w' ns.length ns) (hx : ns[j]? = some x) (hd : DE d x.e.ks) (hu : w'.cell? ⟨x.b, x.o + 6, none⟩ = some u) : ∃ F, KidsIs w' d u x.e.ks F ∧ Own w' w.heap.size F ∧ ∀ c ∈ F, Hangs hang c (x.b, x.o + 6) :=
  KidsU.kids h.dn hN (h.kids hx hd hu)
set_option maxHeartbeats 2000000 in
set_option maxRecDepth 100000 in
theorem copyExp_any (D : Nat) (e : E7) (u : Value) (F : List Nat) (w : World) (he : e.wf) (hk : KidsIs w (D + 1) u e.ks F) (hn : wtE e ≤ 2097152) :
    Calls Try.prog 98 #[(.agg #[.int .i64 e.k, .int .i64 e.n, .int .i64 e.v.k, .int .i64 e.v.n, .string e.v.s, .string e.p, u])] w fun x w' => (∃ u' F', x = .returned (.agg #[.int .i64 e.k, .int .i64 e.n, .int .i64 e.v.k, .int .i64 e.v.n, .string e.v.s, .string e.p, u']) ∧ KidsIs w' (D + 1) u' e.ks F' ∧ Own w' w.heap.size F') ∧ Below w.heap.size w w' := by
  obtain ⟨a, c, rfl, hl, hc⟩ := id hk.shape
  have hde := hk.re.de
  go_enter Try.func98, Try.ntmps98
  go_wp2_with fail
  refine Calls.mono (copyNodes_any D (fun _ => True) (fun _ _ _ _ => trivial) e (.slice a e.ks.length c) F _ (by simp) he trivial (hk.below ?hb) hn) ?_
  case hb => repeat (first | (with_reducible exact Below.refl _ _) | (with_reducible refine Below.drew ?_) | (with_reducible refine Below.alloc ?_ ?hh _; case hh => first | (simp; done) | (simp; omega) | omega) | (with_reducible refine Below.setCell ?_ ?hh _; case hh => first | (simp; done) | (simp; omega) | omega) | refine bstep (by assumption) (by first | (simp; done) | (simp; omega) | omega) ?_)
  rintro x w1 ⟨⟨v1, rfl, ns, hang, hown, h0, hQ, hdis, hlen⟩, hb1⟩
  have hz1 := hb1.size
  simp only [World.size_alloc] at hz1 hown h0
  obtain ⟨g, cap, rfl, _, hn0, hcap, hcm, hgl, hgN, hp⟩ := pts_read hown h0
  obtain ⟨⟨xw, xP, xN, xl, xf, xo⟩, ⟨x0, x1, x2, x3, x4, x5⟩, uu, xu, _, _⟩ := hQ.at' 0 _ h0
  obtain ⟨F', hK', hO', hH'⟩ := RE.own (by simp) hQ h0 hde xu
  obtain ⟨au, cu, rfl, hul, huc⟩ := hK'.shape
  unfold maxLen at hcm
  have bel1 : Below w.heap.size w w1 := by repeat (first | (with_reducible exact Below.refl _ _) | (with_reducible refine Below.drew ?_) | (with_reducible refine Below.alloc ?_ ?hh _; case hh => first | (simp; done) | (simp; omega) | omega) | (with_reducible refine Below.setCell ?_ ?hh _; case hh => first | (simp; done) | (simp; omega) | omega) | refine bstep (by assumption) (by first | (simp; done) | (simp; omega) | omega) ?_)
  have r0 : w1.cell? ⟨w.heap.size + 1, 0, none⟩ = some (.int .i64 0) := cell_later hb1 (by go_simp)
  have r1 : w1.cell? ⟨w.heap.size + 1, 1, none⟩ = some (.int .i64 0) := cell_later hb1 (by go_simp)
  have r2 : w1.cell? ⟨w.heap.size + 1, 2, none⟩ = some (.int .i64 0) := cell_later hb1 (by go_simp)
  have r3 : w1.cell? ⟨w.heap.size + 1, 3, none⟩ = some (.int .i64 0) := cell_later hb1 (by go_simp)
  have r4 : w1.cell? ⟨w.heap.size + 1, 4, none⟩ = some (.string ⟨#[]⟩) := cell_later hb1 (by go_simp)
  have r5 : w1.cell? ⟨w.heap.size + 1, 5, none⟩ = some (.string ⟨#[]⟩) := cell_later hb1 (by go_simp)
  have r6 : w1.cell? ⟨w.heap.size + 1, 6, none⟩ = some (.slice none 0 0) := cell_later hb1 (by go_simp)
  have rf : ∀ q, w1.frozen? ⟨w.heap.size + 1, q, none⟩ = false := fun q => ((bcell hb1).2 _ q (by simp)).trans (by go_simp)
  have hy1 : w.heap.size + 1 < w1.heap.size := by omega
  simp only [World.size_alloc] at hO'
  have hne : ∀ b ∈ F', b ≠ w.heap.size + 1 := fun b hb => by have := (hO'.2 b hb).1; omega
  clear hb1 hQ hdis hH' hown h0 xf hk
  go_wp2
  refine bodyPost_ret (v := (.agg #[.int .i64 e.k, .int .i64 e.n, .int .i64 e.v.k, .int .i64 e.v.n, .string e.v.s, .string e.p, (.slice au e.ks.length cu)])) (by simp [results, Try.results98, go_sem, *]) rfl ⟨⟨_, F', rfl, hK'.keep (by simp) fun b hb => ?_, Own.keep ⟨hO'.1, fun b hb => ⟨by have := (hO'.2 b hb).1; omega, (hO'.2 b hb).2⟩⟩ fun b hb => ?_⟩, ?_⟩
  · repeat rw [Below.heap_setCell _ _ _ _ (hne b hb)]
  · repeat rw [Below.heap_setCell _ _ _ _ (hne b hb)]
  · repeat (first | (with_reducible exact bel1) | (with_reducible refine Below.setCell ?_ ?hh _; case hh => (simp; try omega)))
end Go.Proofs.Ytnbcmkbkiebbdaa
