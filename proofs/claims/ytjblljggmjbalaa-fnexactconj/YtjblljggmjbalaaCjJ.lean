/- Own text. The contract of impl.Conj. -/
import Derived.Test.YtjblljggmjbalaaCjT
import Derived.Test.YtjblljggmjbalaaFrE
import Derived.Test.YtjblljggmjbalaaLastE
import Derived.Handy
import Derived.Deep.DrawnRows
import Derived.Deep.AppendLies
import Derived.Deep.LoopGhost
import Derived.Maps.AppendAt
namespace Go.Proofs.Ytjblljggmjbalaa
open Go.RowKit Go.Deep Go.ChangeShapes Go.WideShapes
set_option linter.unusedVariables false
attribute [local go_sem ↓] Go.wp_at_zero Go.wp_at_succ
attribute [local go_sem] Go.run_makeMap_plain
theorem conj_rev (D : Nat) (init : List E7) (x : E7) : (init ++ [x]).reverse.flatMap (conjL D) = conjL D x ++ init.reverse.flatMap (conjL D) := by simp
theorem heap_new1 (w : World) {n : Nat} (h : n = w.heap.size) (o : Obj) : (w.alloc o).heap[n]? = some o := by subst h; exact heap_alloc_new w o
theorem snoc_or (es : List E7) : es = [] ∨ ∃ ys y, es = ys ++ [y] := by
  rcases List.eq_nil_or_concat es with h | ⟨ys, y, h⟩
  · exact .inl h
  · exact .inr ⟨ys, y, by rw [h, List.concat_eq_append]⟩
set_option maxHeartbeats 4000000 in
set_option maxRecDepth 100000 in
theorem implConj_any (D : Nat) (e : E7) (u : Value) (F : List Nat) (w : World) (he : e.wf) (hk : KidsIs w (D + 1) u e.ks F) (hd : F.Nodup ∧ ∀ b ∈ F, Fr w b) (hn : wtE e ≤ 1048576) :
    Calls Try.prog 7 #[(.agg #[.int .i64 e.k, .int .i64 e.n, .int .i64 e.v.k, .int .i64 e.v.n, .string e.v.s, .string e.p, u])] w fun x w' => (∃ v, x = .returned v ∧ ConjOut w' w.heap.size (D + 1) v (conjL (D + 1) e)) ∧ Below w.heap.size w w' := by
  obtain ⟨i0, hi, hz0, hz1', hz2'⟩ := info_parts Try.infoExp
  obtain ⟨a, c, rfl, hl, hc⟩ := hk.shape
  have hnC : conjL (D + 1) e ≠ [] := conj_pos _ _
  go_enter Try.func7, Try.ntmps7
  go_wp2_with fail
  refine Calls.mono (copyExp_any D e (.slice a e.ks.length c) F _ he (hk.below ?hbb) (.inl ⟨hd.1, fun q hq => (hd.2 q hq).keep (Below.block ?hbc q (hk.lt q hq))⟩) (by omega)) ?_
  case hbb => repeat (first | (with_reducible exact Below.refl _ _) | (with_reducible refine Below.drew ?_) | (with_reducible refine Below.alloc ?_ ?hh _; case hh => first | (simp; done) | (simp; omega) | omega) | (with_reducible refine Below.setCell ?_ ?hh _; case hh => first | (simp; done) | (simp; omega) | omega) | refine bstep (by assumption) (by first | (simp; done) | (simp; omega) | omega) ?_)
  case hbc => repeat (first | (with_reducible exact Below.refl _ _) | (with_reducible refine Below.drew ?_) | (with_reducible refine Below.alloc ?_ ?hh _; case hh => first | (simp; done) | (simp; omega) | omega) | (with_reducible refine Below.setCell ?_ ?hh _; case hh => first | (simp; done) | (simp; omega) | omega) | refine bstep (by assumption) (by first | (simp; done) | (simp; omega) | omega) ?_)
  rintro yy w2 ⟨⟨u2, g2, rfl, hK2, hO2⟩, hb2⟩
  obtain ⟨a2, c2, rfl, _, _⟩ := hK2.shape
  have hz2 := hb2.size
  simp only [World.size_alloc] at hz2 hO2
  have hbw2 : Below w.heap.size w w2 := by repeat (first | (with_reducible exact Below.refl _ _) | (with_reducible refine Below.drew ?_) | (with_reducible refine Below.alloc ?_ ?hh _; case hh => first | (simp; done) | (simp; omega) | omega) | (with_reducible refine Below.setCell ?_ ?hh _; case hh => first | (simp; done) | (simp; omega) | omega) | refine bstep (by assumption) (by first | (simp; done) | (simp; omega) | omega) ?_)
  have hE2 : ExpOwn w2 (w.heap.size + 1) (D + 1) (.slice (some ⟨w.heap.size + 1, 0, none⟩) 0 0) [] [] [] := ((ExpOwn.empty' (by simp) (D + 1)).below ((Below.refl _ _).alloc (Nat.le_refl _) _)).below hb2
  have hM2 : w2.heap[w.heap.size + 1 + 1]? = some (.map #[] 0) := (hb2.block _ (by simp)).trans (heap_new1 _ (by simp) _)
  have bal : Below w2.heap.size w2 (w2.alloc (.cells #[.int .i64 e.k, .int .i64 e.n, .int .i64 e.v.k, .int .i64 e.v.n, .string e.v.s, .string e.p, .slice a2 e.ks.length c2] 32)) := (Below.refl _ _).alloc (Nat.le_refl _) _
  have hst : CjW (w2.alloc (.cells #[.int .i64 e.k, .int .i64 e.n, .int .i64 e.v.k, .int .i64 e.v.n, .string e.v.s, .string e.p, .slice a2 e.ks.length c2] 32)) (w.heap.size + 1 + 1) (w.heap.size + 1) (D + 1) (.slice (some ⟨w.heap.size + 1, 0, none⟩) 0 0) (.slice (some ⟨w2.heap.size, 0, none⟩) 1 1) [] [e] [] [.slice a2 e.ks.length c2] [] [g2] #[] 0 := by
    refine ⟨hE2.below bal, ⟨⟨by simp [ec, c7], .inr ⟨w2.heap.size, 1, _, rfl, by omega, heap_alloc_new w2 _, Nat.le_refl _, by unfold maxLen; omega, by simp, by simp [ec, c7]⟩⟩, rfl, rfl, fun i e' u' g' he' hu' hg' => ?_⟩, (bal.block _ (by omega)).trans hM2, (fun en hen => by simp at hen), by simpa using hO2.1, (fun b hb => by simp at hb), fun b hb => ?_, fun b hb => ?_, fun b hb hb2 => ?_⟩
    · cases i with
      | zero =>
        simp at he' hu' hg'
        subst he' hu' hg'
        exact ⟨he, hK2.below bal⟩
      | succ i => simp at he'
    · have hb' : b ∈ g2 := by simpa using hb
      exact ⟨by have := (hO2.2 b hb').1; omega, FrX.keep (show FrX w2 b from hK2.frF hO2 b hb') (bal.block _ (hK2.lt b hb'))⟩
    · simp [Value.ownBlock] at hb
      subst hb
      exact ⟨by simp, fun hq => by have hq' : w2.heap.size ∈ g2 := by simpa using hq
                                   have := hK2.lt _ hq'; omega, by simp [Value.ownBlock]; omega⟩
    · simp [Value.ownBlock] at hb
      subst hb
      have hq' : w.heap.size + 1 ∈ g2 := by simpa using hb2
      have := (hO2.2 _ hq').1
      omega
  have hbwL : Below w.heap.size w (w2.alloc (.cells #[.int .i64 e.k, .int .i64 e.n, .int .i64 e.v.k, .int .i64 e.v.n, .string e.v.s, .string e.p, .slice a2 e.ks.length c2] 32)) := hbw2.trans (bal.mono (by omega))
  clear hE2 hM2 bal hK2 hO2 hb2 hbw2
  go_wp2_with fail
  go_loopg [3, 4, 6] (1 + wtE e) (fun gk y o z wr => ∃ (k : Nat) (ps ls : List E7) (us vs : List Value) (G L : List (List Nat)) (es : Array MapEntry) (ck : Nat), o = .int .i64 k ∧ CjW wr (w.heap.size + 1 + 1) (w.heap.size + 1) (D + 1) y z ps ls us vs G L es ck ∧ Hid (ps ++ ls.reverse.flatMap (conjL (D + 1)) = conjL (D + 1) e) ∧ Below w.heap.size w wr ∧ ps.length + wt1 ls ≤ 1 + wtE e ∧ k + wt1 ls ≤ 1 + wtE e ∧ wt1 ls ≤ gk)
  case atStart => exact ⟨0, [], [e], [], [.slice a2 e.ks.length c2], [], [g2], #[], 0, rfl, hst, (by show _ = _; simp), hbwL, (by rw [wt1_one]; simp), (by rw [wt1_one]; simp), (by rw [wt1_one]; exact Nat.le_refl _)⟩
  case round =>
    clear hst hbwL
    obtain ⟨k, ps, ls, us, vs, G, L, es, ck, rfl, hW, HE, hb, hwt, hkt, hgk⟩ := hrel
    have hzb := hb.size
    rcases snoc_or ls with rfl | ⟨init, x, rfl⟩
    · obtain ⟨ay, cy, rfl⟩ := hW.E.shape
      have HO : Hid (ConjOut wr w.heap.size (D + 1) (.slice ay ps.length cy) (conjL (D + 1) e)) := by
        have h1 := HE.out
        simp at h1
        show ConjOut _ _ _ _ _
        rw [← h1]
        exact ⟨us, G, hW.E.weak (by omega)⟩
      have hLo := hW.Lf
      clear hW HE
      rcases hLo.1.2 with ⟨rfl, _⟩ | ⟨g, cap, cur, rfl, _⟩
      all_goals (
        clear hLo
        go_wp2
        refine bodyPost_ret (v := .slice ay ps.length cy) (by simp [results, Try.results7, go_sem]) rfl ⟨⟨_, rfl, HO.out⟩, hb⟩)
    · obtain ⟨us', ux, L', gx, g, cap, rfl, rfl, rfl, hcap1, hcap2, hgN, hgl, hxw, hKx, hcells, hLf⟩ := hW.Lf.last
      obtain ⟨au, cu, rfl, _, _⟩ := hKx.shape
      rw [wt1_app, wt1_one] at hwt hkt hgk
      obtain ⟨ay, cy, rfl⟩ := hW.E.shape
      unfold maxLen at hcap2
      have hpl : ps.length ≤ 1048577 := by omega
      have hil : init.length ≤ 1048577 := by unfold wt1 at hwt; omega
      have x0 : wr.cell? ⟨g, init.length * 7, none⟩ = some (.int .i64 x.k) := hcells 0 _ (by omega) rfl
      have x1 : wr.cell? ⟨g, init.length * 7 + 1, none⟩ = some (.int .i64 x.n) := hcells 1 _ (by omega) rfl
      have x2 : wr.cell? ⟨g, init.length * 7 + 2, none⟩ = some (.int .i64 x.v.k) := hcells 2 _ (by omega) rfl
      have x3 : wr.cell? ⟨g, init.length * 7 + 3, none⟩ = some (.int .i64 x.v.n) := hcells 3 _ (by omega) rfl
      have x4 : wr.cell? ⟨g, init.length * 7 + 4, none⟩ = some (.string x.v.s) := hcells 4 _ (by omega) rfl
      have x5 : wr.cell? ⟨g, init.length * 7 + 5, none⟩ = some (.string x.p) := hcells 5 _ (by omega) rfl
      have x6 : wr.cell? ⟨g, init.length * 7 + 6, none⟩ = some (.slice au x.ks.length cu) := hcells 6 _ (by omega) rfl
      have bal2 : Below wr.heap.size wr ((wr.alloc (.cells #[.int .i64 x.k, .int .i64 x.n, .int .i64 x.v.k, .int .i64 x.v.n, .string x.v.s, .string x.p, .slice au x.ks.length cu] 32)).alloc (.cells #[.int .i64 x.k, .int .i64 x.n, .int .i64 x.v.k, .int .i64 x.v.n, .string x.v.s, .string x.p, .slice au x.ks.length cu] 32)) := ((Below.refl _ _).alloc (Nat.le_refl _) _).alloc (by simp) _
      have hXm : ∀ b ∈ gx, b ∈ (L' ++ [gx]).flatten := fun b hb => by simp; exact .inr hb
      cases hA : isAnd x with
      | false =>
        have hcase : ((x.k == 2) = false ∧ (x.k != 2) = true) ∨ ((x.k == 2) = true ∧ (x.k != 2) = false ∧ (x.p.toList == [97, 110, 100]) = false ∧ (x.p.toList != [97, 110, 100]) = true) ∨ ((x.k == 2) = true ∧ (x.k != 2) = false ∧ (x.p.toList == [97, 110, 100]) = true ∧ (x.p.toList != [97, 110, 100]) = false ∧ ((x.ks.length : Int) != 2) = true) := by
          unfold isAnd at hA
          cases h1 : x.k == 2
          · exact .inl ⟨rfl, by simp only [bne, h1]; rfl⟩
          · cases h2 : x.p.toList == [97, 110, 100]
            · exact .inr (.inl ⟨rfl, by simp only [bne, h1]; rfl, rfl, by simp only [bne, h2]; rfl⟩)
            · refine .inr (.inr ⟨rfl, by simp only [bne, h1]; rfl, rfl, by simp only [bne, h2]; rfl, ?_⟩)
              rw [h1, h2] at hA
              simp at hA
              rw [bne_iff_ne]; omega
        rcases hcase with ⟨h1, h1'⟩ | ⟨h1, h1', h2, h2'⟩ | ⟨h1, h1', h2, h2', h3⟩
        all_goals (
          have hE3 := hW.E.below bal2
          have hyl := ownsE_lt hW.E.own
          have hnd := hW.nd
          have hO : Own ((wr.alloc (.cells #[.int .i64 x.k, .int .i64 x.n, .int .i64 x.v.k, .int .i64 x.v.n, .string x.v.s, .string x.p, .slice au x.ks.length cu] 32)).alloc (.cells #[.int .i64 x.k, .int .i64 x.n, .int .i64 x.v.k, .int .i64 x.v.n, .string x.v.s, .string x.p, .slice au x.ks.length cu] 32)) (w.heap.size + 1) gx := ⟨?h1, fun q hq => ⟨(hW.fL q (hXm q hq)).1, ((hW.fL q (hXm q hq)).2.keep (bal2.block q (hW.fL q (hXm q hq)).2.lt)).2⟩⟩
          case h1 =>
            rw [show (L' ++ [gx]).flatten = L'.flatten ++ gx by simp] at hnd
            exact (List.nodup_append.1 (List.nodup_append.1 hnd).2.1).2.1
          have hd1 : ∀ b ∈ G.flatten, b ∉ gx := fun b hbG hbx => (List.nodup_append.1 hnd).2.2 b hbG b (hXm b hbx) rfl
          have hd2 : ∀ b, (Value.slice ay ps.length cy).ownBlock = some b → b ∉ gx := fun b hby hbx => hW.yo b hby (hXm b hbx)
          have hnew : ∀ j' u, [.int .i64 x.k, .int .i64 x.n, .int .i64 x.v.k, .int .i64 x.v.n, .string x.v.s, .string x.p, .slice au x.ks.length cu][j']? = some u → ((wr.alloc (.cells #[.int .i64 x.k, .int .i64 x.n, .int .i64 x.v.k, .int .i64 x.v.n, .string x.v.s, .string x.p, .slice au x.ks.length cu] 32)).alloc (.cells #[.int .i64 x.k, .int .i64 x.n, .int .i64 x.v.k, .int .i64 x.v.n, .string x.v.s, .string x.p, .slice au x.ks.length cu] 32)).cell? ((⟨wr.heap.size + 1, 0, none⟩ : Addr).add j') = some u := by
            intro j' u hu
            match j', hu with
            | 0, hu => simp at hu; subst hu; go_simp
            | 1, hu => simp at hu; subst hu; go_simp
            | 2, hu => simp at hu; subst hu; go_simp
            | 3, hu => simp at hu; subst hu; go_simp
            | 4, hu => simp at hu; subst hu; go_simp
            | 5, hu => simp at hu; subst hu; go_simp
            | 6, hu => simp at hu; subst hu; go_simp
          have HP : Hid (ps ++ [x] ++ init.reverse.flatMap (conjL (D + 1)) = conjL (D + 1) e) := by
            show _ = _
            rw [← HE.out, conj_rev, conj_one hA]; simp
          clear hcells hnC
          go_wp2_with (at_builtin; refine wpList_append_own_at _ rfl _ _ 28 rfl (w.heap.size + 1) 32 i0 _ 7 88 Try.underlying28 hi hz0 hz1' hz2' rfl (by decide) (.slice ay ps.length cy) ps.length (ec us ps) rfl hE3.own ⟨wr.heap.size + 1, 0, none⟩ 1 1 [.int .i64 x.k, .int .i64 x.n, .int .i64 x.v.k, .int .i64 x.v.n, .string x.v.s, .string x.p, .slice au x.ks.length cu] rfl rfl hnew (by simp [Value.oneCell']) ?c3 ?c4 ?c5 ?_)
          case c3 => unfold maxLen; omega
          case c4 => omega
          case c5 => simp; omega
          intro v5 w5 hown5 hgr5 _ hat5
          have hsz5 := hgr5.size
          simp at hsz5
          have hat6 : ∀ b, v5.ownBlock = some b → (Value.slice ay ps.length cy).ownBlock = some b ∨ wr.heap.size ≤ b := by
            intro b hb5
            rcases hat5 with h | h
            · left; rw [← h]; exact hb5
            · right; rw [h] at hb5; cases hb5; (first | omega | (simp; omega))
          have hE5 := hE3.push hxw (hKx.below bal2) hO hd1 hd2 hown5 hgr5 (fun b hb5 => by
            rcases hat5 with h | h
            · left; rw [← h]; exact hb5
            · right; rw [h] at hb5; cases hb5; (first | exact Nat.le_refl _ | (simp; done) | (simp; omega)))
          have hk5 : ∀ b, b < wr.heap.size → (Value.slice ay ps.length cy).ownBlock ≠ some b → w5.heap[b]? = wr.heap[b]? := fun b hb5 hne => (hgr5.block b (by simp; omega) (fun e => hne e.symm)).trans (bal2.block b hb5)
          have hW5 := hW.move (z' := .slice (some ⟨g, 0, none⟩) init.length cap) rfl hLf hE5 (by omega) hk5 hat6
          have hb5 : Below w.heap.size w w5 := ((hb.alloc (by omega) _).alloc (by simp; omega) _).grown hgr5 (by simp; omega) (fun q hq => by have := (hyl q hq).1; omega)
          obtain ⟨a5, c5, rfl⟩ := hE5.shape
          clear hown5 hgr5 hat5 hat6 hE3 hnew hE5 hk5 hW hO hd1 hd2 hnd
          go_wp2
          go_roundg (wt1 init)
          case measure => omega
          case rel => exact ⟨k, ps ++ [x], init, us ++ [.slice au x.ks.length cu], us', G ++ [gx], L', es, ck, rfl, hW5, HP, hb5, by simp; omega, by omega, Nat.le_refl _⟩)
      | true =>
        obtain ⟨p, q, hpq⟩ := isAnd_two hA
        have hwx := and_wt hpq
        have HP : Hid (ps ++ (init ++ [q, p]).reverse.flatMap (conjL (D + 1)) = conjL (D + 1) e) := by
          show _ = _
          have hde := hKx.re.de
          rw [← HE.out, conj_rev, conj_two hA hpq, ← conj_up (d' := D + 1) (hde p (by rw [hpq]; simp)) (by omega), ← conj_up (d' := D + 1) (hde q (by rw [hpq]; simp)) (by omega)]
          simp
        have hwn : wt1 (init ++ [q, p]) = wt1 init + (2 + (wtE p + wtE q)) := by rw [wt1_app]; unfold wt1; rw [← wtEs_sum [q, p]]; simp; omega
        have hlen : x.ks.length = 2 := by rw [hpq]; rfl
        have h12 : x.k = 2 ∧ (x.p.toList == [97, 110, 100]) = true := by unfold isAnd at hA; simp only [Bool.and_eq_true] at hA; exact ⟨by simpa using hA.1, hA.2.1⟩
        obtain ⟨h0, hp⟩ := h12
        have hp' : (x.p.toList != [97, 110, 100]) = false := by simp only [bne, hp]; rfl
        have hKx2 : KidsIs wr (D + 1) (.slice au 2 cu) [p, q] gx := by have := hKx; rw [hlen, hpq] at this; exact this
        obtain ⟨b, o, c', gp, gq, up, uq, hsl, hc1, hc2, hbl, rfl, hpw, hqw, hKp, hKq, ⟨c0, c1, c2, c3, c4, c5⟩, ⟨d0, d1, d2, d3, d4, d5⟩, c6, d6⟩ := hKx2.two
        injection hsl with e1 _ e3
        subst e1 e3
        obtain ⟨ap, cp, rfl, _, _⟩ := hKp.shape
        obtain ⟨aq, cq, rfl, _, _⟩ := hKq.shape
        rw [h0] at x0
        rw [hlen] at x6
        obtain ⟨m, him⟩ : ∃ m, init.length = m := ⟨_, rfl⟩
        have hLM0 := hLf.1
        rw [him] at x0 x1 x2 x3 x4 x5 x6 hcap1 hLM0 hil
        simp only [him]
        have hbm : b ∈ (L' ++ [b :: (gp ++ gq)]).flatten := by simp
        have hFb := (hW.fL b hbm).2
        have hgb : b ≠ g := fun e => (hW.zo g rfl).2.1 (e ▸ hbm)
        have hgM : w.heap.size + 1 + 1 ≠ g := fun e => own_ne hW.Lf.1 hW.map (by simp [Value.ownBlock]; exact e.symm)
        have hbM0 : b ≠ w.heap.size + 1 + 1 := hFb.ne hW.map
        have hMl : w.heap.size + 1 + 1 < wr.heap.size := by
          rcases Nat.lt_or_ge (w.heap.size + 1 + 1) wr.heap.size with h' | h'
          · exact h'
          · have := hW.map; simp [Array.getElem?_eq_none h'] at this
        have balA : Below wr.heap.size wr (wr.alloc (.cells #[.int .i64 2, .int .i64 x.n, .int .i64 x.v.k, .int .i64 x.v.n, .string x.v.s, .string x.p, .slice (some ⟨b, o, none⟩) 2 cu] 32)) := (Below.refl _ _).alloc (Nat.le_refl _) _
        have hkeysA : ∀ en ∈ es.toList, ∃ a, en.key = .pointer (some a) ∧ (⟨b, o, none⟩ : Addr) ≠ a ∧ FrX (wr.alloc (.cells #[.int .i64 2, .int .i64 x.n, .int .i64 x.v.k, .int .i64 x.v.n, .string x.v.s, .string x.p, .slice (some ⟨b, o, none⟩) 2 cu] 32)) a.block := fun en hen => by
          obtain ⟨a, h1, h2, h3, _, _⟩ := hW.keys en hen
          exact ⟨a, h1, (fun e => h2 (e ▸ hbm)), h3.keep (balA.block _ h3.lt)⟩
        have hmapA := (balA.block _ hMl).trans hW.map
        have hFA : FrX (wr.alloc (.cells #[.int .i64 2, .int .i64 x.n, .int .i64 x.v.k, .int .i64 x.v.n, .string x.v.s, .string x.p, .slice (some ⟨b, o, none⟩) 2 cu] 32)) b := hFb.keep (balA.block _ hFb.lt)
        have hlk := look_noX (wr.alloc (.cells #[.int .i64 2, .int .i64 x.n, .int .i64 x.v.k, .int .i64 x.v.n, .string x.v.s, .string x.p, .slice (some ⟨b, o, none⟩) 2 cu] 32)) (p := ⟨b, o, none⟩) hmapA hFA hkeysA
        obtain ⟨wM, hup, hMm, hkM, hsM, hbM⟩ : ∃ wM : World, Sem.run Try.prog (Instr.mapUpdate 44 (.map (some (w.heap.size + 1 + 1))) (.pointer (some ⟨b, o, none⟩)) (.int .i64 1)) (wr.alloc (.cells #[.int .i64 2, .int .i64 x.n, .int .i64 x.v.k, .int .i64 x.v.n, .string x.v.s, .string x.p, .slice (some ⟨b, o, none⟩) 2 cu] 32)) = .ok () wM ∧ wM.heap[w.heap.size + 1 + 1]? = some (.map (es.push ⟨.pointer (some ⟨b, o, none⟩), .int .i64 1, ck⟩) (ck + 1)) ∧ (∀ t, t ≠ w.heap.size + 1 + 1 → wM.heap[t]? = (wr.alloc (.cells #[.int .i64 2, .int .i64 x.n, .int .i64 x.v.k, .int .i64 x.v.n, .string x.v.s, .string x.p, .slice (some ⟨b, o, none⟩) 2 cu] 32)).heap[t]?) ∧ wM.heap.size = wr.heap.size + 1 ∧ Below w.heap.size w wM := by
          refine ⟨_, upd_noX _ (p := ⟨b, o, none⟩) hmapA hFA hkeysA, ?_, ?_, ?_, ?_⟩
          · simp [Array.getElem?_setIfInBounds]; omega
          · intro t ht
            simp [Array.getElem?_setIfInBounds]
            intro e; exact absurd e.symm ht
          · simp
          · have hA := hb.alloc (by omega) (.cells #[.int .i64 2, .int .i64 x.n, .int .i64 x.v.k, .int .i64 x.v.n, .string x.v.s, .string x.p, .slice (some ⟨b, o, none⟩) 2 cu] 32)
            refine ⟨hA.os, hA.tape, hA.output, by simp; omega, fun t ht => ?_⟩
            have : ((wr.alloc (.cells #[.int .i64 2, .int .i64 x.n, .int .i64 x.v.k, .int .i64 x.v.n, .string x.v.s, .string x.p, .slice (some ⟨b, o, none⟩) 2 cu] 32)).heap.setIfInBounds (w.heap.size + 1 + 1) (.map (es.push ⟨.pointer (some ⟨b, o, none⟩), .int .i64 1, ck⟩) (ck + 1)))[t]? = (wr.alloc (.cells #[.int .i64 2, .int .i64 x.n, .int .i64 x.v.k, .int .i64 x.v.n, .string x.v.s, .string x.p, .slice (some ⟨b, o, none⟩) 2 cu] 32)).heap[t]? := by
              simp [Array.getElem?_setIfInBounds]; intro e; omega
            exact this.trans (hA.block t ht)
        have hkx : ∀ t, t < wr.heap.size → t ≠ w.heap.size + 1 + 1 → wM.heap[t]? = wr.heap[t]? := fun t ht hne => (hkM t hne).trans (Below.heap_alloc _ _ _ ht)
        have hl2 := look_lastX wM (p := ⟨b, o, none⟩) hMm (hFA.keep (hkM b hbM0)) (fun en hen => by
          obtain ⟨a, h1, h2, h3⟩ := hkeysA en hen
          exact ⟨a, h1, h2, h3.keep (hkM _ (h3.ne hmapA))⟩)
        have s0 : wM.cell? ⟨wr.heap.size, 6, none⟩ = some (.slice (some ⟨b, o, none⟩) 2 cu) := (cell_blk (hkM _ (by omega))).trans (by go_simp)
        have s1 : wM.cell? ⟨b, o, none⟩ = some (.int .i64 p.k) := (cell_blk (hkx b hbl hbM0)).trans c0
        have s2 : wM.cell? ⟨b, o + 1, none⟩ = some (.int .i64 p.n) := (cell_blk (hkx b hbl hbM0)).trans c1
        have s3 : wM.cell? ⟨b, o + 2, none⟩ = some (.int .i64 p.v.k) := (cell_blk (hkx b hbl hbM0)).trans c2
        have s4 : wM.cell? ⟨b, o + 3, none⟩ = some (.int .i64 p.v.n) := (cell_blk (hkx b hbl hbM0)).trans c3
        have s5 : wM.cell? ⟨b, o + 4, none⟩ = some (.string p.v.s) := (cell_blk (hkx b hbl hbM0)).trans c4
        have s6 : wM.cell? ⟨b, o + 5, none⟩ = some (.string p.p) := (cell_blk (hkx b hbl hbM0)).trans c5
        have s7 : wM.cell? ⟨b, o + 6, none⟩ = some (.slice ap p.ks.length cp) := (cell_blk (hkx b hbl hbM0)).trans c6
        have s8 : wM.cell? ⟨b, o + 7, none⟩ = some (.int .i64 q.k) := (cell_blk (hkx b hbl hbM0)).trans d0
        have s9 : wM.cell? ⟨b, o + 8, none⟩ = some (.int .i64 q.n) := (cell_blk (hkx b hbl hbM0)).trans d1
        have s10 : wM.cell? ⟨b, o + 9, none⟩ = some (.int .i64 q.v.k) := (cell_blk (hkx b hbl hbM0)).trans d2
        have s11 : wM.cell? ⟨b, o + 10, none⟩ = some (.int .i64 q.v.n) := (cell_blk (hkx b hbl hbM0)).trans d3
        have s12 : wM.cell? ⟨b, o + 11, none⟩ = some (.string q.v.s) := (cell_blk (hkx b hbl hbM0)).trans d4
        have s13 : wM.cell? ⟨b, o + 12, none⟩ = some (.string q.p) := (cell_blk (hkx b hbl hbM0)).trans d5
        have s14 : wM.cell? ⟨b, o + 13, none⟩ = some (.slice aq q.ks.length cq) := (cell_blk (hkx b hbl hbM0)).trans d6
        have hLM : wM.ownsRow (w.heap.size + 1) 32 7 (.slice (some ⟨g, 0, none⟩) m cap) m (ec us' init) := ownsE_keep hLM0 fun t ht => hkx t (ownsE_lt hLM0 t ht).2 (fun e => by simp [Value.ownBlock] at ht; omega)
        have hml : m + 2 ≤ maxLen := by unfold maxLen; omega
        have hby : (m + 2) * 88 ≤ 140737488355328 := by omega
        unfold maxLen at hc2
        have hbl2 : b < wM.heap.size := by omega
        clear hlen hA HE hcells hKx hKx2 hnC hkeysA hmapA hFA balA bal2 c0 c1 c2 c3 c4 c5 c6 d0 d1 d2 d3 d4 d5 d6
        by_cases h8 : (k : Int) + 1 ≤ 8192
        · go_wp2_with fail
          refine startE 11 (fun w' => w'.cell? ⟨wr.heap.size, 6, none⟩ = some (.slice (some ⟨b, o, none⟩) 2 cu) ∧ w'.cell? ⟨b, o, none⟩ = some (.int .i64 p.k) ∧ w'.cell? ⟨b, o + 1, none⟩ = some (.int .i64 p.n) ∧ w'.cell? ⟨b, o + 2, none⟩ = some (.int .i64 p.v.k) ∧ w'.cell? ⟨b, o + 3, none⟩ = some (.int .i64 p.v.n) ∧ w'.cell? ⟨b, o + 4, none⟩ = some (.string p.v.s) ∧ w'.cell? ⟨b, o + 5, none⟩ = some (.string p.p) ∧ w'.cell? ⟨b, o + 6, none⟩ = some (.slice ap p.ks.length cp) ∧ w'.cell? ⟨b, o + 7, none⟩ = some (.int .i64 q.k) ∧ w'.cell? ⟨b, o + 8, none⟩ = some (.int .i64 q.n) ∧ w'.cell? ⟨b, o + 9, none⟩ = some (.int .i64 q.v.k) ∧ w'.cell? ⟨b, o + 10, none⟩ = some (.int .i64 q.v.n) ∧ w'.cell? ⟨b, o + 11, none⟩ = some (.string q.v.s) ∧ w'.cell? ⟨b, o + 12, none⟩ = some (.string q.p) ∧ w'.cell? ⟨b, o + 13, none⟩ = some (.slice aq q.ks.length cq)) (by kernel_rfl) ?_ (fun hHeld => ?_)
          · (try dsimp only)
            exact ⟨s0, s1, s2, s3, s4, s5, s6, s7, s8, s9, s10, s11, s12, s13, s14⟩
          refine takeE (i := 0) (d := 63) (v := ?_) rfl rfl (by kernel_rfl) (by kernel_rfl) (by kernel_rfl) (by kernel_rfl) (fun _ _ _ h => h) (by rfl) (by assumption) ?_ ?_
          rotate_left
          · intro w' hSw; (try dsimp only at hSw); go_simp; try exact rfl
          try simp only [List.setIfInBounds_toArray, List.set_cons_zero, List.set_cons_succ]
          refine takeE (i := 1) (d := 64) (v := ?_) rfl rfl (by kernel_rfl) (by kernel_rfl) (by kernel_rfl) (by kernel_rfl) (fun _ _ _ h => h) (by rfl) (by assumption) ?_ ?_
          rotate_left
          · intro w' hSw; (try dsimp only at hSw); go_simp; try exact rfl
          try simp only [List.setIfInBounds_toArray, List.set_cons_zero, List.set_cons_succ]
          refine takeE (i := 2) (d := 65) (v := ?_) rfl rfl (by kernel_rfl) (by kernel_rfl) (by kernel_rfl) (by kernel_rfl) (fun _ _ _ h => h) (by rfl) (by assumption) ?_ ?_
          rotate_left
          · intro w' hSw; (try dsimp only at hSw); go_simp; try exact rfl
          try simp only [List.setIfInBounds_toArray, List.set_cons_zero, List.set_cons_succ]
          refine takeE (i := 3) (d := 66) (v := ?_) rfl rfl (by kernel_rfl) (by kernel_rfl) (by kernel_rfl) (by kernel_rfl) (fun _ _ _ h => h) (by rfl) (by assumption) ?_ ?_
          rotate_left
          · intro w' hSw; (try dsimp only at hSw); go_simp; try exact rfl
          try simp only [List.setIfInBounds_toArray, List.set_cons_zero, List.set_cons_succ]
          refine takeE (i := 4) (d := 67) (v := ?_) rfl rfl (by kernel_rfl) (by kernel_rfl) (by kernel_rfl) (by kernel_rfl) (fun _ _ _ h => h) (by rfl) (by assumption) ?_ ?_
          rotate_left
          · intro w' hSw; (try dsimp only at hSw); go_simp; try exact rfl
          try simp only [List.setIfInBounds_toArray, List.set_cons_zero, List.set_cons_succ]
          refine takeE (i := 5) (d := 68) (v := ?_) rfl rfl (by kernel_rfl) (by kernel_rfl) (by kernel_rfl) (by kernel_rfl) (fun _ _ _ h => h) (by rfl) (by assumption) ?_ ?_
          rotate_left
          · intro w' hSw; (try dsimp only at hSw); go_simp; try exact rfl
          try simp only [List.setIfInBounds_toArray, List.set_cons_zero, List.set_cons_succ]
          refine takeE (i := 6) (d := 69) (v := ?_) rfl rfl (by kernel_rfl) (by kernel_rfl) (by kernel_rfl) (by kernel_rfl) (fun _ _ _ h => h) (by rfl) (by assumption) ?_ ?_
          rotate_left
          · intro w' hSw; (try dsimp only at hSw); go_simp; try exact rfl
          try simp only [List.setIfInBounds_toArray, List.set_cons_zero, List.set_cons_succ]
          refine takeE (i := 7) (d := 70) (v := ?_) rfl rfl (by kernel_rfl) (by kernel_rfl) (by kernel_rfl) (by kernel_rfl) (fun _ _ _ h => h) (by rfl) (by assumption) ?_ ?_
          rotate_left
          · intro w' hSw; (try dsimp only at hSw); go_simp; try exact rfl
          try simp only [List.setIfInBounds_toArray, List.set_cons_zero, List.set_cons_succ]
          refine takeE (i := 8) (d := 71) (v := ?_) rfl rfl (by kernel_rfl) (by kernel_rfl) (by kernel_rfl) (by kernel_rfl) (fun _ _ _ h => h) (by rfl) (by assumption) ?_ ?_
          rotate_left
          · intro w' hSw; (try dsimp only at hSw); go_simp; try exact rfl
          try simp only [List.setIfInBounds_toArray, List.set_cons_zero, List.set_cons_succ]
          refine oneE (i := 9) (by kernel_rfl) rfl (fun K hK => ?_)
          go_simp
          refine hK.out _ _ ?_ (fun hHeld9 => ?_)
          · intro _
            (try dsimp only)
            exact ⟨(cell_blk (Below.heap_alloc _ _ _ (by omega))).trans s0, (cell_blk (Below.heap_alloc _ _ _ (by omega))).trans s1, (cell_blk (Below.heap_alloc _ _ _ (by omega))).trans s2, (cell_blk (Below.heap_alloc _ _ _ (by omega))).trans s3, (cell_blk (Below.heap_alloc _ _ _ (by omega))).trans s4, (cell_blk (Below.heap_alloc _ _ _ (by omega))).trans s5, (cell_blk (Below.heap_alloc _ _ _ (by omega))).trans s6, (cell_blk (Below.heap_alloc _ _ _ (by omega))).trans s7, (cell_blk (Below.heap_alloc _ _ _ (by omega))).trans s8, (cell_blk (Below.heap_alloc _ _ _ (by omega))).trans s9, (cell_blk (Below.heap_alloc _ _ _ (by omega))).trans s10, (cell_blk (Below.heap_alloc _ _ _ (by omega))).trans s11, (cell_blk (Below.heap_alloc _ _ _ (by omega))).trans s12, (cell_blk (Below.heap_alloc _ _ _ (by omega))).trans s13, (cell_blk (Below.heap_alloc _ _ _ (by omega))).trans s14⟩
          clear hK
          replace hHeld9 := hHeld9 (by decide)
          try simp only [List.setIfInBounds_toArray, List.set_cons_zero, List.set_cons_succ]
          refine oneE (i := 10) (by kernel_rfl) rfl (fun K hK => ?_)
          refine step_append_lies _ (by rfl) _ _ _ (by rfl) (w.heap.size + 1) 32 i0 _ 7 88 Try.underlying28 hi hz0 hz1' hz2' rfl (by omega) (.slice (some ⟨g, 0, none⟩) m cap) m (ec us' init) (by rfl) (ownsE_keep hLM fun t ht => Below.heap_alloc _ _ _ (by have := (ownsE_lt hLM t ht).2; omega)) ⟨wr.heap.size + 1, 0, none⟩ 2 2 [.int .i64 q.k, .int .i64 q.n, .int .i64 q.v.k, .int .i64 q.v.n, .string q.v.s, .string q.p, .slice aq q.ks.length cq, .int .i64 p.k, .int .i64 p.n, .int .i64 p.v.k, .int .i64 p.v.n, .string p.v.s, .string p.p, .slice ap p.ks.length cp] (by rfl) (by rfl) (World.news_of_block (cs := #[.int .i64 q.k, .int .i64 q.n, .int .i64 q.v.k, .int .i64 q.v.n, .string q.v.s, .string q.p, .slice aq q.ks.length cq, .int .i64 p.k, .int .i64 p.n, .int .i64 p.v.k, .int .i64 p.v.n, .string p.v.s, .string p.p, .slice ap p.ks.length cp]) (t := 32) (fr := (0, 0)) (heap_new1 _ (by first | omega | (simp; omega)) _)) (by simp [Value.oneCell']) (by omega) hml hby (by first | omega | (simp; omega)) (wr.heap.size + 1 + 1) (by first | omega | (simp; omega)) ?_
          intro gg cap2 w4 hown4 hgrow hat hlt4
          have hz4 := hgrow.size
          simp at hz4
          have blk : ∀ t, t < wM.heap.size → t ≠ g → w4.heap[t]? = wM.heap[t]? := fun t ht hne => (hgrow.block t (by simp; omega) (by simp [Value.ownBlock]; exact hne)).trans (Below.heap_alloc _ _ _ ht)
          have bel4 : Below w.heap.size w w4 := Below.grown ((hbM.alloc (by omega) _).drew) hgrow (by simp; omega) (fun t ht => by simp [Value.ownBlock] at ht; omega)
          refine hK.out _ _ ?_ (fun hHeld10 => ?_)
          · intro _
            (try dsimp only)
            exact ⟨(cell_blk (blk _ (by omega) (by omega))).trans s0, (cell_blk (blk _ (by omega) (by omega))).trans s1, (cell_blk (blk _ (by omega) (by omega))).trans s2, (cell_blk (blk _ (by omega) (by omega))).trans s3, (cell_blk (blk _ (by omega) (by omega))).trans s4, (cell_blk (blk _ (by omega) (by omega))).trans s5, (cell_blk (blk _ (by omega) (by omega))).trans s6, (cell_blk (blk _ (by omega) (by omega))).trans s7, (cell_blk (blk _ (by omega) (by omega))).trans s8, (cell_blk (blk _ (by omega) (by omega))).trans s9, (cell_blk (blk _ (by omega) (by omega))).trans s10, (cell_blk (blk _ (by omega) (by omega))).trans s11, (cell_blk (blk _ (by omega) (by omega))).trans s12, (cell_blk (blk _ (by omega) (by omega))).trans s13, (cell_blk (blk _ (by omega) (by omega))).trans s14⟩
          clear hK
          replace hHeld10 := hHeld10 (by decide)
          try simp only [List.setIfInBounds_toArray, List.set_cons_zero, List.set_cons_succ]
          refine oneE (i := 11) (by kernel_rfl) rfl (fun K hK => ?_)
          go_simp
          refine hK.out _ _ ?_ (fun hHeld11 => ?_)
          · exact fun h => absurd rfl h
          clear hK hHeld11
          try simp only [List.setIfInBounds_toArray, List.set_cons_zero, List.set_cons_succ]
          refine doneE (by kernel_rfl) ?_ _
          have hW4 := hW.open (z' := .slice (some ⟨g, 0, none⟩) init.length cap) (z5 := .slice (some ⟨gg, 0, none⟩) (m + 2) cap2) (w' := w4) (o0 := o) rfl hLf ⟨hpw, hKp.up (by omega)⟩ ⟨hqw, hKq.up (by omega)⟩ (by rw [him]; exact hown4) ((blk _ (by omega) hgM).trans hMm) (by omega) (fun t ht hne hz => (blk t (by omega) (fun e => hz (by simp [Value.ownBlock]; exact e.symm))).trans ((hkM t hne).trans (Below.heap_alloc _ _ _ ht))) (fun t ht => by
            rcases hat with h | h
            · simp [Value.ownBlock] at h ht ⊢; left; omega
            · simp [Value.ownBlock] at ht; right; omega)
          clear hown4 hgrow hat blk hW hLf hLM
          go_wp2
          go_roundg (wt1 (init ++ [q, p]))
          case measure => omega
          case rel => exact ⟨k + 1, ps, init ++ [q, p], us, us' ++ [.slice aq q.ks.length cq, .slice ap p.ks.length cp], G, L' ++ [gq, gp], _, _, by simp, hW4, HP, bel4, by omega, by omega, Nat.le_refl _⟩
        · have h8d : decide ((k : Int) + 1 ≤ 8192) = false := decide_eq_false h8
          go_wp2_with fail
          refine startE 11 (fun w' => w'.cell? ⟨wr.heap.size, 6, none⟩ = some (.slice (some ⟨b, o, none⟩) 2 cu) ∧ w'.cell? ⟨b, o, none⟩ = some (.int .i64 p.k) ∧ w'.cell? ⟨b, o + 1, none⟩ = some (.int .i64 p.n) ∧ w'.cell? ⟨b, o + 2, none⟩ = some (.int .i64 p.v.k) ∧ w'.cell? ⟨b, o + 3, none⟩ = some (.int .i64 p.v.n) ∧ w'.cell? ⟨b, o + 4, none⟩ = some (.string p.v.s) ∧ w'.cell? ⟨b, o + 5, none⟩ = some (.string p.p) ∧ w'.cell? ⟨b, o + 6, none⟩ = some (.slice ap p.ks.length cp) ∧ w'.cell? ⟨b, o + 7, none⟩ = some (.int .i64 q.k) ∧ w'.cell? ⟨b, o + 8, none⟩ = some (.int .i64 q.n) ∧ w'.cell? ⟨b, o + 9, none⟩ = some (.int .i64 q.v.k) ∧ w'.cell? ⟨b, o + 10, none⟩ = some (.int .i64 q.v.n) ∧ w'.cell? ⟨b, o + 11, none⟩ = some (.string q.v.s) ∧ w'.cell? ⟨b, o + 12, none⟩ = some (.string q.p) ∧ w'.cell? ⟨b, o + 13, none⟩ = some (.slice aq q.ks.length cq)) (by kernel_rfl) ?_ (fun hHeld => ?_)
          · (try dsimp only)
            exact ⟨s0, s1, s2, s3, s4, s5, s6, s7, s8, s9, s10, s11, s12, s13, s14⟩
          refine takeE (i := 0) (d := 63) (v := ?_) rfl rfl (by kernel_rfl) (by kernel_rfl) (by kernel_rfl) (by kernel_rfl) (fun _ _ _ h => h) (by rfl) (by assumption) ?_ ?_
          rotate_left
          · intro w' hSw; (try dsimp only at hSw); go_simp; try exact rfl
          try simp only [List.setIfInBounds_toArray, List.set_cons_zero, List.set_cons_succ]
          refine takeE (i := 1) (d := 64) (v := ?_) rfl rfl (by kernel_rfl) (by kernel_rfl) (by kernel_rfl) (by kernel_rfl) (fun _ _ _ h => h) (by rfl) (by assumption) ?_ ?_
          rotate_left
          · intro w' hSw; (try dsimp only at hSw); go_simp; try exact rfl
          try simp only [List.setIfInBounds_toArray, List.set_cons_zero, List.set_cons_succ]
          refine takeE (i := 2) (d := 65) (v := ?_) rfl rfl (by kernel_rfl) (by kernel_rfl) (by kernel_rfl) (by kernel_rfl) (fun _ _ _ h => h) (by rfl) (by assumption) ?_ ?_
          rotate_left
          · intro w' hSw; (try dsimp only at hSw); go_simp; try exact rfl
          try simp only [List.setIfInBounds_toArray, List.set_cons_zero, List.set_cons_succ]
          refine takeE (i := 3) (d := 66) (v := ?_) rfl rfl (by kernel_rfl) (by kernel_rfl) (by kernel_rfl) (by kernel_rfl) (fun _ _ _ h => h) (by rfl) (by assumption) ?_ ?_
          rotate_left
          · intro w' hSw; (try dsimp only at hSw); go_simp; try exact rfl
          try simp only [List.setIfInBounds_toArray, List.set_cons_zero, List.set_cons_succ]
          refine takeE (i := 4) (d := 67) (v := ?_) rfl rfl (by kernel_rfl) (by kernel_rfl) (by kernel_rfl) (by kernel_rfl) (fun _ _ _ h => h) (by rfl) (by assumption) ?_ ?_
          rotate_left
          · intro w' hSw; (try dsimp only at hSw); go_simp; try exact rfl
          try simp only [List.setIfInBounds_toArray, List.set_cons_zero, List.set_cons_succ]
          refine takeE (i := 5) (d := 68) (v := ?_) rfl rfl (by kernel_rfl) (by kernel_rfl) (by kernel_rfl) (by kernel_rfl) (fun _ _ _ h => h) (by rfl) (by assumption) ?_ ?_
          rotate_left
          · intro w' hSw; (try dsimp only at hSw); go_simp; try exact rfl
          try simp only [List.setIfInBounds_toArray, List.set_cons_zero, List.set_cons_succ]
          refine takeE (i := 6) (d := 69) (v := ?_) rfl rfl (by kernel_rfl) (by kernel_rfl) (by kernel_rfl) (by kernel_rfl) (fun _ _ _ h => h) (by rfl) (by assumption) ?_ ?_
          rotate_left
          · intro w' hSw; (try dsimp only at hSw); go_simp; try exact rfl
          try simp only [List.setIfInBounds_toArray, List.set_cons_zero, List.set_cons_succ]
          refine takeE (i := 7) (d := 70) (v := ?_) rfl rfl (by kernel_rfl) (by kernel_rfl) (by kernel_rfl) (by kernel_rfl) (fun _ _ _ h => h) (by rfl) (by assumption) ?_ ?_
          rotate_left
          · intro w' hSw; (try dsimp only at hSw); go_simp; try exact rfl
          try simp only [List.setIfInBounds_toArray, List.set_cons_zero, List.set_cons_succ]
          refine takeE (i := 8) (d := 71) (v := ?_) rfl rfl (by kernel_rfl) (by kernel_rfl) (by kernel_rfl) (by kernel_rfl) (fun _ _ _ h => h) (by rfl) (by assumption) ?_ ?_
          rotate_left
          · intro w' hSw; (try dsimp only at hSw); go_simp; try exact rfl
          try simp only [List.setIfInBounds_toArray, List.set_cons_zero, List.set_cons_succ]
          refine oneE (i := 9) (by kernel_rfl) rfl (fun K hK => ?_)
          go_simp
          refine hK.out _ _ ?_ (fun hHeld9 => ?_)
          · intro _
            (try dsimp only)
            exact ⟨(cell_blk (Below.heap_alloc _ _ _ (by omega))).trans s0, (cell_blk (Below.heap_alloc _ _ _ (by omega))).trans s1, (cell_blk (Below.heap_alloc _ _ _ (by omega))).trans s2, (cell_blk (Below.heap_alloc _ _ _ (by omega))).trans s3, (cell_blk (Below.heap_alloc _ _ _ (by omega))).trans s4, (cell_blk (Below.heap_alloc _ _ _ (by omega))).trans s5, (cell_blk (Below.heap_alloc _ _ _ (by omega))).trans s6, (cell_blk (Below.heap_alloc _ _ _ (by omega))).trans s7, (cell_blk (Below.heap_alloc _ _ _ (by omega))).trans s8, (cell_blk (Below.heap_alloc _ _ _ (by omega))).trans s9, (cell_blk (Below.heap_alloc _ _ _ (by omega))).trans s10, (cell_blk (Below.heap_alloc _ _ _ (by omega))).trans s11, (cell_blk (Below.heap_alloc _ _ _ (by omega))).trans s12, (cell_blk (Below.heap_alloc _ _ _ (by omega))).trans s13, (cell_blk (Below.heap_alloc _ _ _ (by omega))).trans s14⟩
          clear hK
          replace hHeld9 := hHeld9 (by decide)
          try simp only [List.setIfInBounds_toArray, List.set_cons_zero, List.set_cons_succ]
          refine oneE (i := 10) (by kernel_rfl) rfl (fun K hK => ?_)
          refine step_append_lies _ (by rfl) _ _ _ (by rfl) (w.heap.size + 1) 32 i0 _ 7 88 Try.underlying28 hi hz0 hz1' hz2' rfl (by omega) (.slice (some ⟨g, 0, none⟩) m cap) m (ec us' init) (by rfl) (ownsE_keep hLM fun t ht => Below.heap_alloc _ _ _ (by have := (ownsE_lt hLM t ht).2; omega)) ⟨wr.heap.size + 1, 0, none⟩ 2 2 [.int .i64 q.k, .int .i64 q.n, .int .i64 q.v.k, .int .i64 q.v.n, .string q.v.s, .string q.p, .slice aq q.ks.length cq, .int .i64 p.k, .int .i64 p.n, .int .i64 p.v.k, .int .i64 p.v.n, .string p.v.s, .string p.p, .slice ap p.ks.length cp] (by rfl) (by rfl) (World.news_of_block (cs := #[.int .i64 q.k, .int .i64 q.n, .int .i64 q.v.k, .int .i64 q.v.n, .string q.v.s, .string q.p, .slice aq q.ks.length cq, .int .i64 p.k, .int .i64 p.n, .int .i64 p.v.k, .int .i64 p.v.n, .string p.v.s, .string p.p, .slice ap p.ks.length cp]) (t := 32) (fr := (0, 0)) (heap_new1 _ (by first | omega | (simp; omega)) _)) (by simp [Value.oneCell']) (by omega) hml hby (by first | omega | (simp; omega)) (wr.heap.size + 1 + 1) (by first | omega | (simp; omega)) ?_
          intro gg cap2 w4 hown4 hgrow hat hlt4
          have hz4 := hgrow.size
          simp at hz4
          have blk : ∀ t, t < wM.heap.size → t ≠ g → w4.heap[t]? = wM.heap[t]? := fun t ht hne => (hgrow.block t (by simp; omega) (by simp [Value.ownBlock]; exact hne)).trans (Below.heap_alloc _ _ _ ht)
          have bel4 : Below w.heap.size w w4 := Below.grown ((hbM.alloc (by omega) _).drew) hgrow (by simp; omega) (fun t ht => by simp [Value.ownBlock] at ht; omega)
          refine hK.out _ _ ?_ (fun hHeld10 => ?_)
          · intro _
            (try dsimp only)
            exact ⟨(cell_blk (blk _ (by omega) (by omega))).trans s0, (cell_blk (blk _ (by omega) (by omega))).trans s1, (cell_blk (blk _ (by omega) (by omega))).trans s2, (cell_blk (blk _ (by omega) (by omega))).trans s3, (cell_blk (blk _ (by omega) (by omega))).trans s4, (cell_blk (blk _ (by omega) (by omega))).trans s5, (cell_blk (blk _ (by omega) (by omega))).trans s6, (cell_blk (blk _ (by omega) (by omega))).trans s7, (cell_blk (blk _ (by omega) (by omega))).trans s8, (cell_blk (blk _ (by omega) (by omega))).trans s9, (cell_blk (blk _ (by omega) (by omega))).trans s10, (cell_blk (blk _ (by omega) (by omega))).trans s11, (cell_blk (blk _ (by omega) (by omega))).trans s12, (cell_blk (blk _ (by omega) (by omega))).trans s13, (cell_blk (blk _ (by omega) (by omega))).trans s14⟩
          clear hK
          replace hHeld10 := hHeld10 (by decide)
          try simp only [List.setIfInBounds_toArray, List.set_cons_zero, List.set_cons_succ]
          refine oneE (i := 11) (by kernel_rfl) rfl (fun K hK => ?_)
          go_simp
          refine hK.out _ _ ?_ (fun hHeld11 => ?_)
          · exact fun h => absurd rfl h
          clear hK hHeld11
          try simp only [List.setIfInBounds_toArray, List.set_cons_zero, List.set_cons_succ]
          refine doneE (by kernel_rfl) ?_ _
          have hW4 := hW.open (z' := .slice (some ⟨g, 0, none⟩) init.length cap) (z5 := .slice (some ⟨gg, 0, none⟩) (m + 2) cap2) (w' := w4) (o0 := o) rfl hLf ⟨hpw, hKp.up (by omega)⟩ ⟨hqw, hKq.up (by omega)⟩ (by rw [him]; exact hown4) ((blk _ (by omega) hgM).trans hMm) (by omega) (fun t ht hne hz => (blk t (by omega) (fun e => hz (by simp [Value.ownBlock]; exact e.symm))).trans ((hkM t hne).trans (Below.heap_alloc _ _ _ ht))) (fun t ht => by
            rcases hat with h | h
            · simp [Value.ownBlock] at h ht ⊢; left; omega
            · simp [Value.ownBlock] at ht; right; omega)
          clear hown4 hgrow hat blk hW hLf hLM
          go_wp2
          go_roundg (wt1 (init ++ [q, p]))
          case measure => omega
          case rel => exact ⟨k + 1, ps, init ++ [q, p], us, us' ++ [.slice aq q.ks.length cq, .slice ap p.ks.length cp], G, L' ++ [gq, gp], _, _, by simp, hW4, HP, bel4, by omega, by omega, Nat.le_refl _⟩
end Go.Proofs.Ytjblljggmjbalaa
