/- Own text. The contract of impl.Conj. -/
import Derived.Test.YtpkebpbflfhbnaaCjS
import Derived.Test.YtpkebpbflfhbnaaCpN
import Derived.Test.YtpkebpbflfhbnaaLastE
import Derived.Handy
import Derived.Deep.DrawnRows
import Derived.Deep.AppendLies
import Derived.Deep.LoopGhost
import Derived.Maps.AppendAt
namespace Go.Proofs.Ytpkebpbflfhbnaa
open Go.RowKit Go.Deep Go.ChangeShapes Go.WideShapes
set_option linter.unusedVariables false
attribute [local go_sem ↓] Go.wp_at_zero Go.wp_at_succ
/-- a list of the call's own of expressions whose kids lie as they did in w. -/
def LfOwn (w wr : World) (N D : Nat) (v : Value) (es : List E7) (us : List Value) : Prop :=
  wr.ownsRow N 33 7 v es.length (ec us es) ∧ us.length = es.length ∧ ∀ (i : Nat) (e : E7) (u : Value), es[i]? = some e → us[i]? = some u → e.wf ∧ ∃ g, KidsIs w D u e.ks g ∧ g.Nodup ∧ ∀ b ∈ g, Fr w b
theorem LfOwn.keep {w wr wj : World} {N D : Nat} {v : Value} {es : List E7} {us : List Value} (h : LfOwn w wr N D v es us) (hb : ∀ b, v.ownBlock = some b → wj.heap[b]? = wr.heap[b]?) : LfOwn w wj N D v es us := ⟨ownsE_keep h.1 hb, h.2⟩
theorem LfOwn.last {w wr : World} {N D : Nat} {v : Value} {init : List E7} {x : E7} {us : List Value} (h : LfOwn w wr N D v (init ++ [x]) us) :
    ∃ us' ux g cap, us = us' ++ [ux] ∧ v = .slice (some ⟨g, 0, none⟩) (init.length + 1) cap ∧ init.length + 1 ≤ cap ∧ cap ≤ maxLen ∧ N ≤ g ∧ g < wr.heap.size ∧ x.wf ∧ (∃ F, KidsIs w D ux x.ks F ∧ F.Nodup ∧ ∀ b ∈ F, Fr w b) ∧ (∀ j u, j < 7 → (c7 ux x)[j]? = some u → wr.cell? ⟨g, init.length * 7 + j, none⟩ = some u) ∧ LfOwn w wr N D (.slice (some ⟨g, 0, none⟩) init.length cap) init us' := by
  have hlt := ownsE_lt h.1
  obtain ⟨ho, hul, hk⟩ := h
  rcases List.eq_nil_or_concat us with rfl | ⟨us', ux, hus⟩
  · simp at hul
  rw [List.concat_eq_append] at hus
  subst hus
  have hul' : us'.length = init.length := by simpa using hul
  obtain ⟨hl, ho⟩ := ho
  simp only [List.length_append, List.length_singleton] at hl ho
  rcases ho with ⟨_, h0⟩ | ⟨g, cap, cur, rfl, hg, hc, hn, hm, hs, ht⟩
  · omega
  have hat := ec_at (us := us' ++ [ux]) (es := init ++ [x]) (by simp [hul']) (i := init.length) (u := ux) (e := x) (by rw [List.getElem?_append_right (by omega), hul']; simp) (by simp)
  have hkx := hk init.length x ux (by simp) (by rw [List.getElem?_append_right (by omega), hul']; simp)
  refine ⟨us', ux, g, cap, rfl, rfl, hn, hm, hg, (hlt g rfl).2, hkx.1, hkx.2, fun j u hj hu => ?_, ⟨ec_len' hul', .inr ⟨g, cap, cur, rfl, hg, hc, by omega, hm, hs, ?_⟩⟩, hul', fun i e u he hu => hk i e u (by rw [List.getElem?_append_left (List.getElem?_eq_some_iff.1 he).1]; exact he) (by rw [List.getElem?_append_left (List.getElem?_eq_some_iff.1 hu).1]; exact hu)⟩
  · have hu := (hat j hj).trans hu
    simp only [World.cell?, hc]
    rw [← ht, List.getElem?_take, if_pos (by omega), Array.getElem?_toList] at hu
    simpa using hu
  · have h1 : (cur.toList.take ((init.length + 1) * 7)).take (init.length * 7) = (ec (us' ++ [ux]) (init ++ [x])).take (init.length * 7) := by rw [ht]
    rw [List.take_take, ec_app hul', Nat.min_eq_left (by omega), List.take_append_of_le_length (by rw [ec_len' hul']; exact Nat.le_refl _)] at h1
    exact h1.trans (List.take_of_length_le (by rw [ec_len' hul']; exact Nat.le_refl _))
theorem conj_rev (D : Nat) (init : List E7) (x : E7) : (init ++ [x]).reverse.flatMap (conjL D) = conjL D x ++ init.reverse.flatMap (conjL D) := by simp
theorem heap_new1 (w : World) {n : Nat} (h : n = w.heap.size) (o : Obj) : (w.alloc o).heap[n]? = some o := by subst h; exact heap_alloc_new w o
theorem snoc_or (es : List E7) : es = [] ∨ ∃ ys y, es = ys ++ [y] := by
  rcases List.eq_nil_or_concat es with h | ⟨ys, y, h⟩
  · exact .inl h
  · exact .inr ⟨ys, y, by rw [h, List.concat_eq_append]⟩
set_option maxHeartbeats 4000000 in
set_option maxRecDepth 100000 in
theorem implConj_any (D : Nat) (e : E7) (u : Value) (F : List Nat) (w : World) (he : e.wf) (hk : KidsIs w (D + 1) u e.ks F) (hd : F.Nodup ∧ ∀ b ∈ F, Fr w b) (hn : wtE e ≤ 1048576) :
    Calls Try.prog 20 #[(.agg #[.int .i64 e.k, .int .i64 e.n, .int .i64 e.v.k, .int .i64 e.v.n, .string e.v.s, .string e.p, u])] w fun x w' => (∃ v, x = .returned v ∧ ConjOut w' w.heap.size (D + 1) v (conjL (D + 1) e)) ∧ Below w.heap.size w w' := by
  obtain ⟨i0, hi, hz0, hz1', hz2'⟩ := info_parts Try.infoExp
  obtain ⟨a, c, rfl, hl, hc⟩ := hk.shape
  have hnC : conjL (D + 1) e ≠ [] := conj_pos _ _
  go_enter Try.func20, Try.ntmps20
  go_wp2
  go_loopg [3, 4] (1 + wtE e) (fun gk y z wr => ∃ (ps : List E7) (us : List Value) (G : List (List Nat)) (ls : List E7) (vs : List Value), ExpOwn wr (w.heap.size + 1) (D + 1) y ps us G ∧ LfOwn w wr (w.heap.size + 1) (D + 1) z ls vs ∧ (∀ b, z.ownBlock = some b → b ∉ G.flatten ∧ y.ownBlock ≠ some b) ∧ Hid (ps ++ ls.reverse.flatMap (conjL (D + 1)) = conjL (D + 1) e) ∧ Below w.heap.size w wr ∧ ps.length + wt1 ls ≤ 1 + wtE e ∧ wt1 ls ≤ gk)
  case atStart =>
    refine ⟨[], [], [], [e], [.slice a e.ks.length c], ?_, ?_, ?_, ?_, by repeat (first | (with_reducible exact Below.refl _ _) | (with_reducible refine Below.drew ?_) | (with_reducible refine Below.alloc ?_ ?hh _; case hh => first | (simp; done) | (simp; omega) | omega) | (with_reducible refine Below.setCell ?_ ?hh _; case hh => first | (simp; done) | (simp; omega) | omega) | refine bstep (by assumption) (by first | (simp; done) | (simp; omega) | omega) ?_), by rw [wt1_one]; simp, by rw [wt1_one]; exact Nat.le_refl _⟩
    · exact (ExpOwn.empty' (by simp) (D + 1)).below ((Below.refl _ _).alloc (Nat.le_refl _) _)
    · refine ⟨⟨by simp [ec, c7], .inr ⟨w.heap.size + 1 + 1, 1, _, rfl, by omega, heap_new1 _ (by simp) _, Nat.le_refl _, by unfold maxLen; omega, by simp, by simp [ec, c7]⟩⟩, rfl, fun i e' u' he' hu' => ?_⟩
      cases i with
      | zero =>
        simp at he' hu'
        subst he' hu'
        exact ⟨he, F, hk, hd.1, hd.2⟩
      | succ i => simp at he'
    · intro b hb'
      simp [Value.ownBlock] at hb'
      subst hb'
      exact ⟨by simp, by simp [Value.ownBlock]⟩
    · show [] ++ [e].reverse.flatMap (conjL (D + 1)) = conjL (D + 1) e
      simp
  case round =>
    obtain ⟨ps, us, G, ls, vs, hE, hLo, hdis, HE, hb, hwt, hgk⟩ := hrel
    have hzb := hb.size
    rcases snoc_or ls with rfl | ⟨init, x, rfl⟩
    · obtain ⟨ay, cy, rfl⟩ := hE.shape
      have HO : Hid (ConjOut wr w.heap.size (D + 1) (.slice ay ps.length cy) (conjL (D + 1) e)) := by
        have h1 := HE.out
        simp at h1
        show ConjOut _ _ _ _ _
        rw [← h1]
        exact ⟨us, G, hE.weak (by omega)⟩
      clear hE HE hdis
      rcases hLo.1.2 with ⟨rfl, _⟩ | ⟨g, cap, cur, rfl, _⟩
      all_goals (
        clear hLo
        go_wp2
        refine bodyPost_ret (v := .slice ay ps.length cy) (by simp [results, Try.results20, go_sem]) rfl ⟨⟨_, rfl, HO.out⟩, hb⟩)
    · obtain ⟨us', ux, g, cap, rfl, rfl, hcap1, hcap2, hgN, hgl, hxw, ⟨Fx, hKx, hFn, hFf⟩, hcells, hLf⟩ := hLo.last
      obtain ⟨hgG, hyz⟩ := hdis g rfl
      obtain ⟨au, cu, rfl, _, _⟩ := hKx.shape
      rw [wt1_app, wt1_one] at hwt hgk
      obtain ⟨m, him⟩ : ∃ m, init.length = m := ⟨_, rfl⟩
      rw [him] at hcap1 hcells hLf
      simp only [him]
      unfold maxLen at hcap2
      have hpl : ps.length ≤ 1048577 := by omega
      have hil : m ≤ 1048577 := by unfold wt1 at hwt; omega
      have x0 : wr.cell? ⟨g, m * 7, none⟩ = some (.int .i64 x.k) := hcells 0 _ (by omega) rfl
      have x1 : wr.cell? ⟨g, m * 7 + 1, none⟩ = some (.int .i64 x.n) := hcells 1 _ (by omega) rfl
      have x2 : wr.cell? ⟨g, m * 7 + 2, none⟩ = some (.int .i64 x.v.k) := hcells 2 _ (by omega) rfl
      have x3 : wr.cell? ⟨g, m * 7 + 3, none⟩ = some (.int .i64 x.v.n) := hcells 3 _ (by omega) rfl
      have x4 : wr.cell? ⟨g, m * 7 + 4, none⟩ = some (.string x.v.s) := hcells 4 _ (by omega) rfl
      have x5 : wr.cell? ⟨g, m * 7 + 5, none⟩ = some (.string x.p) := hcells 5 _ (by omega) rfl
      have x6 : wr.cell? ⟨g, m * 7 + 6, none⟩ = some (.slice au x.ks.length cu) := hcells 6 _ (by omega) rfl
      clear hLo hdis
      cases hA : isAnd x with
      | false =>
        have hcase : (x.k == 2) = false ∨ ((x.k == 2) = true ∧ (x.p.toList == [97, 110, 100]) = false) ∨ ((x.k == 2) = true ∧ (x.p.toList == [97, 110, 100]) = true ∧ x.ks.length ≠ 2) := by
          unfold isAnd at hA
          cases h1 : x.k == 2
          · exact .inl rfl
          · cases h2 : x.p.toList == [97, 110, 100]
            · exact .inr (.inl ⟨rfl, rfl⟩)
            · refine .inr (.inr ⟨rfl, rfl, fun h => ?_⟩)
              rw [h1, h2, h] at hA
              simp at hA
        rcases hcase with h1 | ⟨h1, h2⟩ | ⟨h1, h2, h3⟩
        · have h1' : decide (x.k = 2) = false := by simpa using h1
          go_wp2_with fail
          refine Calls.mono (copyExp_any D x (.slice au x.ks.length cu) Fx _ hxw ((hKx.below hb).below ?hbb) (.inl ⟨hFn, fun q hq => (hFf q hq).keep (Below.block ?hbc q (hKx.lt q hq))⟩) (by omega)) ?_
          case hbb => repeat (first | (with_reducible exact Below.refl _ _) | (with_reducible refine Below.drew ?_) | (with_reducible refine Below.alloc ?_ ?hh _; case hh => first | (simp; done) | (simp; omega) | omega) | (with_reducible refine Below.setCell ?_ ?hh _; case hh => first | (simp; done) | (simp; omega) | omega) | refine bstep (by assumption) (by first | (simp; done) | (simp; omega) | omega) ?_)
          case hbc => repeat (first | (with_reducible exact Below.refl _ _) | (with_reducible refine Below.drew ?_) | (with_reducible refine Below.alloc ?_ ?hh _; case hh => first | (simp; done) | (simp; omega) | omega) | (with_reducible refine Below.setCell ?_ ?hh _; case hh => first | (simp; done) | (simp; omega) | omega) | refine bstep (by assumption) (by first | (simp; done) | (simp; omega) | omega) ?_)
          rintro yy w2 ⟨⟨u2, g2, rfl, hK2, hO2⟩, hb2⟩
          obtain ⟨a2, c2, rfl, _, _⟩ := hK2.shape
          have hz2 := hb2.size
          simp only [World.size_alloc] at hz2 hO2
          have bel2 : Below wr.heap.size wr w2 := by repeat (first | (with_reducible exact Below.refl _ _) | (with_reducible refine Below.drew ?_) | (with_reducible refine Below.alloc ?_ ?hh _; case hh => first | (simp; done) | (simp; omega) | omega) | (with_reducible refine Below.setCell ?_ ?hh _; case hh => first | (simp; done) | (simp; omega) | omega) | refine bstep (by assumption) (by first | (simp; done) | (simp; omega) | omega) ?_)
          have hbw2 : Below w.heap.size w w2 := hb.trans (bel2.mono hb.size)
          have hE2 := hE.below bel2
          have hvl := ownsE_lt hE.own
          have hGl := hE.lt
          have hE3 := hE2.below ((Below.refl _ _).alloc (Nat.le_refl _) (.cells #[.int .i64 x.k, .int .i64 x.n, .int .i64 x.v.k, .int .i64 x.v.n, .string x.v.s, .string x.p, .slice a2 x.ks.length c2] 33))
          have hL2 : LfOwn w w2 (w.heap.size + 1) (D + 1) (.slice (some ⟨g, 0, none⟩) m cap) init us' := hLf.keep fun q hq => bel2.block q (ownsE_lt hLf.1 q hq).2
          have hnew : ∀ j' u, [.int .i64 x.k, .int .i64 x.n, .int .i64 x.v.k, .int .i64 x.v.n, .string x.v.s, .string x.p, .slice a2 x.ks.length c2][j']? = some u → (w2.alloc (.cells #[.int .i64 x.k, .int .i64 x.n, .int .i64 x.v.k, .int .i64 x.v.n, .string x.v.s, .string x.p, .slice a2 x.ks.length c2] 33)).cell? ((⟨w2.heap.size, 0, none⟩ : Addr).add j') = some u := by
            intro j' u hu
            match j', hu with
            | 0, hu => simp at hu; subst hu; go_simp
            | 1, hu => simp at hu; subst hu; go_simp
            | 2, hu => simp at hu; subst hu; go_simp
            | 3, hu => simp at hu; subst hu; go_simp
            | 4, hu => simp at hu; subst hu; go_simp
            | 5, hu => simp at hu; subst hu; go_simp
            | 6, hu => simp at hu; subst hu; go_simp
          have HP : Hid (ps ++ [x] ++ init.reverse.flatMap (conjL (D + 1)) = conjL (D + 1) e) := by
            show _ = _
            rw [← HE.out, conj_rev, conj_one hA]; simp
          clear hb2 hcells hnC hKx hFn hFf
          go_wp2_with (at_builtin; refine wpList_append_own_at _ rfl _ _ 31 rfl (w.heap.size + 1) 33 i0 _ 7 88 Try.underlying31 hi hz0 hz1' hz2' rfl (by decide) u3 ps.length (ec us ps) rfl hE3.own ⟨w2.heap.size, 0, none⟩ 1 1 [.int .i64 x.k, .int .i64 x.n, .int .i64 x.v.k, .int .i64 x.v.n, .string x.v.s, .string x.p, .slice a2 x.ks.length c2] rfl rfl hnew (by simp [Value.oneCell']) ?c3 ?c4 ?c5 ?_)
          case c3 => unfold maxLen; omega
          case c4 => omega
          case c5 => simp; omega
          intro v5 w5 hown5 hgr5 _ hat5
          have hsz5 := hgr5.size
          simp at hsz5
          have hE5 : ExpOwn w5 (w.heap.size + 1) (D + 1) v5 (ps ++ [x]) (us ++ [.slice a2 x.ks.length c2]) (G ++ [g2]) := hE3.push hxw (hK2.below ((Below.refl _ _).alloc (Nat.le_refl _) _)) ⟨hO2.1, fun q hq => ⟨by have := (hO2.2 q hq).1; omega, fun o => (frozen_blk (Below.heap_alloc _ _ _ (hK2.lt q hq))).trans ((hO2.2 q hq).2 o)⟩⟩ (fun q hq hq' => by have := (hO2.2 q hq').1; have := hGl q hq; omega) (fun q hq hq' => by have := (hO2.2 q hq').1; have := (hvl q hq).2; omega) hown5 hgr5 (fun q hq => by
            rcases hat5 with h | h
            · left; rw [← h]; exact hq
            · right; rw [h] at hq; cases hq; simp)
          have hL5 : LfOwn w w5 (w.heap.size + 1) (D + 1) (.slice (some ⟨g, 0, none⟩) m cap) init us' := hL2.keep fun q hq => by
            simp [Value.ownBlock] at hq
            subst hq
            exact (hgr5.block _ (by simp; omega) (fun h => hyz h.symm)).trans (Below.heap_alloc _ _ _ (by omega))
          have hyz5 : v5.ownBlock ≠ some g := by
            intro h
            rcases hat5 with h' | h'
            · exact hyz (h' ▸ h)
            · rw [h'] at h; simp at h; omega
          have hgG5 : g ∉ (G ++ [g2]).flatten := by
            rw [List.flatten_append]
            intro h
            rcases List.mem_append.1 h with h | h
            · exact hgG h
            · have h : g ∈ g2 := by simpa using h
              have := (hO2.2 g h).1
              omega
          have hbw5 : Below w.heap.size w w5 := (hbw2.alloc (by omega) _).grown hgr5 (by simp; omega) (fun q hq => by have := (hvl q hq).1; omega)
          clear hown5 hgr5 hat5 hE3 hE2 hL2 hnew hE hK2 hO2 hLf
          go_wp2
          go_roundg (wt1 init)
          case measure => omega
          case rel => exact ⟨ps ++ [x], us ++ [.slice a2 x.ks.length c2], G ++ [g2], init, us', hE5, hL5, fun q hq => by simp [Value.ownBlock] at hq; subst hq; exact ⟨hgG5, hyz5⟩, HP, hbw5, by simp; omega, Nat.le_refl _⟩
        · have h1' : decide (x.k = 2) = true := by simpa using h1
          go_wp2_with fail
          refine Calls.mono (copyExp_any D x (.slice au x.ks.length cu) Fx _ hxw ((hKx.below hb).below ?hbb) (.inl ⟨hFn, fun q hq => (hFf q hq).keep (Below.block ?hbc q (hKx.lt q hq))⟩) (by omega)) ?_
          case hbb => repeat (first | (with_reducible exact Below.refl _ _) | (with_reducible refine Below.drew ?_) | (with_reducible refine Below.alloc ?_ ?hh _; case hh => first | (simp; done) | (simp; omega) | omega) | (with_reducible refine Below.setCell ?_ ?hh _; case hh => first | (simp; done) | (simp; omega) | omega) | refine bstep (by assumption) (by first | (simp; done) | (simp; omega) | omega) ?_)
          case hbc => repeat (first | (with_reducible exact Below.refl _ _) | (with_reducible refine Below.drew ?_) | (with_reducible refine Below.alloc ?_ ?hh _; case hh => first | (simp; done) | (simp; omega) | omega) | (with_reducible refine Below.setCell ?_ ?hh _; case hh => first | (simp; done) | (simp; omega) | omega) | refine bstep (by assumption) (by first | (simp; done) | (simp; omega) | omega) ?_)
          rintro yy w2 ⟨⟨u2, g2, rfl, hK2, hO2⟩, hb2⟩
          obtain ⟨a2, c2, rfl, _, _⟩ := hK2.shape
          have hz2 := hb2.size
          simp only [World.size_alloc] at hz2 hO2
          have bel2 : Below wr.heap.size wr w2 := by repeat (first | (with_reducible exact Below.refl _ _) | (with_reducible refine Below.drew ?_) | (with_reducible refine Below.alloc ?_ ?hh _; case hh => first | (simp; done) | (simp; omega) | omega) | (with_reducible refine Below.setCell ?_ ?hh _; case hh => first | (simp; done) | (simp; omega) | omega) | refine bstep (by assumption) (by first | (simp; done) | (simp; omega) | omega) ?_)
          have hbw2 : Below w.heap.size w w2 := hb.trans (bel2.mono hb.size)
          have hE2 := hE.below bel2
          have hvl := ownsE_lt hE.own
          have hGl := hE.lt
          have hE3 := hE2.below ((Below.refl _ _).alloc (Nat.le_refl _) (.cells #[.int .i64 x.k, .int .i64 x.n, .int .i64 x.v.k, .int .i64 x.v.n, .string x.v.s, .string x.p, .slice a2 x.ks.length c2] 33))
          have hL2 : LfOwn w w2 (w.heap.size + 1) (D + 1) (.slice (some ⟨g, 0, none⟩) m cap) init us' := hLf.keep fun q hq => bel2.block q (ownsE_lt hLf.1 q hq).2
          have hnew : ∀ j' u, [.int .i64 x.k, .int .i64 x.n, .int .i64 x.v.k, .int .i64 x.v.n, .string x.v.s, .string x.p, .slice a2 x.ks.length c2][j']? = some u → (w2.alloc (.cells #[.int .i64 x.k, .int .i64 x.n, .int .i64 x.v.k, .int .i64 x.v.n, .string x.v.s, .string x.p, .slice a2 x.ks.length c2] 33)).cell? ((⟨w2.heap.size, 0, none⟩ : Addr).add j') = some u := by
            intro j' u hu
            match j', hu with
            | 0, hu => simp at hu; subst hu; go_simp
            | 1, hu => simp at hu; subst hu; go_simp
            | 2, hu => simp at hu; subst hu; go_simp
            | 3, hu => simp at hu; subst hu; go_simp
            | 4, hu => simp at hu; subst hu; go_simp
            | 5, hu => simp at hu; subst hu; go_simp
            | 6, hu => simp at hu; subst hu; go_simp
          have HP : Hid (ps ++ [x] ++ init.reverse.flatMap (conjL (D + 1)) = conjL (D + 1) e) := by
            show _ = _
            rw [← HE.out, conj_rev, conj_one hA]; simp
          clear hb2 hcells hnC hKx hFn hFf
          go_wp2_with (at_builtin; refine wpList_append_own_at _ rfl _ _ 31 rfl (w.heap.size + 1) 33 i0 _ 7 88 Try.underlying31 hi hz0 hz1' hz2' rfl (by decide) u3 ps.length (ec us ps) rfl hE3.own ⟨w2.heap.size, 0, none⟩ 1 1 [.int .i64 x.k, .int .i64 x.n, .int .i64 x.v.k, .int .i64 x.v.n, .string x.v.s, .string x.p, .slice a2 x.ks.length c2] rfl rfl hnew (by simp [Value.oneCell']) ?c3 ?c4 ?c5 ?_)
          case c3 => unfold maxLen; omega
          case c4 => omega
          case c5 => simp; omega
          intro v5 w5 hown5 hgr5 _ hat5
          have hsz5 := hgr5.size
          simp at hsz5
          have hE5 : ExpOwn w5 (w.heap.size + 1) (D + 1) v5 (ps ++ [x]) (us ++ [.slice a2 x.ks.length c2]) (G ++ [g2]) := hE3.push hxw (hK2.below ((Below.refl _ _).alloc (Nat.le_refl _) _)) ⟨hO2.1, fun q hq => ⟨by have := (hO2.2 q hq).1; omega, fun o => (frozen_blk (Below.heap_alloc _ _ _ (hK2.lt q hq))).trans ((hO2.2 q hq).2 o)⟩⟩ (fun q hq hq' => by have := (hO2.2 q hq').1; have := hGl q hq; omega) (fun q hq hq' => by have := (hO2.2 q hq').1; have := (hvl q hq).2; omega) hown5 hgr5 (fun q hq => by
            rcases hat5 with h | h
            · left; rw [← h]; exact hq
            · right; rw [h] at hq; cases hq; simp)
          have hL5 : LfOwn w w5 (w.heap.size + 1) (D + 1) (.slice (some ⟨g, 0, none⟩) m cap) init us' := hL2.keep fun q hq => by
            simp [Value.ownBlock] at hq
            subst hq
            exact (hgr5.block _ (by simp; omega) (fun h => hyz h.symm)).trans (Below.heap_alloc _ _ _ (by omega))
          have hyz5 : v5.ownBlock ≠ some g := by
            intro h
            rcases hat5 with h' | h'
            · exact hyz (h' ▸ h)
            · rw [h'] at h; simp at h; omega
          have hgG5 : g ∉ (G ++ [g2]).flatten := by
            rw [List.flatten_append]
            intro h
            rcases List.mem_append.1 h with h | h
            · exact hgG h
            · have h : g ∈ g2 := by simpa using h
              have := (hO2.2 g h).1
              omega
          have hbw5 : Below w.heap.size w w5 := (hbw2.alloc (by omega) _).grown hgr5 (by simp; omega) (fun q hq => by have := (hvl q hq).1; omega)
          clear hown5 hgr5 hat5 hE3 hE2 hL2 hnew hE hK2 hO2 hLf
          go_wp2
          go_roundg (wt1 init)
          case measure => omega
          case rel => exact ⟨ps ++ [x], us ++ [.slice a2 x.ks.length c2], G ++ [g2], init, us', hE5, hL5, fun q hq => by simp [Value.ownBlock] at hq; subst hq; exact ⟨hgG5, hyz5⟩, HP, hbw5, by simp; omega, Nat.le_refl _⟩
        · have h1' : decide (x.k = 2) = true := by simpa using h1
          have h3' : decide ((x.ks.length : Int) = 2) = false := by simp; omega
          have h3b : ((x.ks.length : Int) == 2) = false := by simp; omega
          go_wp2_with fail
          refine Calls.mono (copyExp_any D x (.slice au x.ks.length cu) Fx _ hxw ((hKx.below hb).below ?hbb) (.inl ⟨hFn, fun q hq => (hFf q hq).keep (Below.block ?hbc q (hKx.lt q hq))⟩) (by omega)) ?_
          case hbb => repeat (first | (with_reducible exact Below.refl _ _) | (with_reducible refine Below.drew ?_) | (with_reducible refine Below.alloc ?_ ?hh _; case hh => first | (simp; done) | (simp; omega) | omega) | (with_reducible refine Below.setCell ?_ ?hh _; case hh => first | (simp; done) | (simp; omega) | omega) | refine bstep (by assumption) (by first | (simp; done) | (simp; omega) | omega) ?_)
          case hbc => repeat (first | (with_reducible exact Below.refl _ _) | (with_reducible refine Below.drew ?_) | (with_reducible refine Below.alloc ?_ ?hh _; case hh => first | (simp; done) | (simp; omega) | omega) | (with_reducible refine Below.setCell ?_ ?hh _; case hh => first | (simp; done) | (simp; omega) | omega) | refine bstep (by assumption) (by first | (simp; done) | (simp; omega) | omega) ?_)
          rintro yy w2 ⟨⟨u2, g2, rfl, hK2, hO2⟩, hb2⟩
          obtain ⟨a2, c2, rfl, _, _⟩ := hK2.shape
          have hz2 := hb2.size
          simp only [World.size_alloc] at hz2 hO2
          have bel2 : Below wr.heap.size wr w2 := by repeat (first | (with_reducible exact Below.refl _ _) | (with_reducible refine Below.drew ?_) | (with_reducible refine Below.alloc ?_ ?hh _; case hh => first | (simp; done) | (simp; omega) | omega) | (with_reducible refine Below.setCell ?_ ?hh _; case hh => first | (simp; done) | (simp; omega) | omega) | refine bstep (by assumption) (by first | (simp; done) | (simp; omega) | omega) ?_)
          have hbw2 : Below w.heap.size w w2 := hb.trans (bel2.mono hb.size)
          have hE2 := hE.below bel2
          have hvl := ownsE_lt hE.own
          have hGl := hE.lt
          have hE3 := hE2.below ((Below.refl _ _).alloc (Nat.le_refl _) (.cells #[.int .i64 x.k, .int .i64 x.n, .int .i64 x.v.k, .int .i64 x.v.n, .string x.v.s, .string x.p, .slice a2 x.ks.length c2] 33))
          have hL2 : LfOwn w w2 (w.heap.size + 1) (D + 1) (.slice (some ⟨g, 0, none⟩) m cap) init us' := hLf.keep fun q hq => bel2.block q (ownsE_lt hLf.1 q hq).2
          have hnew : ∀ j' u, [.int .i64 x.k, .int .i64 x.n, .int .i64 x.v.k, .int .i64 x.v.n, .string x.v.s, .string x.p, .slice a2 x.ks.length c2][j']? = some u → (w2.alloc (.cells #[.int .i64 x.k, .int .i64 x.n, .int .i64 x.v.k, .int .i64 x.v.n, .string x.v.s, .string x.p, .slice a2 x.ks.length c2] 33)).cell? ((⟨w2.heap.size, 0, none⟩ : Addr).add j') = some u := by
            intro j' u hu
            match j', hu with
            | 0, hu => simp at hu; subst hu; go_simp
            | 1, hu => simp at hu; subst hu; go_simp
            | 2, hu => simp at hu; subst hu; go_simp
            | 3, hu => simp at hu; subst hu; go_simp
            | 4, hu => simp at hu; subst hu; go_simp
            | 5, hu => simp at hu; subst hu; go_simp
            | 6, hu => simp at hu; subst hu; go_simp
          have HP : Hid (ps ++ [x] ++ init.reverse.flatMap (conjL (D + 1)) = conjL (D + 1) e) := by
            show _ = _
            rw [← HE.out, conj_rev, conj_one hA]; simp
          clear hb2 hcells hnC hKx hFn hFf
          go_wp2_with (at_builtin; refine wpList_append_own_at _ rfl _ _ 31 rfl (w.heap.size + 1) 33 i0 _ 7 88 Try.underlying31 hi hz0 hz1' hz2' rfl (by decide) u3 ps.length (ec us ps) rfl hE3.own ⟨w2.heap.size, 0, none⟩ 1 1 [.int .i64 x.k, .int .i64 x.n, .int .i64 x.v.k, .int .i64 x.v.n, .string x.v.s, .string x.p, .slice a2 x.ks.length c2] rfl rfl hnew (by simp [Value.oneCell']) ?c3 ?c4 ?c5 ?_)
          case c3 => unfold maxLen; omega
          case c4 => omega
          case c5 => simp; omega
          intro v5 w5 hown5 hgr5 _ hat5
          have hsz5 := hgr5.size
          simp at hsz5
          have hE5 : ExpOwn w5 (w.heap.size + 1) (D + 1) v5 (ps ++ [x]) (us ++ [.slice a2 x.ks.length c2]) (G ++ [g2]) := hE3.push hxw (hK2.below ((Below.refl _ _).alloc (Nat.le_refl _) _)) ⟨hO2.1, fun q hq => ⟨by have := (hO2.2 q hq).1; omega, fun o => (frozen_blk (Below.heap_alloc _ _ _ (hK2.lt q hq))).trans ((hO2.2 q hq).2 o)⟩⟩ (fun q hq hq' => by have := (hO2.2 q hq').1; have := hGl q hq; omega) (fun q hq hq' => by have := (hO2.2 q hq').1; have := (hvl q hq).2; omega) hown5 hgr5 (fun q hq => by
            rcases hat5 with h | h
            · left; rw [← h]; exact hq
            · right; rw [h] at hq; cases hq; simp)
          have hL5 : LfOwn w w5 (w.heap.size + 1) (D + 1) (.slice (some ⟨g, 0, none⟩) m cap) init us' := hL2.keep fun q hq => by
            simp [Value.ownBlock] at hq
            subst hq
            exact (hgr5.block _ (by simp; omega) (fun h => hyz h.symm)).trans (Below.heap_alloc _ _ _ (by omega))
          have hyz5 : v5.ownBlock ≠ some g := by
            intro h
            rcases hat5 with h' | h'
            · exact hyz (h' ▸ h)
            · rw [h'] at h; simp at h; omega
          have hgG5 : g ∉ (G ++ [g2]).flatten := by
            rw [List.flatten_append]
            intro h
            rcases List.mem_append.1 h with h | h
            · exact hgG h
            · have h : g ∈ g2 := by simpa using h
              have := (hO2.2 g h).1
              omega
          have hbw5 : Below w.heap.size w w5 := (hbw2.alloc (by omega) _).grown hgr5 (by simp; omega) (fun q hq => by have := (hvl q hq).1; omega)
          clear hown5 hgr5 hat5 hE3 hE2 hL2 hnew hE hK2 hO2 hLf
          go_wp2
          go_roundg (wt1 init)
          case measure => omega
          case rel => exact ⟨ps ++ [x], us ++ [.slice a2 x.ks.length c2], G ++ [g2], init, us', hE5, hL5, fun q hq => by simp [Value.ownBlock] at hq; subst hq; exact ⟨hgG5, hyz5⟩, HP, hbw5, by simp; omega, Nat.le_refl _⟩
      | true =>
        obtain ⟨p, z, hpz⟩ := isAnd_two hA
        obtain ⟨aq, cq, b, o, G2, hsl, _, hc2, hG2, _, ha2⟩ := hKx.pick
        injection hsl with e1 _ e3
        subst e1 e3
        obtain ⟨rfl, hblt, hFx, hL2⟩ := ha2 0 (two_lt' hpz).1
        obtain ⟨p', gp, up, hp', _, hpw, ⟨c0, c1, c2, c3, c4, c5⟩, c6, hKp, hbr⟩ := hL2.at hG2 hblt hb (k := 0) (two_lt' hpz).1
        obtain rfl : p = p' := by rw [hpz] at hp'; simpa using hp'
        obtain ⟨z', gz, uz, hz', _, hzw, ⟨d0, d1, d2, d3, d4, d5⟩, d6, hKz, _⟩ := hL2.at hG2 hblt hb (k := 1) (two_lt' hpz).2
        obtain rfl : z = z' := by rw [hpz] at hz'; simpa using hz'
        have hsub : ∀ g ∈ G2, g.Sublist Fx := fun g hg => by rw [hFx]; exact (List.sublist_flatten_of_mem hg).cons _
        have hKp0 : ∃ q, KidsIs w (D + 1) up p.ks q ∧ q.Nodup ∧ ∀ b ∈ q, Fr w b := by
          obtain ⟨_, _, u', hu', hK'⟩ := hL2 0 p (G2[0]'(by rw [hG2]; exact (two_lt' hpz).1)) (by rw [hpz]; rfl) (by simp)
          have := ((bcell hb).1 b _ hblt).trans hu'
          rw [c6] at this
          cases this
          exact ⟨_, hK'.up (by omega), (hsub _ (List.getElem_mem _)).nodup hFn, fun q hq => hFf q ((hsub _ (List.getElem_mem _)).subset hq)⟩
        have hKz0 : ∃ q, KidsIs w (D + 1) uz z.ks q ∧ q.Nodup ∧ ∀ b ∈ q, Fr w b := by
          obtain ⟨_, _, u', hu', hK'⟩ := hL2 1 z (G2[1]'(by rw [hG2]; exact (two_lt' hpz).2)) (by rw [hpz]; rfl) (by simp)
          have := ((bcell hb).1 b _ hblt).trans hu'
          rw [d6] at this
          cases this
          exact ⟨_, hK'.up (by omega), (hsub _ (List.getElem_mem _)).nodup hFn, fun q hq => hFf q ((hsub _ (List.getElem_mem _)).subset hq)⟩
        obtain ⟨ap, cp, rfl, _, _⟩ := hKp.shape
        obtain ⟨az, cz, rfl, _, _⟩ := hKz.shape
        have hwx := and_wt hpz
        have HP : Hid (ps ++ (init ++ [z, p]).reverse.flatMap (conjL (D + 1)) = conjL (D + 1) e) := by
          show _ = _
          have hde := hKx.re.de
          rw [← HE.out, conj_rev, conj_two hA hpz, ← conj_up (d' := D + 1) (hde p (by rw [hpz]; simp)) (by omega), ← conj_up (d' := D + 1) (hde z (by rw [hpz]; simp)) (by omega)]
          simp
        have hwn : wt1 (init ++ [z, p]) = wt1 init + (2 + (wtE p + wtE z)) := by rw [wt1_app]; unfold wt1; rw [← wtEs_sum [z, p]]; simp; omega
        have hlen : x.ks.length = 2 := by rw [hpz]; rfl
        have h12 : x.k = 2 ∧ (x.p.toList == [97, 110, 100]) = true := by unfold isAnd at hA; simp only [Bool.and_eq_true] at hA; exact ⟨by simpa using hA.1, hA.2.1⟩
        obtain ⟨h0, hp⟩ := h12
        have hml : m + 2 ≤ maxLen := by unfold maxLen; omega
        have hby : (m + 2) * 88 ≤ 140737488355328 := by omega
        unfold maxLen at hc2
        rw [h0] at x0
        rw [hlen] at x6
        simp only [Nat.zero_mul, Nat.one_mul, Nat.add_zero, Nat.add_assoc, Nat.reduceAdd] at c0 c1 c2 c3 c4 c5 c6 d0 d1 d2 d3 d4 d5 d6
        have hgb : b ≠ g := by omega
        have hLf1 := hLf.1
        rw [him] at hLf1
        clear ha2 hL2 hpz hp' hz' h0 hlen hG2 hA HE hcells hKp hKz hKx hnC hFn hFf hFx hsub
        go_wp2_with fail
        refine startE 11 (fun w' => w'.cell? ⟨wr.heap.size, 6, none⟩ = some (.slice (some ⟨b, o, none⟩) 2 cu) ∧ w'.cell? ⟨b, o, none⟩ = some (.int .i64 p.k) ∧ w'.cell? ⟨b, o + 1, none⟩ = some (.int .i64 p.n) ∧ w'.cell? ⟨b, o + 2, none⟩ = some (.int .i64 p.v.k) ∧ w'.cell? ⟨b, o + 3, none⟩ = some (.int .i64 p.v.n) ∧ w'.cell? ⟨b, o + 4, none⟩ = some (.string p.v.s) ∧ w'.cell? ⟨b, o + 5, none⟩ = some (.string p.p) ∧ w'.cell? ⟨b, o + 6, none⟩ = some (.slice ap p.ks.length cp) ∧ w'.cell? ⟨b, o + 7, none⟩ = some (.int .i64 z.k) ∧ w'.cell? ⟨b, o + 8, none⟩ = some (.int .i64 z.n) ∧ w'.cell? ⟨b, o + 9, none⟩ = some (.int .i64 z.v.k) ∧ w'.cell? ⟨b, o + 10, none⟩ = some (.int .i64 z.v.n) ∧ w'.cell? ⟨b, o + 11, none⟩ = some (.string z.v.s) ∧ w'.cell? ⟨b, o + 12, none⟩ = some (.string z.p) ∧ w'.cell? ⟨b, o + 13, none⟩ = some (.slice az z.ks.length cz)) (by kernel_rfl) ?_ (fun hHeld => ?_)
        · (try dsimp only)
          exact ⟨by go_simp, (cell_blk (Below.heap_alloc wr _ _ hbr)).trans c0, (cell_blk (Below.heap_alloc wr _ _ hbr)).trans c1, (cell_blk (Below.heap_alloc wr _ _ hbr)).trans c2, (cell_blk (Below.heap_alloc wr _ _ hbr)).trans c3, (cell_blk (Below.heap_alloc wr _ _ hbr)).trans c4, (cell_blk (Below.heap_alloc wr _ _ hbr)).trans c5, (cell_blk (Below.heap_alloc wr _ _ hbr)).trans c6, (cell_blk (Below.heap_alloc wr _ _ hbr)).trans d0, (cell_blk (Below.heap_alloc wr _ _ hbr)).trans d1, (cell_blk (Below.heap_alloc wr _ _ hbr)).trans d2, (cell_blk (Below.heap_alloc wr _ _ hbr)).trans d3, (cell_blk (Below.heap_alloc wr _ _ hbr)).trans d4, (cell_blk (Below.heap_alloc wr _ _ hbr)).trans d5, (cell_blk (Below.heap_alloc wr _ _ hbr)).trans d6⟩
        refine takeE (i := 0) (d := 37) (v := ?_) rfl rfl (by kernel_rfl) (by kernel_rfl) (by kernel_rfl) (by kernel_rfl) (fun _ _ _ h => h) (by rfl) (by assumption) ?_ ?_
        rotate_left
        · intro w' hSw; (try dsimp only at hSw); go_simp; try exact rfl
        try simp only [List.setIfInBounds_toArray, List.set_cons_zero, List.set_cons_succ]
        refine takeE (i := 1) (d := 38) (v := ?_) rfl rfl (by kernel_rfl) (by kernel_rfl) (by kernel_rfl) (by kernel_rfl) (fun _ _ _ h => h) (by rfl) (by assumption) ?_ ?_
        rotate_left
        · intro w' hSw; (try dsimp only at hSw); go_simp; try exact rfl
        try simp only [List.setIfInBounds_toArray, List.set_cons_zero, List.set_cons_succ]
        refine takeE (i := 2) (d := 39) (v := ?_) rfl rfl (by kernel_rfl) (by kernel_rfl) (by kernel_rfl) (by kernel_rfl) (fun _ _ _ h => h) (by rfl) (by assumption) ?_ ?_
        rotate_left
        · intro w' hSw; (try dsimp only at hSw); go_simp; try exact rfl
        try simp only [List.setIfInBounds_toArray, List.set_cons_zero, List.set_cons_succ]
        refine takeE (i := 3) (d := 40) (v := ?_) rfl rfl (by kernel_rfl) (by kernel_rfl) (by kernel_rfl) (by kernel_rfl) (fun _ _ _ h => h) (by rfl) (by assumption) ?_ ?_
        rotate_left
        · intro w' hSw; (try dsimp only at hSw); go_simp; try exact rfl
        try simp only [List.setIfInBounds_toArray, List.set_cons_zero, List.set_cons_succ]
        refine takeE (i := 4) (d := 41) (v := ?_) rfl rfl (by kernel_rfl) (by kernel_rfl) (by kernel_rfl) (by kernel_rfl) (fun _ _ _ h => h) (by rfl) (by assumption) ?_ ?_
        rotate_left
        · intro w' hSw; (try dsimp only at hSw); go_simp; try exact rfl
        try simp only [List.setIfInBounds_toArray, List.set_cons_zero, List.set_cons_succ]
        refine takeE (i := 5) (d := 42) (v := ?_) rfl rfl (by kernel_rfl) (by kernel_rfl) (by kernel_rfl) (by kernel_rfl) (fun _ _ _ h => h) (by rfl) (by assumption) ?_ ?_
        rotate_left
        · intro w' hSw; (try dsimp only at hSw); go_simp; try exact rfl
        try simp only [List.setIfInBounds_toArray, List.set_cons_zero, List.set_cons_succ]
        refine takeE (i := 6) (d := 43) (v := ?_) rfl rfl (by kernel_rfl) (by kernel_rfl) (by kernel_rfl) (by kernel_rfl) (fun _ _ _ h => h) (by rfl) (by assumption) ?_ ?_
        rotate_left
        · intro w' hSw; (try dsimp only at hSw); go_simp; try exact rfl
        try simp only [List.setIfInBounds_toArray, List.set_cons_zero, List.set_cons_succ]
        refine takeE (i := 7) (d := 44) (v := ?_) rfl rfl (by kernel_rfl) (by kernel_rfl) (by kernel_rfl) (by kernel_rfl) (fun _ _ _ h => h) (by rfl) (by assumption) ?_ ?_
        rotate_left
        · intro w' hSw; (try dsimp only at hSw); go_simp; try exact rfl
        try simp only [List.setIfInBounds_toArray, List.set_cons_zero, List.set_cons_succ]
        refine takeE (i := 8) (d := 45) (v := ?_) rfl rfl (by kernel_rfl) (by kernel_rfl) (by kernel_rfl) (by kernel_rfl) (fun _ _ _ h => h) (by rfl) (by assumption) ?_ ?_
        rotate_left
        · intro w' hSw; (try dsimp only at hSw); go_simp; try exact rfl
        try simp only [List.setIfInBounds_toArray, List.set_cons_zero, List.set_cons_succ]
        refine oneE (i := 9) (by kernel_rfl) rfl (fun K hK => ?_)
        go_simp
        refine hK.out _ _ ?_ (fun hHeld9 => ?_)
        · intro _
          (try dsimp only)
          exact ⟨by go_simp, (cell_blk (Below.heap_alloc _ _ _ (by simp; omega))).trans ((cell_blk (Below.heap_alloc wr _ _ hbr)).trans c0), (cell_blk (Below.heap_alloc _ _ _ (by simp; omega))).trans ((cell_blk (Below.heap_alloc wr _ _ hbr)).trans c1), (cell_blk (Below.heap_alloc _ _ _ (by simp; omega))).trans ((cell_blk (Below.heap_alloc wr _ _ hbr)).trans c2), (cell_blk (Below.heap_alloc _ _ _ (by simp; omega))).trans ((cell_blk (Below.heap_alloc wr _ _ hbr)).trans c3), (cell_blk (Below.heap_alloc _ _ _ (by simp; omega))).trans ((cell_blk (Below.heap_alloc wr _ _ hbr)).trans c4), (cell_blk (Below.heap_alloc _ _ _ (by simp; omega))).trans ((cell_blk (Below.heap_alloc wr _ _ hbr)).trans c5), (cell_blk (Below.heap_alloc _ _ _ (by simp; omega))).trans ((cell_blk (Below.heap_alloc wr _ _ hbr)).trans c6), (cell_blk (Below.heap_alloc _ _ _ (by simp; omega))).trans ((cell_blk (Below.heap_alloc wr _ _ hbr)).trans d0), (cell_blk (Below.heap_alloc _ _ _ (by simp; omega))).trans ((cell_blk (Below.heap_alloc wr _ _ hbr)).trans d1), (cell_blk (Below.heap_alloc _ _ _ (by simp; omega))).trans ((cell_blk (Below.heap_alloc wr _ _ hbr)).trans d2), (cell_blk (Below.heap_alloc _ _ _ (by simp; omega))).trans ((cell_blk (Below.heap_alloc wr _ _ hbr)).trans d3), (cell_blk (Below.heap_alloc _ _ _ (by simp; omega))).trans ((cell_blk (Below.heap_alloc wr _ _ hbr)).trans d4), (cell_blk (Below.heap_alloc _ _ _ (by simp; omega))).trans ((cell_blk (Below.heap_alloc wr _ _ hbr)).trans d5), (cell_blk (Below.heap_alloc _ _ _ (by simp; omega))).trans ((cell_blk (Below.heap_alloc wr _ _ hbr)).trans d6)⟩
        clear hK
        replace hHeld9 := hHeld9 (by decide)
        try simp only [List.setIfInBounds_toArray, List.set_cons_zero, List.set_cons_succ]
        refine oneE (i := 10) (by kernel_rfl) rfl (fun K hK => ?_)
        refine step_append_lies _ (by rfl) _ _ _ (by rfl) (w.heap.size + 1) 33 i0 _ 7 88 Try.underlying31 hi hz0 hz1' hz2' rfl (by omega) (.slice (some ⟨g, 0, none⟩) m cap) m (ec us' init) (by rfl) (ownsE_keep (ownsE_keep hLf1 fun q hq => Below.heap_alloc _ _ _ (ownsE_lt hLf1 q hq).2) fun q hq => Below.heap_alloc _ _ _ (by have := (ownsE_lt hLf1 q hq).2; simp; omega)) ⟨wr.heap.size + 1, 0, none⟩ 2 2 [.int .i64 z.k, .int .i64 z.n, .int .i64 z.v.k, .int .i64 z.v.n, .string z.v.s, .string z.p, .slice az z.ks.length cz, .int .i64 p.k, .int .i64 p.n, .int .i64 p.v.k, .int .i64 p.v.n, .string p.v.s, .string p.p, .slice ap p.ks.length cp] (by rfl) (by rfl) (World.news_of_block (cs := #[.int .i64 z.k, .int .i64 z.n, .int .i64 z.v.k, .int .i64 z.v.n, .string z.v.s, .string z.p, .slice az z.ks.length cz, .int .i64 p.k, .int .i64 p.n, .int .i64 p.v.k, .int .i64 p.v.n, .string p.v.s, .string p.p, .slice ap p.ks.length cp]) (t := 33) (fr := (0, 0)) (heap_new1 _ (by simp) _)) (by simp [Value.oneCell']) (by omega) hml hby (by simp; omega) (wr.heap.size + 1 + 1) (by simp) ?_
        intro gg cap2 w4 hown4 hgrow hat hlt4
        have hz4 := hgrow.size
        simp at hz4
        have blk : ∀ q, q < wr.heap.size → q ≠ g → w4.heap[q]? = wr.heap[q]? := fun q hq hne => (hgrow.block q (by simp; omega) (by simp [Value.ownBlock]; exact hne)).trans ((Below.heap_alloc _ _ _ (by simp; omega)).trans (Below.heap_alloc _ _ _ hq))
        have bel4 : Below w.heap.size w w4 := Below.grown (((hb.alloc (by omega) _).alloc (by simp; omega) _).drew) hgrow (by simp; omega) (fun q hq => by simp [Value.ownBlock] at hq; omega)
        have bx4 : w4.cell? ⟨wr.heap.size, 6, none⟩ = some (.slice (some ⟨b, o, none⟩) 2 cu) := (hgrow.cell_far _ (by simp; omega) (by simp [Value.ownBlock]; omega)).trans (by go_simp)
        have fb : ∀ q, w4.cell? ⟨b, q, none⟩ = wr.cell? ⟨b, q, none⟩ := fun q => cell_blk (blk b hbr (by omega))
        refine hK.out _ _ ?_ (fun hHeld10 => ?_)
        · intro _
          (try dsimp only)
          exact ⟨bx4, (fb _).trans c0, (fb _).trans c1, (fb _).trans c2, (fb _).trans c3, (fb _).trans c4, (fb _).trans c5, (fb _).trans c6, (fb _).trans d0, (fb _).trans d1, (fb _).trans d2, (fb _).trans d3, (fb _).trans d4, (fb _).trans d5, (fb _).trans d6⟩
        clear hK
        replace hHeld10 := hHeld10 (by decide)
        try simp only [List.setIfInBounds_toArray, List.set_cons_zero, List.set_cons_succ]
        refine oneE (i := 11) (by kernel_rfl) rfl (fun K hK => ?_)
        go_simp
        refine hK.out _ _ ?_ (fun hHeld11 => ?_)
        · exact fun h => absurd rfl h
        clear hK hHeld11
        try simp only [List.setIfInBounds_toArray, List.set_cons_zero, List.set_cons_succ]
        refine doneE (by kernel_rfl) ?_ _
        have hE4 : ExpOwn w4 (w.heap.size + 1) (D + 1) u3 ps us G := hE.keepB (by omega) (fun q hq => blk q (ownsE_lt hE.own q hq).2 (fun h => hyz (h ▸ hq))) (fun q hq => blk q (hE.lt q hq) (fun h => hgG (h ▸ hq)))
        have hL4 : LfOwn w w4 (w.heap.size + 1) (D + 1) (.slice (some ⟨gg, 0, none⟩) (m + 2) cap2) (init ++ [z, p]) (us' ++ [.slice az z.ks.length cz, .slice ap p.ks.length cp]) := by
          refine ⟨?_, by simp [hLf.2.1], fun i e' u' he' hu' => ?_⟩
          · rw [ec_app hLf.2.1, List.length_append, him]
            exact hown4
          · by_cases hi' : i < init.length
            · rw [List.getElem?_append_left hi'] at he'
              rw [List.getElem?_append_left (by rw [hLf.2.1]; exact hi')] at hu'
              exact hLf.2.2 i e' u' he' hu'
            · rw [List.getElem?_append_right (by omega)] at he'
              rw [List.getElem?_append_right (by rw [hLf.2.1]; omega), hLf.2.1] at hu'
              match hj : i - init.length, he', hu' with
              | 0, he', hu' => simp at he' hu'; subst he' hu'; exact ⟨hzw, hKz0⟩
              | 1, he', hu' => simp at he' hu'; subst he' hu'; exact ⟨hpw, hKp0⟩
              | j + 2, he', _ => simp at he'
        have hd4 : gg ∉ G.flatten ∧ u3.ownBlock ≠ some gg := by
          rcases hat with h | h
          · simp [Value.ownBlock] at h
            subst h
            exact ⟨hgG, hyz⟩
          · subst h
            exact ⟨fun hq => by have := hE.lt _ hq; omega, fun hq => by have := (ownsE_lt hE.own _ hq).2; omega⟩
        clear hown4 hgrow hat blk bx4 fb hHeld hHeld9 hHeld10 hE hLf
        go_wp2
        go_roundg (wt1 (init ++ [z, p]))
        case measure => omega
        case rel => exact ⟨ps, us, G, init ++ [z, p], us' ++ [.slice az z.ks.length cz, .slice ap p.ks.length cp], hE4, hL4, fun q hq => by simp [Value.ownBlock] at hq; subst hq; exact hd4, HP, bel4, by omega, Nat.le_refl _⟩
end Go.Proofs.Ytpkebpbflfhbnaa
