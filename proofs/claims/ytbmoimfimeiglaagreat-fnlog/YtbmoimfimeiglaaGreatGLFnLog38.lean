/- Own texts, joined: contracts that the law's proof goes by. -/
import Derived.Test.YtbmoimfimeiglaaGreatGLFnLog31
import Derived.Test.YtbmoimfimeiglaaGreatGLFnLog7
import Derived.Test.YtbmoimfimeiglaaGreatGLFnLog17
import Derived.Handy
import Derived.Deep.RegionHeld3
import Derived.Test.YtbmoimfimeiglaaGreatGLFnLog35
namespace Go.Proofs.YtbmoimfimeiglaaGreat
open Go.RowKit Go.Deep
set_option linter.unusedVariables false
theorem RelOwn.keepF {w w' : World} {N : Nat} {v : Value} {rs : List R3} {us : List Value} {G : List (List Nat)} (h : RelOwn w N v rs us G) (hs : w.heap.size ≤ w'.heap.size) (hv : ∀ b, v.ownBlock = some b → w'.heap[b]? = w.heap[b]?) (hk : ∀ b ∈ G.flatten, w'.heap[b]? = w.heap[b]?) : RelOwn w' N v rs us G :=
  ⟨ownsRow_keep h.own hv, h.ul, h.gl, fun i x u g hx hu hg => (h.row i x u g hx hu hg).keep hs fun b hbg => hk b (List.mem_flatten.2 ⟨g, List.mem_of_getElem? hg, hbg⟩), h.free.keep hk, h.out⟩
structure Lr (w : World) (N P : Nat) (u : Value) (rs : List R3) (us : List Value) (G : List (List Nat)) : Prop where
  le : N ≤ P
  blk : w.heap[P]? = some (.cells #[u] 156 (0, 0))
  own : RelOwn w N u rs us G
  out : P ∉ G.flatten
section
variable {w w' : World} {N P : Nat} {u : Value} {rs : List R3} {us : List Value} {G : List (List Nat)}
theorem Lr.lt (h : Lr w N P u rs us G) : P < w.heap.size := heap_lt h.blk
theorem Lr.keep (h : Lr w N P u rs us G) (hs : w.heap.size ≤ w'.heap.size) (hb : ∀ b, N ≤ b → b < w.heap.size → w'.heap[b]? = w.heap[b]?) : Lr w' N P u rs us G :=
  ⟨h.le, (hb P h.le h.lt).trans h.blk, h.own.keep hs hb, h.out⟩
theorem Lr.kc {C E : Nat} (h : Lr w N P u rs us G) (hk : Kc C E w w') (hC : C < N) (hE : E < N) : Lr w' N P u rs us G := h.keep hk.size fun b h1 h2 => hk.block b h2 (by omega) (by omega)
theorem Lr.below (h : Lr w N P u rs us G) (hb : Below w.heap.size w w') : Lr w' N P u rs us G := h.keep hb.size fun b _ h2 => hb.block b h2
end
theorem infoR5 : (Tryz.prog.info? 73).map (fun i => (i.zero, i.size, i.bytes)) = some (some (.agg #[.string ⟨#[]⟩, .int .i64 0, .slice none 0 0]), 3, 48) := by kernel_rfl
set_option maxHeartbeats 2000000 in
set_option maxRecDepth 100000 in
theorem radd_any (N P : Nat) (u v : Value) (rs : List R3) (us : List Value) (G : List (List Nat)) (x : R3) (g : List Nat) (b0 : Nat) (w : World) (h : Lr w N P u rs us G) (hx : w.heap[b0]? = some (.cells #[.string x.s, .int .i64 x.W, v] 73 (0, 0)))
    (hR : RowsF w v x.cs g) (hO : Own w N g) (hd1 : ∀ b ∈ G.flatten, b ∉ g) (hd2 : ∀ b, u.ownBlock = some b → b ∉ g) (hd3 : P ∉ g) (hlen : rs.length ≤ 100000) :
    Calls Tryz.prog 99 #[.pointer (some ⟨P, 0, none⟩), .slice (some ⟨b0, 0, none⟩) 1 1] w fun e w' => e = .returned (.tuple #[]) ∧ (∃ u' us' G', Lr w' N P u' (rs ++ [x]) us' G') ∧ Below N w w' := by
  obtain ⟨i0, hi, hz0, hz1, hz2⟩ := info_parts infoR5
  have hlt := h.lt
  obtain ⟨hle, hbk, hown, hout⟩ := h
  have hne := own_typ hown.own hbk (by decide)
  have c0 : w.cell? ⟨P, 0, none⟩ = some u := by rw [Lib.cell_of_heap hbk]; rfl
  have ho := hown.own
  have hvs : ∃ a c, v = .slice a x.cs.length c := by
    obtain ⟨a, c, _, h1, _⟩ := hR
    exact ⟨a, c, h1⟩
  obtain ⟨va, vc, rfl⟩ := hvs
  go_enter Tryz.func99, Tryz.ntmps99
  go_wp2_with (at_builtin; refine wpList_append_own_at _ rfl _ _ 25 rfl N 73 i0 _ 3 48 Tryz.underlying25 hi hz0 hz1 hz2 rfl (by decide) _ _ _ rfl ho ⟨b0, 0, none⟩ 1 1 [.string x.s, .int .i64 x.W, .slice va x.cs.length vc] rfl (by simp) ?c1 ?c2 ?c3 ?c4 ?c5 ?_)
  case c1 => exact World.news_of_block (cs := #[.string x.s, .int .i64 x.W, .slice va x.cs.length vc]) (t := 73) (fr := (0, 0)) hx
  case c2 => simp [Value.oneCell']
  case c3 => unfold maxLen; omega
  case c4 => omega
  case c5 => omega
  intro v' w2 hown' hgrow _ hat
  have hbP : w2.heap[P]? = some (.cells #[u] 156 (0, 0)) := (hgrow.block P hlt (fun e => hne e.symm)).trans hbk
  have d0 : w2.cell? ⟨P, 0, none⟩ = some u := by rw [Lib.cell_of_heap hbP]; rfl
  have f0 : w2.frozen? ⟨P, 0, none⟩ = false := Lib.frozen_of_heap hbP 0
  have hne' := own_typ hown' hbP (by decide)
  have HB : Hid (Below N w w2) := (Below.refl N w).grown hgrow (by omega) (fun k hk => (ho.lt k hk).1)
  have hp := RelOwn.push (x := x) hown hR hO hd1 hd2 hown' hgrow (fun b hb => by
    rcases hat with e | e
    · left; rw [← e]; exact hb
    · right; rw [e] at hb; cases hb; exact Nat.le_refl _)
  have HP : Hid (RelOwn w2 N v' (rs ++ [x]) (us ++ [.slice va x.cs.length vc]) (G ++ [g])) := hp
  have hs : ∃ ao n' cap, v' = .slice ao n' cap := by
    rcases hown'.2 with ⟨hv, _⟩ | ⟨g, cap, cur, hv, _⟩ <;> exact ⟨_, _, _, hv⟩
  obtain ⟨ao, n', cap, rfl⟩ := hs
  clear hgrow hown hp ho hown' hat hR hO
  go_wp2
  go_end0
  have hPo : P ∉ (G ++ [g]).flatten := by simp only [List.flatten_append, List.mem_append, not_or]; exact ⟨hout, by simpa using hd3⟩
  refine ⟨rfl, ⟨_, _, _, hle, by rw [set_blk hbP]; rfl, HP.out.keepF (by simp) (fun b hv => Below.heap_setCell _ _ _ _ (by rintro rfl; exact hne' hv)) (fun b hb => Below.heap_setCell _ _ _ _ (by rintro rfl; exact hPo hb)), hPo⟩, HB.out.setCell (p := ⟨P, 0, none⟩) hle _⟩
set_option maxHeartbeats 2000000 in
set_option maxRecDepth 100000 in
theorem rall_any (N P : Nat) (u : Value) (rs : List R3) (us : List Value) (G : List (List Nat)) (w : World) (h : Lr w N P u rs us G) :
    Calls Tryz.prog 100 #[.pointer (some ⟨P, 0, none⟩)] w fun e w' => e = .returned u ∧ w' = w := by
  have c0 : w.cell? ⟨P, 0, none⟩ = some u := by rw [Lib.cell_of_heap h.blk]; rfl
  obtain ⟨ao, n', rfl⟩ := h.own.shape
  go_enter Tryz.func100, Tryz.ntmps100
  go_wp2
  go_returns
  exact ⟨rfl, rfl⟩
set_option maxHeartbeats 4000000 in
set_option maxRecDepth 100000 in
theorem sevR_any (C E cap : Nat) (s : ByteArray) (q : Nat × Bool) (xs : List Int) (e : Nat) (w : World) (h : Ct w C E cap s q (xs ++ [(e : Int)])) (hr : xs.length + 2 ≤ cap) (hq : q.1 ≤ e) (he : e ≤ s.size) (hs : s.size ≤ 1048576) (hl : xs.length ≤ 10000) :
    Calls Tryz.prog 68 #[.pointer (some ⟨C, 0, none⟩), .func (.func 69) #[.pointer (some ⟨C, 0, none⟩)] #[]] w fun r w' => ∃ u us G, r = .returned u ∧ RelOwn w' w.heap.size u (rln s e (nm s e 1 q).2 (nm s e 1 q).1.toNat).1 us G ∧ Ct w' C E cap s (rln s e (nm s e 1 q).2 (nm s e 1 q).1.toNat).2 (xs ++ [(e : Int)]) ∧ Kc C E w w' := by
  have hln : (xs ++ [(e : Int)]).length + 1 ≤ cap := by simp; omega
  have hbd := nm_bd (s := s) (k := 1) he hq (by omega)
  have hb1 := nm_bd1 (s := s) he hq
  have hn : (nm s e 1 q).1 = ((nm s e 1 q).1.toNat : Int) := by omega
  have hCl := h.ltC
  have hEl := h.ltE
  go_enter Tryz.func68, Tryz.ntmps68
  go_wp2_with fail
  refine Calls.mono (cnum_any C E cap s q xs e 1 _ (h.below (bex)) hq he (by omega) hs hl) ?_
  rintro r w1 ⟨rfl, hT⟩
  obtain ⟨hC1, hK1⟩ := hT.room hln
  rw [hn]
  have hq1 : (nm s e 1 q).2.1 ≤ e := nm_at hq
  have hm : (nm s e 1 q).1.toNat ≤ 255 := by omega
  have hL1 : Lr w1 w.heap.size w.heap.size (.slice none 0 0) [] [] [] := by
    refine ⟨Nat.le_refl _, ?_, ⟨⟨rfl, .inl ⟨rfl, rfl⟩⟩, rfl, rfl, fun i x u g hx => by simp at hx, by simp [Own, Free], fun b _ => by simp⟩, by simp⟩
    exact (hK1.block _ (by simp) (by omega) (by omega)).trans (heap_alloc_new w _)
  have hKw : Kc C E w w1 := (Kc.of_below (bex)).trans hK1 (.inl rfl)
  clear hn hT hK1 h
  generalize hN : (nm s e 1 q).1.toNat = n at *
  generalize hQ : (nm s e 1 q).2 = q1 at *
  go_wp2_with fail
  go_loopw [9] (fun i wr => ∃ (k : Nat) (u : Value) (us : List Value) (G : List (List Nat)), k ≤ n ∧ i = .int .i64 k ∧ Ct wr C E cap s (rln s e q1 k).2 (xs ++ [(e : Int)]) ∧ Lr wr w.heap.size w.heap.size u (rln s e q1 k).1 us G ∧ Kc C E w wr) (fun i _ => n - (intOf i).toNat)
  case atStart => exact ⟨0, _, _, _, Nat.zero_le _, rfl, hC1, hL1, hKw⟩
  case round =>
    clear hC1 hL1 hKw
    obtain ⟨k, u, us, G, hk, rfl, hC, hL, hK⟩ := hrel
    by_cases hlt : k < n
    · have hqk : (rln s e q1 k).2.1 ≤ e := rln_at hq1 k
      have hcl : (rln s e q1 k).1.length = k := rln_len k
      have HN : Hid (rln s e q1 (k + 1) = ((rln s e q1 k).1 ++ [(rl s e (rln s e q1 k).2).1], (rl s e (rln s e q1 k).2).2)) := rfl
      have hGl := hL.own.lt
      have hul := ownsRow_lt hL.own.own
      have hPl := hL.lt
      go_wp2_with (first | (go_at_call 69; with_reducible refine Calls.mono (crel_any C E cap s _ xs e _ hC hr hqk he hs hl) ?_) | fail)
      rintro r w2 ⟨v2, us2, G2, rfl, hBag, hC2, hK2⟩
      obtain ⟨F2, hF2, hO2⟩ := hBag.rowsF
      obtain ⟨a2, c2, rfl⟩ := hBag.shape
      have hL2 := hL.kc hK2 hCl hEl
      have hK3 := hK.trans hK2 (.inl rfl)
      have hzr := hK.size
      clear hC hL hK hK2 hBag
      generalize (rl s e (rln s e q1 k).2).1 = X at *
      go_wp2_with (first | (go_at_call 99; with_reducible refine Calls.mono (radd_any w.heap.size w.heap.size u (.slice a2 X.cs.length c2) _ us G X F2 w2.heap.size _ (hL2.below (bex)) (heap_alloc_new w2 _) (hF2.below (bex)) ?o1 ?o2 ?o3 ?o4 ?o5) ?_) | fail)
      case o1 => exact ⟨hO2.1, fun b hb => Nat.le_trans hzr (hO2.2.1 b hb), fun b hb i => (frozen_blk (Below.heap_alloc _ _ _ (hF2.lt b hb))).trans (hO2.2.2 b hb i)⟩
      case o2 => intro b hb hb2; have := hO2.2.1 b hb2; have := hGl b hb; omega
      case o3 => intro b hb hb2; have := hO2.2.1 b hb2; have := (hul b hb).2; omega
      case o4 => intro hb2; have := hO2.2.1 _ hb2; omega
      case o5 => omega
      rintro r w3 ⟨rfl, ⟨u3, us3, G3, hL3⟩, hb3⟩
      have hbA : Below w2.heap.size w2 (w2.alloc (.cells #[.string X.s, .int .i64 X.W, .slice a2 X.cs.length c2] 73)) := bex
      have hC3 : Ct w3 C E cap s (rln s e q1 (k + 1)).2 (xs ++ [(e : Int)]) := by
        have h1 := hC2.below hbA
        rw [HN.out]
        exact h1.keep (hb3.block C hCl) (hb3.block E hEl)
      have hK4 : Kc C E w w3 := (hK3.trans (Kc.of_below hbA) (.inl rfl)).above hb3
      have hL4 : Lr w3 w.heap.size w.heap.size u3 (rln s e q1 (k + 1)).1 us3 G3 := by rw [HN.out]; exact hL3
      clear hC2 hL2 hL3 hb3 hbA hK3 HN hGl hul hF2 hO2
      go_wp2_with fail
      exact ⟨⟨k + 1, u3, us3, G3, hlt, by simp, hC3, hL4, hK4⟩, by simp [intOf]; omega⟩
    · obtain rfl : k = n := by omega
      go_wp2_with (first | (go_at_call 100; with_reducible refine Calls.mono (rall_any w.heap.size w.heap.size u _ us G _ hL) ?_) | fail)
      rintro r w2 ⟨rfl, hw2⟩
      obtain rfl : wr = w2 := hw2.symm
      go_wp2
      go_returns
      have ho := hL.own
      subst hQ hN
      exact ⟨u, us, G, rfl, ho, hC, hK⟩
end Go.Proofs.YtbmoimfimeiglaaGreat
namespace Go.Proofs.YtbmoimfimeiglaaGreat
open Go.RowKit Go.Deep
set_option linter.unusedVariables false
set_option maxHeartbeats 2000000 in
set_option maxRecDepth 100000 in
theorem push_nil (C : Nat) (s : ByteArray) (x : Int) (w : World) (hbk : w.heap[C]? = some (.cells #[.string s, .int .i64 0, .slice none 0 0, .bool false] 60 (0, 0))) :
    Calls Tryz.prog 57 #[.pointer (some ⟨C, 2, none⟩), .int .i64 x] w fun e w' => e = .returned (.tuple #[]) ∧ ∃ E cap, Ct w' C E cap s (0, false) [x] ∧ Kc C C w w' ∧ w.heap.size ≤ E := by
  obtain ⟨i0, hi, hz0, hz1, hz2⟩ := info_parts Tryz.infoInt
  have c2 : w.cell? ⟨C, 2, none⟩ = some (.slice none 0 0) := by rw [Lib.cell_of_heap hbk]; rfl
  have hltC := heap_lt hbk
  have hownA : (w.alloc (.cells #[.int .i64 x] 3)).ownsRow 0 3 1 (.slice none 0 0) 0 [] := World.ownsRow_nil _ _ _ _
  go_enter Tryz.func57, Tryz.ntmps57
  go_wp2_with (at_builtin; refine wpList_append_own_at _ rfl _ _ 56 rfl 0 3 i0 (.int .i64 0) 1 8 Tryz.underlying56 hi hz0 hz1 hz2 rfl (by decide) _ _ _ rfl hownA ⟨w.heap.size, 0, none⟩ 1 1 [.int .i64 x] rfl (by simp) (cell_one_new _ _ _) ?c2 ?c3 ?c4 ?c5 ?_)
  case c2 => intro y hy; rcases List.mem_singleton.1 hy with rfl; rfl
  case c3 => unfold maxLen; omega
  case c4 => omega
  case c5 => omega
  intro v' w2 hown' hgrow _ hat
  have hs : ∃ E' cap', v' = .slice (some ⟨E', 0, none⟩) (0 + 1) cap' := by
    rcases hown'.2 with ⟨_, h0⟩ | ⟨g, cap', cur, hv, _⟩
    · omega
    · exact ⟨g, cap', hv⟩
  obtain ⟨E', cap', rfl⟩ := hs
  have hE : w.heap.size ≤ E' := by
    rcases hat with e | e
    · simp [Value.ownBlock] at e
    · have := Option.some.inj e; simp at this; omega
  have hbC : w2.heap[C]? = some (.cells #[.string s, .int .i64 0, .slice none 0 0, .bool false] 60 (0, 0)) := by
    refine (hgrow.block C (by simp; omega) (by simp [Value.ownBlock])).trans ?_
    rw [heap_alloc_old w _ hltC]; exact hbk
  have d2 : w2.cell? ⟨C, 2, none⟩ = some (.slice none 0 0) := by rw [Lib.cell_of_heap hbC]; rfl
  have f2 : w2.frozen? ⟨C, 2, none⟩ = false := Lib.frozen_of_heap hbC 2
  have HC : Hid (Ct (w2.setCell ⟨C, 2, none⟩ (.slice (some ⟨E', 0, none⟩) (0 + 1) cap')) C E' cap' s (0, false) [x] ∧ Kc C C w (w2.setCell ⟨C, 2, none⟩ (.slice (some ⟨E', 0, none⟩) (0 + 1) cap'))) := by
    refine ⟨⟨by rw [set_blk hbC]; rfl, ownsRow_keep hown' fun b hv => by cases hv; exact Below.heap_setCell _ _ _ _ (by intro e; dsimp only at e; omega)⟩, ?_⟩
    have hz := hgrow.size
    simp at hz
    refine Kc.setCell (show Kc C C w w2 from ⟨hgrow.os, hgrow.tape, hgrow.output, by omega, fun k hk h1 h2 => ?_⟩) 2 _
    exact (hgrow.block k (by simp; omega) (by simp [Value.ownBlock])).trans (heap_alloc_old w _ hk)
  clear hown' hgrow hownA hat hbk hbC
  go_wp2
  go_end0
  exact ⟨rfl, E', cap', HC.out.1, HC.out.2, hE⟩
set_option maxHeartbeats 2000000 in
set_option maxRecDepth 100000 in
theorem cutterOf_any (s : ByteArray) (w : World) (hs : s.size ≤ 1048576) :
    Calls Tryz.prog 25 #[.string s] w fun e w' => e = .returned (.pointer (some ⟨w.heap.size, 0, none⟩)) ∧ ∃ E cap, Ct w' w.heap.size E cap s (0, false) [(s.size : Int)] ∧ Below w.heap.size w w' ∧ w.heap.size ≤ E := by
  go_enter Tryz.func25, Tryz.ntmps25
  go_wp2_with (first | (go_at_call 57; with_reducible refine Calls.mono (push_nil w.heap.size s s.size _ (heap_alloc_new w _)) ?_) | fail)
  rintro r w1 ⟨rfl, E, cap, hC, hK, hE⟩
  have hb : Below w.heap.size w w1 := ⟨hK.os, hK.tape, hK.output, by have := hK.size; simp at this; omega, fun k hk => (hK.block k (by simp; omega) (by omega) (by omega)).trans (heap_alloc_old w _ hk)⟩
  have hE' : w.heap.size ≤ E := by simp at hE; omega
  clear hK hE
  go_wp2
  go_returns
  exact ⟨rfl, E, cap, hC, hb, hE'⟩
end Go.Proofs.YtbmoimfimeiglaaGreat
