/- Own texts, joined: contracts that the law's proof goes by. -/
import Derived.Test.YtbmoimfimeiglaaGreatGLFnLog41
import Derived.Test.YtbmoimfimeiglaaGreatGLFnLog38
import Derived.Handy
import Derived.Test.YtbmoimfimeiglaaGreatGLFnLog40
import Derived.Test.YtbmoimfimeiglaaGreatGLFnLog7
import Derived.Deep.RegionHeld3
namespace Go.Proofs.YtbmoimfimeiglaaGreat
open Go.RowKit Go.Deep
set_option linter.unusedVariables false
theorem StsOwn.keepF {w w' : World} {N : Nat} {v : Value} {rs : List T5} {us : List (Value × Value)} {G : List (List Nat)} (h : StsOwn w N v rs us G) (hs : w.heap.size ≤ w'.heap.size) (hv : ∀ b, v.ownBlock = some b → w'.heap[b]? = w.heap[b]?) (hk : ∀ b ∈ G.flatten, w'.heap[b]? = w.heap[b]?) : StsOwn w' N v rs us G :=
  ⟨ownsRow_keep h.own hv, h.ul, h.gl, fun i x u g hx hu hg => (h.row i x u g hx hu hg).keep hs fun b hbg => hk b (List.mem_flatten.2 ⟨g, List.mem_of_getElem? hg, hbg⟩), h.free.keep hk, h.out⟩
structure Lt (w : World) (N P : Nat) (u : Value) (rs : List T5) (us : List (Value × Value)) (G : List (List Nat)) : Prop where
  le : N ≤ P
  blk : w.heap[P]? = some (.cells #[u] 52 (0, 0))
  own : StsOwn w N u rs us G
  out : P ∉ G.flatten
def LtIn (P : Nat) (u : Value) (G : List (List Nat)) (b : Nat) : Prop := b = P ∨ u.ownBlock = some b ∨ b ∈ G.flatten
section
variable {w w' : World} {N P : Nat} {u : Value} {rs : List T5} {us : List (Value × Value)} {G : List (List Nat)}
theorem Lt.lt (h : Lt w N P u rs us G) : P < w.heap.size := heap_lt h.blk
theorem Lt.inLt (h : Lt w N P u rs us G) : ∀ b, LtIn P u G b → N ≤ b ∧ b < w.heap.size := by
  rintro b (rfl | hb | hb)
  · exact ⟨h.le, h.lt⟩
  · exact ownsRow_lt h.own.own b hb
  · exact ⟨h.own.free.2.1 b hb, h.own.lt b hb⟩
theorem Lt.keepF (h : Lt w N P u rs us G) (hs : w.heap.size ≤ w'.heap.size) (hb : ∀ b, LtIn P u G b → w'.heap[b]? = w.heap[b]?) : Lt w' N P u rs us G :=
  ⟨h.le, (hb P (.inl rfl)).trans h.blk, h.own.keepF hs (fun b hv => hb b (.inr (.inl hv))) (fun b hv => hb b (.inr (.inr hv))), h.out⟩
theorem Lt.below (h : Lt w N P u rs us G) (hb : Below w.heap.size w w') : Lt w' N P u rs us G := h.keepF hb.size fun b hI => hb.block b (h.inLt b hI).2
end
theorem infoT5 : (Tryz.prog.info? 27).map (fun i => (i.zero, i.size, i.bytes)) = some (some (.agg #[.int .i64 0, .string ⟨#[]⟩, .slice none 0 0, .string ⟨#[]⟩, .slice none 0 0]), 5, 88) := by kernel_rfl
set_option maxHeartbeats 4000000 in
set_option maxRecDepth 100000 in
theorem tadd_any (N P : Nat) (u : Value) (ac ar : Option Addr) (nc cc nr cr : Nat) (rs : List T5) (us : List (Value × Value)) (G : List (List Nat)) (x : T5) (g : List Nat) (b0 : Nat) (w : World) (h : Lt w N P u rs us G) (hx : w.heap[b0]? = some (.cells #[.int .i64 x.k, .string x.s, .slice ac nc cc, .string x.q, .slice ar nr cr] 27 (0, 0)))
    (hR : StpF w (.slice ac nc cc, .slice ar nr cr) x g) (hO : Own w N g) (hd1 : ∀ b ∈ G.flatten, b ∉ g) (hd2 : ∀ b, u.ownBlock = some b → b ∉ g) (hd3 : P ∉ g) (hlen : rs.length ≤ 200000) :
    Calls Tryz.prog 28 #[.pointer (some ⟨P, 0, none⟩), .slice (some ⟨b0, 0, none⟩) 1 1] w fun e w' => e = .returned (.tuple #[]) ∧ (∃ u' us', Lt w' N P u' (rs ++ [x]) us' (G ++ [g]) ∧ (∀ b, u'.ownBlock = some b → u.ownBlock = some b ∨ w.heap.size ≤ b)) ∧ Below N w w' ∧ (∀ b, b < w.heap.size → b ≠ P → u.ownBlock ≠ some b → w'.heap[b]? = w.heap[b]?) := by
  obtain ⟨i0, hi, hz0, hz1, hz2⟩ := info_parts infoT5
  have hlt := h.lt
  obtain ⟨hle, hbk, hown, hout⟩ := h
  have hne := own_typ hown.own hbk (by decide)
  have c0 : w.cell? ⟨P, 0, none⟩ = some u := by rw [Lib.cell_of_heap hbk]; rfl
  have ho := hown.own
  go_enter Tryz.func28, Tryz.ntmps28
  go_wp2_with (at_builtin; refine wpList_append_own_at _ rfl _ _ 30 rfl N 27 i0 _ 5 88 Tryz.underlying30 hi hz0 hz1 hz2 rfl (by decide) _ _ _ rfl ho ⟨b0, 0, none⟩ 1 1 [.int .i64 x.k, .string x.s, .slice ac nc cc, .string x.q, .slice ar nr cr] rfl (by simp) ?c1 ?c2 ?c3 ?c4 ?c5 ?_)
  case c1 => exact World.news_of_block (cs := #[.int .i64 x.k, .string x.s, .slice ac nc cc, .string x.q, .slice ar nr cr]) (t := 27) (fr := (0, 0)) hx
  case c2 => simp [Value.oneCell']
  case c3 => unfold maxLen; omega
  case c4 => omega
  case c5 => omega
  intro v' w2 hown' hgrow _ hat
  have hbP : w2.heap[P]? = some (.cells #[u] 52 (0, 0)) := (hgrow.block P hlt (fun e => hne e.symm)).trans hbk
  have d0 : w2.cell? ⟨P, 0, none⟩ = some u := by rw [Lib.cell_of_heap hbP]; rfl
  have f0 : w2.frozen? ⟨P, 0, none⟩ = false := Lib.frozen_of_heap hbP 0
  have hne' := own_typ hown' hbP (by decide)
  have HB : Hid (Below N w w2) := (Below.refl N w).grown hgrow (by omega) (fun k hk => (ho.lt k hk).1)
  have hat' : ∀ b, v'.ownBlock = some b → u.ownBlock = some b ∨ w.heap.size ≤ b := fun b hb => by
    rcases hat with e | e
    · left; rw [← e]; exact hb
    · right; rw [e] at hb; cases hb; exact Nat.le_refl _
  have hp := StsOwn.push (u := (.slice ac nc cc, .slice ar nr cr)) (x := x) hown hR hO hd1 hd2 hown' hgrow hat'
  have HP : Hid (StsOwn w2 N v' (rs ++ [x]) (us ++ [(.slice ac nc cc, .slice ar nr cr)]) (G ++ [g])) := hp
  have HK : Hid (∀ b, b < w.heap.size → u.ownBlock ≠ some b → w2.heap[b]? = w.heap[b]?) := fun b hb hne => hgrow.block b hb (fun e => hne e.symm)
  have HA : Hid (∀ b, v'.ownBlock = some b → u.ownBlock = some b ∨ w.heap.size ≤ b) := hat'
  have hs : ∃ ao n' cap, v' = .slice ao n' cap := by
    rcases hown'.2 with ⟨hv, _⟩ | ⟨g, cap, cur, hv, _⟩ <;> exact ⟨_, _, _, hv⟩
  obtain ⟨ao, n', cap, rfl⟩ := hs
  clear hgrow hown hp ho hown' hat hR hO hat'
  go_wp2
  go_end0
  have hPo : P ∉ (G ++ [g]).flatten := by simp only [List.flatten_append, List.mem_append, not_or]; exact ⟨hout, by simpa using hd3⟩
  refine ⟨rfl, ⟨_, _, ⟨hle, by rw [set_blk hbP]; rfl, HP.out.keepF (by simp) (fun b hv => Below.heap_setCell _ _ _ _ (by rintro rfl; exact hne' hv)) (fun b hb => Below.heap_setCell _ _ _ _ (by rintro rfl; exact hPo hb)), hPo⟩, HA.out⟩, HB.out.setCell (p := ⟨P, 0, none⟩) hle _, fun b hb h1 h2 => (Below.heap_setCell _ _ _ _ (by simpa using h1)).trans (HK.out b hb h2)⟩
set_option maxHeartbeats 4000000 in
set_option maxRecDepth 100000 in
theorem tall_any (N P : Nat) (u : Value) (rs : List T5) (us : List (Value × Value)) (G : List (List Nat)) (w : World) (h : Lt w N P u rs us G) :
    Calls Tryz.prog 27 #[.pointer (some ⟨P, 0, none⟩)] w fun e w' => e = .returned u ∧ w' = w := by
  have c0 : w.cell? ⟨P, 0, none⟩ = some u := by rw [Lib.cell_of_heap h.blk]; rfl
  obtain ⟨ao, n', rfl⟩ := h.own.shape
  go_enter Tryz.func27, Tryz.ntmps27
  go_wp2
  go_returns
  exact ⟨rfl, rfl⟩
end Go.Proofs.YtbmoimfimeiglaaGreat
namespace Go.Proofs.YtbmoimfimeiglaaGreat
open Go.RowKit Go.Deep
set_option linter.unusedVariables false
theorem rl_new (w : World) {n : Nat} (h : w.heap.size = n) (o : Obj) : (w.alloc o).heap[n]? = some o := by subst h; exact heap_alloc_new w o
def RlOut (s : ByteArray) (w : World) (r : Ending) (w' : World) : Prop := (∃ v us G, r = .returned (.tuple #[v, .int .i64 (rlE s)]) ∧ StsOwn w' w.heap.size v (rlT s) us G) ∧ Below w.heap.size w w'
theorem StsOwn.nil' (w : World) (N : Nat) : StsOwn w N (.slice none 0 0) [] [] [] := ⟨⟨rfl, .inl ⟨rfl, rfl⟩⟩, rfl, rfl, fun i x u g hx => by simp at hx, by simp [Own, Free], fun b _ => by simp⟩
structure RlW (s : ByteArray) (w wr : World) (C P k a : Nat) (ts : List T5) (us : List (Value × Value)) (G : List (List Nat)) (u : Value) (E cap : Nat) : Prop where
  inv : RlInv s k a ts
  ct : Ct wr C E cap s (a, false) [(s.size : Int)]
  lt : Lt wr w.heap.size P u ts us G
  far : ∀ b, LtIn P u G b → b ≠ C ∧ b ≠ E
  cw : w.heap.size ≤ C
  ew : w.heap.size ≤ E
  bel : Below w.heap.size w wr
section
variable {s : ByteArray} {w wr w1 : World} {C P k a : Nat} {ts : List T5} {us : List (Value × Value)} {G : List (List Nat)} {u : Value} {E cap : Nat}
theorem RlW.size (h : RlW s w wr C P k a ts us G u E cap) : w.heap.size ≤ wr.heap.size := h.bel.size
theorem RlW.lt1 (h : RlW s w wr C P k a ts us G u E cap) (hK : Kc C E wr w1) : Lt w1 w.heap.size P u ts us G := h.lt.keepF hK.size fun b hb => hK.block b (h.lt.inLt b hb).2 (h.far b hb).1 (h.far b hb).2
theorem RlW.bel1 (h : RlW s w wr C P k a ts us G u E cap) (hK : Kc C E wr w1) : Below w.heap.size w w1 := h.bel.trans (hK.below h.cw h.ew h.size)
theorem RlW.stop (h : RlW s w wr C P k a ts us G u E cap) (hs : s.size ≤ 100000) (ho : okM s a = false) : rlT s = ts ∧ rlE s = a := by
  obtain ⟨h1, h2⟩ := h.inv.stop ho
  unfold rlT rlE
  rw [if_pos hs, if_pos hs]
  exact ⟨h1.symm, h2.symm⟩
theorem RlW.next {w2 w3 : World} {M E' cap' : Nat} {g F : List Nat} {uc ur u' : Value} {us' : List (Value × Value)} (h : RlW s w wr C P k a ts us G u E cap) (ho : okM s a = true) (hK : Kc C E wr w1) (hO : StpOwn w1 M uc ur (lX s a) g F) (hM : wr.heap.size < M)
    (hC : Ct w1 C E' cap' s (lN s a, false) [(s.size : Int)]) (hE : E' = E ∨ wr.heap.size ≤ E') (hEM : E' < M) (hb2 : Below w1.heap.size w1 w2)
    (hL : Lt w3 w.heap.size P u' (ts ++ [lX s a]) us' (G ++ [g ++ F])) (hu : ∀ b, u'.ownBlock = some b → u.ownBlock = some b ∨ w2.heap.size ≤ b) (hb3 : Below w.heap.size w2 w3) (hk3 : ∀ b, b < w2.heap.size → b ≠ P → u.ownBlock ≠ some b → w3.heap[b]? = w2.heap[b]?) :
    ∃ k', RlW s w w3 C P k' (lN s a) (ts ++ [lX s a]) us' (G ++ [g ++ F]) u' E' cap' := by
  obtain ⟨k', hi⟩ := h.inv.next ho
  have hz := h.size
  have hz1 := hK.size
  have hz2 := hb2.size
  have hCl := hC.ltC
  have hEl := hC.ltE
  have hCr : C < wr.heap.size := h.ct.ltC
  have hin := h.lt.inLt
  have hfar := h.far
  have nP : ∀ b, LtIn P u G b → b ≠ C ∧ b ≠ E' := fun b hb => ⟨(hfar b hb).1, by
    rcases hE with rfl | hE
    · exact (hfar b hb).2
    · have := (hin b hb).2; omega⟩
  have kC : w3.heap[C]? = w1.heap[C]? := (hk3 C (by omega) (fun e => (nP P (.inl rfl)).1 e.symm) (fun e => (nP C (.inr (.inl e))).1 rfl)).trans (hb2.block C (by omega))
  have kE : w3.heap[E']? = w1.heap[E']? := (hk3 E' (by omega) (fun e => (nP P (.inl rfl)).2 e.symm) (fun e => (nP E' (.inr (.inl e))).2 rfl)).trans (hb2.block E' (by omega))
  refine ⟨k', hi, hC.keep kC kE, hL, ?_, h.cw, ?_, ?_⟩
  · rintro b (rfl | hb | hb)
    · exact nP b (.inl rfl)
    · rcases hu b hb with hb | hb
      · exact nP b (.inr (.inl hb))
      · constructor <;> omega
    · rw [List.flatten_append] at hb
      rcases List.mem_append.1 hb with hb | hb
      · exact nP b (.inr (.inr hb))
      · have hb' : b ∈ g ++ F := by simpa using hb
        have : M ≤ b := (hO.weakF).2 b hb'
        constructor <;> omega
  · rcases hE with rfl | hE
    · exact h.ew
    · omega
  · exact ((h.bel1 hK).trans (hb2.mono (by omega))).trans hb3
end
set_option maxHeartbeats 4000000 in
set_option maxRecDepth 100000 in
theorem implReadLog_any (s : ByteArray) (w : World) (hs : s.size ≤ 1048576) :
    Calls Tryz.prog 6 #[.string s] w fun r w' => RlOut s w r w' := by
  by_cases hbig : 100000 < s.size
  · have hbI : (100000 : Int) < s.size := by omega
    have HR : Hid (rlT s = [] ∧ rlE s = 0) := by
      show _ ∧ _
      unfold rlT rlE
      rw [if_neg (by omega), if_neg (by omega)]
      exact ⟨rfl, rfl⟩
    clear hbig
    go_enter Tryz.func6, Tryz.ntmps6
    go_wp2
    go_returns
    refine ⟨⟨.slice none 0 0, [], [], ?_, ?_⟩, Below.refl _ _⟩
    · rw [HR.out.2]; rfl
    · rw [HR.out.1]; exact StsOwn.nil' _ _
  have hsm : s.size ≤ 100000 := by omega
  have hsI : decide ((100000 : Int) < s.size) = false := by simp; omega
  clear hbig
  go_enter Tryz.func6, Tryz.ntmps6
  go_wp2_with (first | (go_at_call 25; with_reducible refine Calls.mono (cutterOf_any s _ hs) ?_) | fail)
  rintro r w1 ⟨rfl, E, cap, hC, hb1, hE⟩
  have hz1 := hb1.size
  have hCl := hC.ltC
  have hEl := hC.ltE
  have bal : Below w1.heap.size w1 (w1.alloc (.cells #[.slice none 0 0] 52)) := (Below.refl _ _).alloc (Nat.le_refl _) _
  have hW : RlW s w (w1.alloc (.cells #[.slice none 0 0] 52)) w.heap.size w1.heap.size s.size 0 [] [] [] (.slice none 0 0) E cap := by
    refine ⟨RlInv.start s, hC.below bal, ⟨hz1, heap_alloc_new w1 _, StsOwn.nil' _ _, by simp⟩, ?_, Nat.le_refl _, hE, hb1.trans (bal.mono hz1)⟩
    rintro b (rfl | hb | hb)
    · constructor <;> omega
    · simp [Value.ownBlock] at hb
    · simp at hb
  clear bal hC hb1
  go_wp2_with fail
  go_loopw [6] (fun e wr => ∃ (k a : Nat) (ts : List T5) (us : List (Value × Value)) (G : List (List Nat)) (u : Value) (E cap : Nat), e = .int .i64 a ∧ RlW s w wr w.heap.size w1.heap.size k a ts us G u E cap) (fun e _ => s.size - (intOf e).toNat)
  case atStart => exact ⟨_, 0, _, _, _, _, _, _, rfl, hW⟩
  case round =>
    clear hW hE hEl
    obtain ⟨k, a, ts, us, G, u, E, cap, rfl, hW⟩ := hrel
    have ha := hW.inv.at'
    have hlen := hW.inv.len
    have hO := ok_same ha
    go_wp2_with (first | (go_at_call 26; with_reducible refine Calls.mono (entry_any _ E cap s a _ hW.ct ha hs) ?_) | fail)
    rintro r w2 ⟨x, ac, ar, nc, cc, nr, cr, rfl, hK, hY⟩
    have hz2 := hK.size
    have hzr := hW.size
    have hPl := hW.lt.lt
    cases hok : okI s a
    · have hM : okM s a = false := by rw [← hO.1]; exact hok
      obtain ⟨eT, eE⟩ := hW.stop hsm hM
      have hL2 := hW.lt1 hK
      have hB2 := hW.bel1 hK
      have HR : Hid (rlT s = ts ∧ rlE s = a) := ⟨eT, eE⟩
      obtain ⟨ua, uc', rfl⟩ := hL2.own.shape
      clear hW hK hY hO eT eE hM
      go_wp2_with (first | (go_at_call 27; with_reducible refine Calls.mono (tall_any w.heap.size _ _ ts us G _ (hL2.below (bex))) ?_; rintro r w3 ⟨rfl, rfl⟩) | fail)
      go_returns
      have bal : Below w2.heap.size w2 (w2.alloc (.cells #[.int .i64 x.k, .string x.s, .slice ac nc cc, .string x.q, .slice ar nr cr] 27)) := (Below.refl _ _).alloc (Nat.le_refl _) _
      exact ⟨⟨_, us, G, by rw [HR.out.2]; rfl, by rw [HR.out.1]; exact (hL2.below bal).own⟩, hB2.trans (bal.mono (by omega))⟩
    · have hOM : okM s a = true := by rw [← hO.1]; exact hok
      obtain ⟨hx, M, g, F, E', cap', hO2, hM, hC2, hE2, hEM⟩ := hY hok
      obtain ⟨ex, eN⟩ := hO.2 hOM
      obtain rfl : x = lX s a := hx.trans ex
      rw [show lE s a = lN s a from eN] at hC2
      obtain ⟨hN1, hN2, _⟩ := okM_at hOM
      have hL2 := hW.lt1 hK
      obtain ⟨hS2, hOw2⟩ := hO2.stpF
      have hin := hW.lt.inLt
      have hge : ∀ b ∈ g ++ F, M ≤ b := hO2.weakF.2
      have HAdd : Hid (∀ (wz : World) (b0 : Nat), Below w2.heap.size w2 wz → wz.heap[b0]? = some (.cells #[.int .i64 (lX s a).k, .string (lX s a).s, .slice ac nc cc, .string (lX s a).q, .slice ar nr cr] 27 (0, 0)) → Calls Tryz.prog 28 #[.pointer (some ⟨w1.heap.size, 0, none⟩), .slice (some ⟨b0, 0, none⟩) 1 1] wz fun e w' => e = .returned (.tuple #[]) ∧ ∃ k' us' u', RlW s w w' w.heap.size w1.heap.size k' (lN s a) (ts ++ [lX s a]) us' (G ++ [g ++ F]) u' E' cap') := by
        intro wz b0 hz hx0
        have hOz := hOw2.below hS2.lt hz
        refine (tadd_any w.heap.size w1.heap.size u ac ar nc cc nr cr ts us G (lX s a) (g ++ F) b0 wz (hL2.below hz) hx0 (hS2.below hz) ⟨hOz.1, fun b hb => by have := hge b hb; omega, hOz.2.2⟩ (fun b hb hb2 => by have := hge b hb2; have := (hin b (.inr (.inr hb))).2; omega) (fun b hb hb2 => by have := hge b hb2; have := (hin b (.inr (.inl hb))).2; omega) (fun hb2 => by have := hge _ hb2; have := (hin _ (.inl rfl)).2; omega) (by omega)).mono ?_
        rintro e w3 ⟨rfl, ⟨u', us', hL3, hu3⟩, hb3, hk3⟩
        obtain ⟨k', hW'⟩ := hW.next hOM hK hO2 hM hC2 hE2 hEM hz hL3 hu3 hb3 hk3
        exact ⟨rfl, k', us', u', hW'⟩
      clear hW hK hY hO hx ex eN hO2 hC2 hL2 hS2 hOw2 hin hge hOM
      go_wp2_with (first | (go_at_call 28; with_reducible refine Calls.mono (HAdd.out _ _ (bex) (rl_new _ (by simp) _)) ?_) | fail)
      rintro r w3 ⟨rfl, k', us', u', hW'⟩
      have c1 := hW'.ct.cells.2.1
      dsimp only at c1
      have hCl3 := hW'.ct.ltC
      clear HAdd
      go_wp2
      exact ⟨⟨k', lN s a, _, us', _, u', E', cap', rfl, hW'⟩, by simp [intOf]; omega⟩
end Go.Proofs.YtbmoimfimeiglaaGreat
