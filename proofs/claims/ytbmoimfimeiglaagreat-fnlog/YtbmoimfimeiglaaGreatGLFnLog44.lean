/- Own texts, joined: contracts that the law's proof goes by. -/
import Derived.Test.YtbmoimfimeiglaaGreatGLFnLog43
import Derived.Test.YtbmoimfimeiglaaGreatGLFnLog7
import Derived.Test.YtbmoimfimeiglaaGreatGLFnLog24
import Derived.Handy
import Derived.Test.YtbmoimfimeiglaaGreatGLFnLog4
import Derived.Deep.AppendLies
import Derived.Deep.DeepCutAuto
namespace Go.Proofs.YtbmoimfimeiglaaGreat
open Go.RowKit Go.Deep Go.ChangeShapes Go.WideShapes
set_option linter.unusedVariables false
theorem putC_mem {cs : List C2} {row : List V3} {n : Int} : ∀ c ∈ putC cs row n, c ∈ cs ∨ (c.r = row ∧ (c.n = n ∨ ∃ c' ∈ cs, c.n = n + c'.n)) := by
  intro c hc
  unfold putC at hc
  have mid : ∀ (i : Nat), c ∈ cs.take i ++ ⟨row, n⟩ :: cs.drop i → c ∈ cs ∨ (c.r = row ∧ (c.n = n ∨ ∃ c' ∈ cs, c.n = n + c'.n)) := fun i h => by
    rcases List.mem_append.1 h with h | h
    · exact .inl (List.mem_of_mem_take h)
    · rcases List.mem_cons.1 h with rfl | h
      · exact .inr ⟨rfl, .inl rfl⟩
      · exact .inl (List.mem_of_mem_drop h)
  split at hc
  · rename_i c0 h0
    split at hc
    · rename_i h1
      have e := (cmpRow_0 _ _).1 h1
      split at hc
      · rcases List.mem_or_eq_of_mem_set hc with h | rfl
        · exact .inl h
        · exact .inr ⟨e, .inr ⟨c0, List.mem_of_getElem? h0, rfl⟩⟩
      · rcases List.mem_append.1 hc with h | h
        · exact .inl (List.mem_of_mem_take h)
        · exact .inl (List.mem_of_mem_drop h)
    · split at hc
      · exact mid _ hc
      · exact .inl hc
  · split at hc
    · exact mid _ hc
    · exact .inl hc
theorem putC_len (cs : List C2) (row : List V3) (n : Int) : (putC cs row n).length ≤ cs.length + 1 := by
  unfold putC
  have hl := ahead_le cs row
  split
  · split
    · split
      · simp
      · simp; omega
    · split
      · simp; omega
      · omega
  · split
    · simp; omega
    · omega
structure BgI (W M : Nat) (cs : List C2) : Prop where
  asc : Asc cs
  nz : ∀ c ∈ cs, c.n ≠ 0
  num : ∀ c ∈ cs, -(M : Int) ≤ c.n ∧ c.n ≤ M
  row : ∀ c ∈ cs, c.r.length = W ∧ VsOk c.r
  len : cs.length ≤ M
theorem BgI.nil (W : Nat) : BgI W 0 [] := ⟨by simp [Asc], fun c h => (by cases h), fun c h => (by cases h), fun c h => (by cases h), by simp⟩
theorem BgI.put {W M : Nat} {cs : List C2} {row : List V3} {n : Int} (h : BgI W M cs) (hr : row.length = W ∧ VsOk row) (h0 : -3 ≤ n) (h1 : n ≤ 3) : BgI W (M + 3) (putC cs row n) := by
  obtain ⟨p1, p2, _⟩ := put_all row n h.asc h.nz
  refine ⟨p1, p2, fun c hc => ?_, fun c hc => ?_, ?_⟩
  · rcases putC_mem c hc with hc | ⟨_, e | ⟨c', hc', e⟩⟩
    · have := h.num c hc; omega
    · omega
    · have := h.num c' hc'; omega
  · rcases putC_mem c hc with hc | ⟨e, _⟩
    · exact h.row c hc
    · rw [e]; exact hr
  · have := putC_len cs row n
    have := h.len
    omega
theorem BgI.up {W M M' : Nat} {cs : List C2} (h : BgI W M cs) (hM : M ≤ M') : BgI W M' cs := ⟨h.asc, h.nz, fun c hc => by have := h.num c hc; omega, h.row, Nat.le_trans h.len hM⟩
theorem bag2 {w : World} {b : Nat} {a0 a1 : Value} {t : TypeId} (h : w.heap[b]? = some (.cells #[a0, a1] t (0, 0))) : w.cell? ⟨b, 0, none⟩ = some a0 ∧ w.cell? ⟨b, 1, none⟩ = some a1 ∧ ∀ i, w.frozen? ⟨b, i, none⟩ = false :=
  ⟨by rw [Lib.cell_of_heap h]; rfl, by rw [Lib.cell_of_heap h]; rfl, fun i => Lib.frozen_of_heap h i⟩
theorem set2 {w : World} {b : Nat} {a0 a1 : Value} {t : TypeId} (h : w.heap[b]? = some (.cells #[a0, a1] t (0, 0))) (b0 b1 : Value) : ((w.setCell ⟨b, 0, none⟩ b0).setCell ⟨b, 1, none⟩ b1).heap[b]? = some (.cells #[b0, b1] t (0, 0)) := by
  simp [World.setCell, Array.getElem?_modify, h]
theorem far2 {w : World} {b k : Nat} (b0 b1 : Value) (hk : k ≠ b) : ((w.setCell ⟨b, 0, none⟩ b0).setCell ⟨b, 1, none⟩ b1).heap[k]? = w.heap[k]? := by
  rw [Below.heap_setCell _ _ _ _ (by simpa using hk), Below.heap_setCell _ _ _ _ (by simpa using hk)]
theorem Drew.cellsB {w w' : World} {B : Nat} {v : Value} {l : Nat} (h : Drew B v l w w') {b : Nat} {o : Obj} (hb : w.heap[b]? = some o) (hne : b ≠ B) : w'.heap[b]? = some o := by
  have hlt : b < w.heap.size := by
    rcases Nat.lt_or_ge b w.heap.size with h' | h'
    · exact h'
    · simp [Array.getElem?_eq_none h'] at hb
  exact (h.old hlt hne).trans hb
theorem RrO.at {w : World} {N : Nat} {ay : Option Addr} {cy : Nat} {rs : List (List V3)} {us : List Value} (h : RrO w N (.slice ay rs.length cy) rs us) {k : Nat} (hk : k < rs.length) :
    ∃ yb r u g, ay = some ⟨yb, 0, none⟩ ∧ N ≤ yb ∧ yb < w.heap.size ∧ rs[k]? = some r ∧ w.cell? ⟨yb, k, none⟩ = some u ∧ RowF w u r g ∧ Own w N g ∧ rs.length ≤ cy ∧ cy ≤ maxLen := by
  obtain ⟨u, e2⟩ : ∃ u, us[k]? = some u := ⟨us[k]'(by rw [h.ul]; exact hk), by simp⟩
  obtain ⟨g, h1, h2, _⟩ := h.row k rs[k] u (by simp [hk]) e2
  have hlt := ownsRow_lt h.own
  rcases h.own.2 with ⟨_, h0⟩ | ⟨yb, cap, cur, e, hg, hc, hn, hm, _, ht⟩
  · omega
  · injection e with e1 _ e3
    subst e1 e3
    refine ⟨yb, rs[k], u, g, rfl, hg, (hlt yb rfl).2, by simp [hk], ?_, h1, h2, hn, hm⟩
    rw [Lib.cell_of_heap hc, ← Array.getElem?_toList]
    rw [← ht, List.getElem?_take] at e2
    split at e2
    · exact e2
    · cases e2
structure BgW (w w2 wr : World) (B : Nat) (v : Value) (l W : Nat) (u : Value) (cs : List C2) (us : List Value) (G : List (List Nat)) : Prop where
  X : wr.heap[w.heap.size + 1]? = some (.cells #[.int .i64 W, u] 71 (0, 0))
  R : wr.heap[w.heap.size]? = some (.cells #[.int .i64 0, .slice none 0 0] 71 (0, 0))
  own : BagOwn wr w2.heap.size u cs us G
  D : Drew B v l w wr
  z : w2.heap.size ≤ wr.heap.size
  kp : ∀ b, b < w2.heap.size → b ≠ B → b ≠ w.heap.size + 1 → wr.heap[b]? = w2.heap[b]?
theorem BgW.drew {w w2 wr wn : World} {B : Nat} {v : Value} {l W : Nat} {u : Value} {cs : List C2} {us : List Value} {G : List (List Nat)} (h : BgW w w2 wr B v l W u cs us G) (hd : Drew B v l wr wn) (hB : B < w.heap.size) (hw : w.heap.size + 1 < w2.heap.size) : BgW w w2 wn B v l W u cs us G := by
  have hz := h.z
  exact ⟨hd.cellsB h.X (by omega), hd.cellsB h.R (by omega), h.own.keep hd.chg.size fun b h1 h2 => hd.old h2 (by omega), h.D.trans hd, Nat.le_trans hz hd.chg.size, fun b h1 h2 h3 => (hd.old (by omega) h2).trans (h.kp b h1 h2 h3)⟩
theorem BgW.put {w w2 wr w5 : World} {B : Nat} {v : Value} {l W : Nat} {u u5 : Value} {cs P : List C2} {us us5 : List Value} {G G5 : List (List Nat)} (h : BgW w w2 wr B v l W u cs us G) (hw : w.heap.size + 1 < w2.heap.size) (hB5 : BagOwn w5 w2.heap.size u5 P us5 G5) (hb5 : Below w2.heap.size wr w5) :
    BgW w w2 ((w5.setCell ⟨w.heap.size + 1, 0, none⟩ (.int .i64 W)).setCell ⟨w.heap.size + 1, 1, none⟩ u5) B v l W u5 P us5 G5 := by
  have hz := h.z
  have hz5 := hb5.size
  refine ⟨set2 ((hb5.block _ hw).trans h.X) _ _, (far2 _ _ (by omega)).trans ((hb5.block _ (by omega)).trans h.R), hB5.keep (by simp) (fun b h1 h2 => far2 _ _ (by omega)), ((h.D.up (hb5.mono (by omega))).set (p := ⟨w.heap.size + 1, 0, none⟩) (by simp) _).set (p := ⟨w.heap.size + 1, 1, none⟩) (by simp) _, by simp; omega, fun b h1 h2 h3 => (far2 _ _ h3).trans ((hb5.block b h1).trans (h.kp b h1 h2 h3))⟩
set_option maxHeartbeats 4000000 in
set_option maxRecDepth 100000 in
theorem l02Bag_any (B : Nat) (v : Value) (l : Nat) (W : Nat) (minus : Bool) (w : World) (h : Cur w B v l) (hW : W ≤ 100) :
    Calls Tryz.prog 84 #[.pointer (some ⟨B, 0, none⟩), .int .i64 W, .bool minus] w fun e w' => (∃ (u : Value) (cs : List C2) (us : List Value) (G : List (List Nat)), e = .returned (.agg #[.int .i64 W, u]) ∧ BgI W 30 cs ∧ BagOwn w' w.heap.size u cs us G) ∧ Drew B v l w w' := by
  have hBl := h.lt
  have bal : Below w.heap.size w ((w.alloc (.cells #[.int .i64 0, .slice none 0 0] 71)).alloc (.cells #[.int .i64 W, .slice none 0 0] 71)) := ((Below.refl _ _).alloc (Nat.le_refl _) _).alloc (by simp) _
  have hD0 := h.start.below bal
  have hR0 : ((w.alloc (.cells #[.int .i64 0, .slice none 0 0] 71)).alloc (.cells #[.int .i64 W, .slice none 0 0] 71)).heap[w.heap.size]? = some (.cells #[.int .i64 0, .slice none 0 0] 71 (0, 0)) := (Below.heap_alloc _ _ _ (by simp)).trans (heap_alloc_new w _)
  have hX0 : ((w.alloc (.cells #[.int .i64 0, .slice none 0 0] 71)).alloc (.cells #[.int .i64 W, .slice none 0 0] 71)).heap[w.heap.size + 1]? = some (.cells #[.int .i64 W, .slice none 0 0] 71 (0, 0)) := by
    have h := heap_alloc_new (w.alloc (.cells #[.int .i64 0, .slice none 0 0] 71)) (.cells #[.int .i64 W, .slice none 0 0] 71)
    rwa [World.size_alloc] at h
  clear h bal
  go_enter Tryz.func84, Tryz.ntmps84
  go_wp2_with fail
  generalize (w.alloc (.cells #[.int .i64 0, .slice none 0 0] 71)).alloc (.cells #[.int .i64 W, .slice none 0 0] 71) = wa at *
  refine Calls.mono (l01Below_any 6 B v l wa hD0.cur (by omega) (by omega)) ?_
  rintro e w1 ⟨⟨m, rfl, m0, m1⟩, hd1⟩
  have hR1 := hd1.cellsB hR0 (by omega)
  have hX1 := hd1.cellsB hX0 (by omega)
  have hD1 := hD0.trans hd1
  obtain ⟨mn, rfl⟩ : ∃ mn : Nat, m = mn := ⟨m.toNat, by omega⟩
  clear hR0 hX0 hD0 hd1
  go_wp2_with fail
  refine Calls.mono (l02Rows_any B v l W mn w1 hD1.cur hW (by omega)) ?_
  rintro e w2 ⟨⟨y, rs, ru, rfl, rfl, hro, hRr⟩, hd2⟩
  have hR2 := hd2.cellsB hR1 (by omega)
  have hX2 := hd2.cellsB hX1 (by omega)
  have hD2 := hD1.trans hd2
  have hz1 := hD1.chg.size
  have hX1l : w.heap.size + 1 < w1.heap.size := by
    rcases Nat.lt_or_ge (w.heap.size + 1) w1.heap.size with h' | h'
    · exact h'
    · simp [Array.getElem?_eq_none h'] at hX1
  have hz2 := hd2.chg.size
  obtain ⟨ay, cy, rfl⟩ := ret_slice hRr.own
  have hX2l : w.heap.size + 1 < w2.heap.size := by
    rcases Nat.lt_or_ge (w.heap.size + 1) w2.heap.size with h' | h'
    · exact h'
    · simp [Array.getElem?_eq_none h'] at hX2
  clear hR1 hX1 hD1 hd2
  go_wp2_with fail
  go_loopw [9] (fun i wr => ∃ (k : Nat) (u : Value) (cs : List C2) (us : List Value) (G : List (List Nat)), k ≤ rs.length ∧ i = .int .i64 k ∧ BgI W (3 * k) cs ∧ BgW w w2 wr B v l W u cs us G) (fun i _ => rs.length - (intOf i).toNat)
  case atStart => exact ⟨0, .slice none 0 0, [], [], [], Nat.zero_le _, rfl, BgI.nil W, ⟨hX2, hR2, BagOwn.nil _ _, hD2, Nat.le_refl _, fun b _ _ _ => rfl⟩⟩
  case round =>
    clear hR2 hX2 hD2
    obtain ⟨k, u, cs, us, G, hk, rfl, hI, hS⟩ := hrel
    by_cases hlt : k < rs.length
    · obtain ⟨yb, r, ur, g, rfl, hyN, hyl, hrk, hcell, hrf, hgo, hlc, hcm⟩ := hRr.at hlt
      have hgg := hgo.2.1
      obtain ⟨ra, rc', rfl⟩ := hrf.shapeX
      unfold maxLen at hcm
      have HRow : Hid (r.length = W ∧ VsOk r) := hro r (List.mem_of_getElem? hrk)
      have hcn : ∀ c ∈ cs, -4000000000000000000 ≤ c.n ∧ c.n ≤ 4000000000000000000 := fun c hc => by have := hI.num c hc; omega
      have hcl : cs.length ≤ 2097152 := by have := hI.len; omega
      have hrn : r.length ≤ 1048576 := by have := HRow.out.1; omega
      have hkI : (k : Int) < rs.length := by omega
      clear hRr hro
      go_wp2_with fail
      refine Calls.mono (l01Below_any 3 B v l wr hS.D.cur (by omega) (by omega)) ?_
      rintro e w3 ⟨⟨x, rfl, x0, x1⟩, hd3⟩
      replace hS := hS.drew hd3 hBl hX2l
      clear hd3
      cases minus
      · obtain ⟨au, cu, rfl⟩ := hS.own.shape
        obtain ⟨p0, p1, pf⟩ := bag2 hS.X
        have hXl : w.heap.size + 1 < w3.heap.size := by have := hS.z; omega
        have kY := hS.kp yb hyl (by omega) (by omega)
        have c0 := (cell_blk (o := k) kY).trans hcell
        have hRF := hrf.keep (by have := hS.z; omega : w2.heap.size ≤ w3.heap.size) fun b hb => hS.kp b (hrf.lt b hb) (by have := hgg b hb; omega) (by have := hgg b hb; omega)
        have hYl : yb < w3.heap.size := by have := hS.z; omega
        go_wp2_with fail
        refine startE 7 (fun w' => w'.cell? ⟨w.heap.size + 1, 0, none⟩ = some (.int .i64 W) ∧ w'.cell? ⟨w.heap.size + 1, 1, none⟩ = some (.slice au cs.length cu) ∧ w'.cell? ⟨yb, k, none⟩ = some (.slice ra r.length rc')) (by kernel_rfl) ?_ (fun hHeld => ?_)
        · (try dsimp only)
          exact ⟨p0, p1, c0⟩
        refine tkE (i := 0) (d := 34) (v := ?_) rfl rfl ?_ ?_
        rotate_left
        · intro w' hSw; (try dsimp only at hSw); go_simp; try exact rfl
        try simp only [List.setIfInBounds_toArray, List.set_cons_zero, List.set_cons_succ]
        refine tkE (i := 1) (d := 35) (v := ?_) rfl rfl ?_ ?_
        rotate_left
        · intro w' hSw; (try dsimp only at hSw); go_simp; try exact rfl
        try simp only [List.setIfInBounds_toArray, List.set_cons_zero, List.set_cons_succ]
        refine tkE (i := 2) (d := 36) (v := ?_) rfl rfl ?_ ?_
        rotate_left
        · intro w' hSw; (try dsimp only at hSw); go_simp; try exact rfl
        try simp only [List.setIfInBounds_toArray, List.set_cons_zero, List.set_cons_succ]
        refine tkE (i := 3) (d := 37) (v := ?_) rfl rfl ?_ ?_
        rotate_left
        · intro w' hSw; (try dsimp only at hSw); go_simp; try exact rfl
        try simp only [List.setIfInBounds_toArray, List.set_cons_zero, List.set_cons_succ]
        refine tkE (i := 4) (d := 38) (v := ?_) rfl rfl ?_ ?_
        rotate_left
        · intro w' hSw; (try dsimp only at hSw); go_simp; try exact rfl
        try simp only [List.setIfInBounds_toArray, List.set_cons_zero, List.set_cons_succ]
        refine tkE (i := 5) (d := 39) (v := ?_) rfl rfl ?_ ?_
        rotate_left
        · intro w' hSw; (try dsimp only at hSw); go_simp; try exact rfl
        try simp only [List.setIfInBounds_toArray, List.set_cons_zero, List.set_cons_succ]
        refine oneE (i := 6) (by kernel_rfl) rfl (fun K hK => ?_)
        go_simp
        go_at_call 85
        refine Calls.mono (l02Put_any W (1 + x) (.slice au cs.length cu) (.slice ra r.length rc') cs us G r g w2.heap.size _ (hS.own.below (bex)) (hRF.belowX (bex)) hI.asc (by first | exact hS.z | (simp; exact hS.z)) hcl hrn (by omega) (by omega) hcn _ rfl) ?_
        rintro e w5 ⟨u5, us5, G5, rfl, hB5, _, _, hb5, _⟩
        obtain ⟨a5, c5, rfl⟩ := hB5.shape
        have hb5' : Below w2.heap.size w3 w5 := ⟨hb5.os, hb5.tape, hb5.output, hb5.size, hb5.block⟩
        have p05 := (cell_blk (hb5'.block (w.heap.size + 1) (by omega))).trans p0
        have p15 := (cell_blk (hb5'.block (w.heap.size + 1) (by omega))).trans p1
        have pf5 : ∀ q, w5.frozen? ⟨w.heap.size + 1, q, none⟩ = false := fun q => (frozen_blk (hb5'.block (w.heap.size + 1) (by omega))).trans (pf q)
        have c05 := (cell_blk (hb5'.block yb (by omega))).trans c0
        have hz5 : w3.heap.size ≤ w5.heap.size := hb5'.size
        try go_wp2_with fail
        refine hK.out _ _ ?_ (fun hHeld6 => ?_)
        · intro _
          (try dsimp only)
          exact ⟨p05, p15, c05⟩
        clear hK
        replace hHeld6 := hHeld6 (by decide)
        try simp only [List.setIfInBounds_toArray, List.set_cons_zero, List.set_cons_succ]
        refine oneE (i := 7) (by kernel_rfl) rfl (fun K hK => ?_)
        go_simp
        refine hK.out _ _ ?_ (fun hHeld7 => ?_)
        · exact fun h => absurd rfl h
        clear hK hHeld7
        try simp only [List.setIfInBounds_toArray, List.set_cons_zero, List.set_cons_succ]
        refine doneE (by kernel_rfl) ?_ _
        have hS5 := hS.put hX2l hB5 hb5'
        have hI5 : BgI W (3 * (k + 1)) (putC cs r (1 + x)) := (hI.put HRow.out (by omega) (by omega)).up (by omega)
        clear hS hB5 hb5 hb5' p05 p15 pf5 c05 hI hRF p0 p1 pf c0
        go_wp2
        exact ⟨⟨k + 1, _, _, _, _, hlt, by simp, hI5, hS5⟩, by simp [intOf]; omega⟩
      · go_wp2_with fail
        refine Calls.mono (l01Once_any 3 B v l w3 hS.D.cur (by omega) (by omega)) ?_
        rintro e w4 ⟨⟨bb, rfl⟩, hd4⟩
        replace hS := hS.drew hd4 hBl hX2l
        clear hd4
        obtain ⟨au, cu, rfl⟩ := hS.own.shape
        obtain ⟨p0, p1, pf⟩ := bag2 hS.X
        have hXl : w.heap.size + 1 < w4.heap.size := by have := hS.z; omega
        have kY := hS.kp yb hyl (by omega) (by omega)
        have c0 := (cell_blk (o := k) kY).trans hcell
        have hRF := hrf.keep (by have := hS.z; omega : w2.heap.size ≤ w4.heap.size) fun b hb => hS.kp b (hrf.lt b hb) (by have := hgg b hb; omega) (by have := hgg b hb; omega)
        have hYl : yb < w4.heap.size := by have := hS.z; omega
        cases bb
        · go_wp2_with fail
          refine startE 7 (fun w' => w'.cell? ⟨w.heap.size + 1, 0, none⟩ = some (.int .i64 W) ∧ w'.cell? ⟨w.heap.size + 1, 1, none⟩ = some (.slice au cs.length cu) ∧ w'.cell? ⟨yb, k, none⟩ = some (.slice ra r.length rc')) (by kernel_rfl) ?_ (fun hHeld => ?_)
          · (try dsimp only)
            exact ⟨p0, p1, c0⟩
          refine tkE (i := 0) (d := 34) (v := ?_) rfl rfl ?_ ?_
          rotate_left
          · intro w' hSw; (try dsimp only at hSw); go_simp; try exact rfl
          try simp only [List.setIfInBounds_toArray, List.set_cons_zero, List.set_cons_succ]
          refine tkE (i := 1) (d := 35) (v := ?_) rfl rfl ?_ ?_
          rotate_left
          · intro w' hSw; (try dsimp only at hSw); go_simp; try exact rfl
          try simp only [List.setIfInBounds_toArray, List.set_cons_zero, List.set_cons_succ]
          refine tkE (i := 2) (d := 36) (v := ?_) rfl rfl ?_ ?_
          rotate_left
          · intro w' hSw; (try dsimp only at hSw); go_simp; try exact rfl
          try simp only [List.setIfInBounds_toArray, List.set_cons_zero, List.set_cons_succ]
          refine tkE (i := 3) (d := 37) (v := ?_) rfl rfl ?_ ?_
          rotate_left
          · intro w' hSw; (try dsimp only at hSw); go_simp; try exact rfl
          try simp only [List.setIfInBounds_toArray, List.set_cons_zero, List.set_cons_succ]
          refine tkE (i := 4) (d := 38) (v := ?_) rfl rfl ?_ ?_
          rotate_left
          · intro w' hSw; (try dsimp only at hSw); go_simp; try exact rfl
          try simp only [List.setIfInBounds_toArray, List.set_cons_zero, List.set_cons_succ]
          refine tkE (i := 5) (d := 39) (v := ?_) rfl rfl ?_ ?_
          rotate_left
          · intro w' hSw; (try dsimp only at hSw); go_simp; try exact rfl
          try simp only [List.setIfInBounds_toArray, List.set_cons_zero, List.set_cons_succ]
          refine oneE (i := 6) (by kernel_rfl) rfl (fun K hK => ?_)
          go_simp
          go_at_call 85
          refine Calls.mono (l02Put_any W (1 + x) (.slice au cs.length cu) (.slice ra r.length rc') cs us G r g w2.heap.size _ (hS.own.below (bex)) (hRF.belowX (bex)) hI.asc (by first | exact hS.z | (simp; exact hS.z)) hcl hrn (by omega) (by omega) hcn _ rfl) ?_
          rintro e w5 ⟨u5, us5, G5, rfl, hB5, _, _, hb5, _⟩
          obtain ⟨a5, c5, rfl⟩ := hB5.shape
          have hb5' : Below w2.heap.size w4 w5 := ⟨hb5.os, hb5.tape, hb5.output, hb5.size, hb5.block⟩
          have p05 := (cell_blk (hb5'.block (w.heap.size + 1) (by omega))).trans p0
          have p15 := (cell_blk (hb5'.block (w.heap.size + 1) (by omega))).trans p1
          have pf5 : ∀ q, w5.frozen? ⟨w.heap.size + 1, q, none⟩ = false := fun q => (frozen_blk (hb5'.block (w.heap.size + 1) (by omega))).trans (pf q)
          have c05 := (cell_blk (hb5'.block yb (by omega))).trans c0
          have hz5 : w4.heap.size ≤ w5.heap.size := hb5'.size
          try go_wp2_with fail
          refine hK.out _ _ ?_ (fun hHeld6 => ?_)
          · intro _
            (try dsimp only)
            exact ⟨p05, p15, c05⟩
          clear hK
          replace hHeld6 := hHeld6 (by decide)
          try simp only [List.setIfInBounds_toArray, List.set_cons_zero, List.set_cons_succ]
          refine oneE (i := 7) (by kernel_rfl) rfl (fun K hK => ?_)
          go_simp
          refine hK.out _ _ ?_ (fun hHeld7 => ?_)
          · exact fun h => absurd rfl h
          clear hK hHeld7
          try simp only [List.setIfInBounds_toArray, List.set_cons_zero, List.set_cons_succ]
          refine doneE (by kernel_rfl) ?_ _
          have hS5 := hS.put hX2l hB5 hb5'
          have hI5 : BgI W (3 * (k + 1)) (putC cs r (1 + x)) := (hI.put HRow.out (by omega) (by omega)).up (by omega)
          clear hS hB5 hb5 hb5' p05 p15 pf5 c05 hI hRF p0 p1 pf c0
          go_wp2
          exact ⟨⟨k + 1, _, _, _, _, hlt, by simp, hI5, hS5⟩, by simp [intOf]; omega⟩
        · go_wp2_with fail
          refine startE 7 (fun w' => w'.cell? ⟨w.heap.size + 1, 0, none⟩ = some (.int .i64 W) ∧ w'.cell? ⟨w.heap.size + 1, 1, none⟩ = some (.slice au cs.length cu) ∧ w'.cell? ⟨yb, k, none⟩ = some (.slice ra r.length rc')) (by kernel_rfl) ?_ (fun hHeld => ?_)
          · (try dsimp only)
            exact ⟨p0, p1, c0⟩
          refine tkE (i := 0) (d := 34) (v := ?_) rfl rfl ?_ ?_
          rotate_left
          · intro w' hSw; (try dsimp only at hSw); go_simp; try exact rfl
          try simp only [List.setIfInBounds_toArray, List.set_cons_zero, List.set_cons_succ]
          refine tkE (i := 1) (d := 35) (v := ?_) rfl rfl ?_ ?_
          rotate_left
          · intro w' hSw; (try dsimp only at hSw); go_simp; try exact rfl
          try simp only [List.setIfInBounds_toArray, List.set_cons_zero, List.set_cons_succ]
          refine tkE (i := 2) (d := 36) (v := ?_) rfl rfl ?_ ?_
          rotate_left
          · intro w' hSw; (try dsimp only at hSw); go_simp; try exact rfl
          try simp only [List.setIfInBounds_toArray, List.set_cons_zero, List.set_cons_succ]
          refine tkE (i := 3) (d := 37) (v := ?_) rfl rfl ?_ ?_
          rotate_left
          · intro w' hSw; (try dsimp only at hSw); go_simp; try exact rfl
          try simp only [List.setIfInBounds_toArray, List.set_cons_zero, List.set_cons_succ]
          refine tkE (i := 4) (d := 38) (v := ?_) rfl rfl ?_ ?_
          rotate_left
          · intro w' hSw; (try dsimp only at hSw); go_simp; try exact rfl
          try simp only [List.setIfInBounds_toArray, List.set_cons_zero, List.set_cons_succ]
          refine tkE (i := 5) (d := 39) (v := ?_) rfl rfl ?_ ?_
          rotate_left
          · intro w' hSw; (try dsimp only at hSw); go_simp; try exact rfl
          try simp only [List.setIfInBounds_toArray, List.set_cons_zero, List.set_cons_succ]
          refine oneE (i := 6) (by kernel_rfl) rfl (fun K hK => ?_)
          go_simp
          go_at_call 85
          refine Calls.mono (l02Put_any W (-(1 + x)) (.slice au cs.length cu) (.slice ra r.length rc') cs us G r g w2.heap.size _ (hS.own.below (bex)) (hRF.belowX (bex)) hI.asc (by first | exact hS.z | (simp; exact hS.z)) hcl hrn (by omega) (by omega) hcn _ rfl) ?_
          rintro e w5 ⟨u5, us5, G5, rfl, hB5, _, _, hb5, _⟩
          obtain ⟨a5, c5, rfl⟩ := hB5.shape
          have hb5' : Below w2.heap.size w4 w5 := ⟨hb5.os, hb5.tape, hb5.output, hb5.size, hb5.block⟩
          have p05 := (cell_blk (hb5'.block (w.heap.size + 1) (by omega))).trans p0
          have p15 := (cell_blk (hb5'.block (w.heap.size + 1) (by omega))).trans p1
          have pf5 : ∀ q, w5.frozen? ⟨w.heap.size + 1, q, none⟩ = false := fun q => (frozen_blk (hb5'.block (w.heap.size + 1) (by omega))).trans (pf q)
          have c05 := (cell_blk (hb5'.block yb (by omega))).trans c0
          have hz5 : w4.heap.size ≤ w5.heap.size := hb5'.size
          try go_wp2_with fail
          refine hK.out _ _ ?_ (fun hHeld6 => ?_)
          · intro _
            (try dsimp only)
            exact ⟨p05, p15, c05⟩
          clear hK
          replace hHeld6 := hHeld6 (by decide)
          try simp only [List.setIfInBounds_toArray, List.set_cons_zero, List.set_cons_succ]
          refine oneE (i := 7) (by kernel_rfl) rfl (fun K hK => ?_)
          go_simp
          refine hK.out _ _ ?_ (fun hHeld7 => ?_)
          · exact fun h => absurd rfl h
          clear hK hHeld7
          try simp only [List.setIfInBounds_toArray, List.set_cons_zero, List.set_cons_succ]
          refine doneE (by kernel_rfl) ?_ _
          have hS5 := hS.put hX2l hB5 hb5'
          have hI5 : BgI W (3 * (k + 1)) (putC cs r (-(1 + x))) := (hI.put HRow.out (by omega) (by omega)).up (by omega)
          clear hS hB5 hb5 hb5' p05 p15 pf5 c05 hI hRF p0 p1 pf c0
          go_wp2
          exact ⟨⟨k + 1, _, _, _, _, hlt, by simp, hI5, hS5⟩, by simp [intOf]; omega⟩
    · obtain rfl : k = rs.length := by omega
      obtain ⟨hX, hR, hB, hD, hz, hkp⟩ := hS
      obtain ⟨au, cu, rfl⟩ := hB.shape
      obtain ⟨x0, x1, xf⟩ := bag2 hX
      obtain ⟨r0, r1, rf⟩ := bag2 hR
      have hXl : w.heap.size + 1 < wr.heap.size := by omega
      have HO : Hid (BagOwn ((wr.setCell ⟨w.heap.size, 0, none⟩ (.int .i64 W)).setCell ⟨w.heap.size, 1, none⟩ (.slice au cs.length cu)) w.heap.size (.slice au cs.length cu) cs us G) := by
        refine (hB.keep (by simp) fun b h1 h2 => far2 _ _ (by omega)).weak (by omega)
      have HD : Hid (Drew B v l w ((wr.setCell ⟨w.heap.size, 0, none⟩ (.int .i64 W)).setCell ⟨w.heap.size, 1, none⟩ (.slice au cs.length cu))) := (hD.set (p := ⟨w.heap.size, 0, none⟩) (Nat.le_refl _) _).set (p := ⟨w.heap.size, 1, none⟩) (Nat.le_refl _) _
      have HS := set2 hR (.int .i64 W) (.slice au cs.length cu)
      obtain ⟨s0, s1, _⟩ := bag2 HS
      have HI : Hid (BgI W 30 cs) := hI.up (by omega)
      have HZ0 : Hid _ := s0
      have HZ1 : Hid _ := s1
      clear hB hD hI hkp hX hR HS s0 s1
      go_wp2
      have z0 := HZ0.out
      have z1 := HZ1.out
      refine bodyPost_ret (v := .agg #[.int .i64 W, .slice au cs.length cu]) (by simp [results, Tryz.results84, go_sem, z0, z1]) rfl ⟨⟨_, cs, us, G, rfl, HI.out, HO.out⟩, HD.out⟩
end Go.Proofs.YtbmoimfimeiglaaGreat
namespace Go.Proofs.YtbmoimfimeiglaaGreat
open Go.RowKit Go.Deep Go.ChangeShapes Go.WideShapes
set_option linter.unusedVariables false
theorem infoC9 : (Tryz.prog.info? 112).map (fun i => (i.zero, i.size, i.bytes)) = some (some (.agg #[.slice none 0 0, .int .i64 0]), 2, 32) := by kernel_rfl
structure BgJ (W : Int) (cs : List C2) : Prop where
  w0 : -1 ≤ W
  w1 : W ≤ 13
  num : ∀ c ∈ cs, -2000000000 ≤ c.n ∧ c.n ≤ 2000000000
  row : ∀ c ∈ cs, c.r.length ≤ 13 ∧ VsOk c.r
  len : cs.length ≤ 40
theorem BgI.j {W : Nat} {cs : List C2} (h : BgI W 30 cs) (hW : W ≤ 3) : BgJ W cs :=
  ⟨by omega, by omega, fun c hc => by have := h.num c hc; omega, fun c hc => ⟨by have := (h.row c hc).1; omega, (h.row c hc).2⟩, by have := h.len; omega⟩
section
variable {P : Program} {md : Region.Mode} {ops : Array Oper} {Q : Exit → Act → World → Prop} {S S' : World → Prop} {z : Nat}
theorem monoE (hS : ∀ w, S' w → S w) : ∀ (fuel : Nat) (listed : Array Bool) (a : Act) (w : World), wpAnyE P md ops Q S' z fuel listed a w → wpAnyE P md ops Q S z fuel listed a w
  | 0, _, _, _, h => h
  | fuel + 1, _, _, _, h => ⟨h.1, fun i hi => wpOp_mono (fun a' w' h' => ⟨fun hz => hS _ (h'.1 hz), monoE hS fuel _ a' w' h'.2⟩) (h.2 i hi)⟩
end
structure AnW (w wr : World) (X B : Nat) (v : Value) (l : Nat) (W : Int) (u : Value) (cs : List C2) (us : List Value) (G : List (List Nat)) : Prop where
  xb : wr.heap[X]? = some (.cells #[.int .i64 W, u] 71 (0, 0))
  rb : wr.heap[w.heap.size]? = some (.cells #[.int .i64 0, .slice none 0 0] 71 (0, 0))
  xl : w.heap.size < X
  own : BagOwn wr (w.heap.size + 1) u cs us G
  xo : u.ownBlock ≠ some X
  xg : X ∉ G.flatten
  D : Drew B v l w wr
  J : BgJ W cs
section
variable {w wr wn : World} {X B : Nat} {v : Value} {l : Nat} {W : Int} {u : Value} {cs : List C2} {us : List Value} {G : List (List Nat)}
theorem heap_ltA {w : World} {b : Nat} {o : Obj} (h : w.heap[b]? = some o) : b < w.heap.size := by
  rcases Nat.lt_or_ge b w.heap.size with h' | h'
  · exact h'
  · simp [Array.getElem?_eq_none h'] at h
theorem AnW.rl (h : AnW w wr X B v l W u cs us G) : w.heap.size < wr.heap.size := heap_ltA h.rb
theorem AnW.xlt (h : AnW w wr X B v l W u cs us G) : X < wr.heap.size := heap_ltA h.xb
theorem AnW.drew (h : AnW w wr X B v l W u cs us G) (hd : Drew B v l wr wn) : AnW w wn X B v l W u cs us G := by
  have hB := h.D.lt
  have hx := h.xl
  exact ⟨hd.cellsB h.xb (by omega), hd.cellsB h.rb (by omega), h.xl, h.own.keep hd.chg.size fun b h1 h2 => hd.old h2 (by omega), h.xo, h.xg, h.D.trans hd, h.J⟩
theorem AnW.below (h : AnW w wr X B v l W u cs us G) (hb : Below wr.heap.size wr wn) : AnW w wn X B v l W u cs us G :=
  ⟨(hb.block _ h.xlt).trans h.xb, (hb.block _ h.rl).trans h.rb, h.xl, h.own.below hb, h.xo, h.xg, h.D.below hb, h.J⟩
theorem AnW.gcell {g cap ll : Nat} {c : C2} (h : AnW w wr X B v l W (.slice (some ⟨g, 0, none⟩) ll cap) cs us G) (hk : cs[0]? = some c) : wr.cell? ⟨g, 1, none⟩ = some (.int .i64 c.n) ∧ (∀ q, wr.frozen? ⟨g, q, none⟩ = false) ∧ g < wr.heap.size := by
  obtain ⟨g', cap', uu, gg, ev, _, _, _, hgl, _, _, _, xg, _, gf⟩ := h.own.cellsX hk
  injection ev with ev1 _ _
  injection ev1 with ev1
  injection ev1 with ev1
  subst ev1
  exact ⟨xg, gf, hgl⟩
theorem AnW.setW (h : AnW w wr X B v l W u cs us G) {x : Int} (h0 : -1 ≤ x) (h1 : x ≤ 13) : AnW w (wr.setCell ⟨X, 0, none⟩ (.int .i64 x)) X B v l x u cs us G := by
  have hx := h.xl
  refine ⟨by simp [World.setCell, Array.getElem?_modify, h.xb], (Below.heap_setCell _ _ _ _ (by simp; omega)).trans h.rb, h.xl, h.own.keepO (by simp) (fun b hb => Below.heap_setCell _ _ _ _ (by rintro rfl; exact h.xo hb)) (fun b hb => Below.heap_setCell _ _ _ _ (by rintro rfl; exact h.xg hb)), h.xo, h.xg, h.D.set (p := ⟨X, 0, none⟩) (by simp; omega) _, ⟨h0, h1, h.J.num, h.J.row, h.J.len⟩⟩
theorem AnW.setN {g cap ll : Nat} {c : C2} (h : AnW w wr X B v l W (.slice (some ⟨g, 0, none⟩) ll cap) cs us G) (hk : cs[0]? = some c) {x : Int} (h0 : -2000000000 ≤ x) (h1 : x ≤ 2000000000) : AnW w (wr.setCell ⟨g, 0 * 2 + 1, none⟩ (.int .i64 x)) X B v l W (.slice (some ⟨g, 0, none⟩) ll cap) (cs.set 0 ⟨c.r, x⟩) us G := by
  have hx := h.xl
  have hg := ownsRow_lt h.own.own g rfl
  have hgX : g ≠ X := fun e => h.xo (by rw [← e]; rfl)
  refine ⟨(Below.heap_setCell _ _ _ _ (by simpa using fun e => hgX e.symm)).trans h.xb, (Below.heap_setCell _ _ _ _ (by simp; omega)).trans h.rb, h.xl, h.own.setN hk x, h.xo, h.xg, h.D.set (p := ⟨g, 0 * 2 + 1, none⟩) (by simp; omega) _, ⟨h.J.w0, h.J.w1, fun d hd => ?_, fun d hd => ?_, by simpa using h.J.len⟩⟩
  · rcases List.mem_or_eq_of_mem_set hd with hd | rfl
    · exact h.J.num d hd
    · exact ⟨h0, h1⟩
  · rcases List.mem_or_eq_of_mem_set hd with hd | rfl
    · exact h.J.row d hd
    · exact h.J.row c (List.mem_of_getElem? hk)
theorem AnW.push {w5 wz w6 : World} {u6 uR : Value} {r : List V3} {g : List Nat} {nn : Int} (h : AnW w w5 X B v l W u cs us G) (hl : cs.length ≤ 30) (hb : Below w5.heap.size w5 wz) (ho : w6.ownsRow (w.heap.size + 1) 112 2 u6 (cs.length + 1) (cc us cs ++ [uR, .int .i64 nn])) (hgr : wz.grownBy w6 u.ownBlock) (hat : ∀ b, u6.ownBlock = some b → u.ownBlock = some b ∨ wz.heap.size ≤ b)
    (hR : RowF w5 uR r g) (hO : Own w5 (w.heap.size + 1) g) (hd1 : ∀ b ∈ G.flatten, b ∉ g) (hd2 : ∀ b, u.ownBlock = some b → b ∉ g) (hd3 : X ∉ g) (hn : 0 ≤ nn ∧ nn < 3) (hr : r.length ≤ 13 ∧ VsOk r) :
    AnW w (w6.setCell ⟨X, 1, none⟩ u6) X B v l W u6 (cs ++ [⟨r, nn⟩]) (us ++ [uR]) (G ++ [g]) := by
  have hx := h.xl
  have hX := h.xlt
  have hRl := h.rl
  have hz := hb.size
  have hol := ownsRow_lt h.own.own
  have hp := BagOwn.push (x := ⟨r, nn⟩) (h.own.below hb) (hR.keep hb.size fun b hg => hb.block b (hR.lt b hg)) (hO.keep fun b hg => hb.block b (hR.lt b hg)) hd1 hd2 ho hgr hat
  have hX6 : w6.heap[X]? = some (.cells #[.int .i64 W, u] 71 (0, 0)) := (hgr.block X (by omega) (fun e => h.xo e.symm)).trans ((hb.block X hX).trans h.xb)
  have hR6 : w6.heap[w.heap.size]? = some (.cells #[.int .i64 0, .slice none 0 0] 71 (0, 0)) := (hgr.block _ (by omega) (fun e => by have := (hol _ e.symm).1; omega)).trans ((hb.block _ hRl).trans h.rb)
  have hxo : u6.ownBlock ≠ some X := fun e => by
    rcases hat X e with e' | e'
    · exact h.xo e'
    · omega
  have hxg : X ∉ (G ++ [g]).flatten := by
    rw [List.flatten_append, List.mem_append, not_or]
    exact ⟨h.xg, by simpa using hd3⟩
  refine ⟨by simp [World.setCell, Array.getElem?_modify, hX6], (Below.heap_setCell _ _ _ _ (by simp; omega)).trans hR6, h.xl, hp.keepO (by simp) (fun b hb => Below.heap_setCell _ _ _ _ (by rintro rfl; exact hxo hb)) (fun b hb => Below.heap_setCell _ _ _ _ (by rintro rfl; exact hxg hb)), hxo, hxg, ?_, ⟨h.J.w0, h.J.w1, fun c hc => ?_, fun c hc => ?_, by simp; omega⟩⟩
  · exact ((h.D.below hb).up ((Below.refl _ wz).grown hgr (by omega) (fun k hk => by have := (hol k hk).1; omega))).set (p := ⟨X, 1, none⟩) (by simp; omega) _
  · rcases List.mem_append.1 hc with hc | hc
    · exact h.J.num c hc
    · rcases List.mem_singleton.1 hc with rfl; exact ⟨by simp; omega, by simp; omega⟩
  · rcases List.mem_append.1 hc with hc | hc
    · exact h.J.row c hc
    · rcases List.mem_singleton.1 hc with rfl; exact hr
theorem AnW.fin (h : AnW w wr X B v l W u cs us G) :
    ((wr.setCell ⟨w.heap.size, 0, none⟩ (.int .i64 W)).setCell ⟨w.heap.size, 1, none⟩ u).cell? ⟨w.heap.size, 0, none⟩ = some (.int .i64 W) ∧ ((wr.setCell ⟨w.heap.size, 0, none⟩ (.int .i64 W)).setCell ⟨w.heap.size, 1, none⟩ u).cell? ⟨w.heap.size, 1, none⟩ = some u ∧ BagOwn ((wr.setCell ⟨w.heap.size, 0, none⟩ (.int .i64 W)).setCell ⟨w.heap.size, 1, none⟩ u) w.heap.size u cs us G ∧ Drew B v l w ((wr.setCell ⟨w.heap.size, 0, none⟩ (.int .i64 W)).setCell ⟨w.heap.size, 1, none⟩ u) := by
  obtain ⟨s0, s1, _⟩ := bag2 (set2 h.rb (.int .i64 W) u)
  exact ⟨s0, s1, (h.own.keep (by simp) fun b h1 h2 => far2 _ _ (by omega)).weak (by omega), (h.D.set (p := ⟨w.heap.size, 0, none⟩) (Nat.le_refl _) _).set (p := ⟨w.heap.size, 1, none⟩) (Nat.le_refl _) _⟩
end
set_option maxHeartbeats 4000000 in
set_option maxRecDepth 100000 in
theorem l02Any_any (B : Nat) (v : Value) (l : Nat) (w : World) (h : Cur w B v l) :
    Calls Tryz.prog 86 #[.pointer (some ⟨B, 0, none⟩)] w fun e w' => (∃ (W : Int) (u : Value) (cs : List C2) (us : List Value) (G : List (List Nat)), e = .returned (.agg #[.int .i64 W, u]) ∧ BgJ W cs ∧ BagOwn w' w.heap.size u cs us G) ∧ Drew B v l w w' := by
  have hBl := h.lt
  have hD0 := h.start.alloc (.cells #[.int .i64 0, .slice none 0 0] 71)
  have hR0 := heap_alloc_new w (.cells #[.int .i64 0, .slice none 0 0] 71)
  have hz0 : (w.alloc (.cells #[.int .i64 0, .slice none 0 0] 71)).heap.size = w.heap.size + 1 := by simp
  clear h
  go_enter Tryz.func86, Tryz.ntmps86
  go_wp2_with fail
  generalize w.alloc (.cells #[.int .i64 0, .slice none 0 0] 71) = wa at *
  refine Calls.mono (l01Below_any 4 B v l wa hD0.cur (by omega) (by omega)) ?_
  rintro e w1 ⟨⟨m, rfl, m0, m1⟩, hd1⟩
  have hR1 := hd1.cellsB hR0 (by omega)
  have hD1 := hD0.trans hd1
  have hz1 := hd1.chg.size
  obtain ⟨W, rfl⟩ : ∃ W : Nat, m = W := ⟨m.toNat, by omega⟩
  clear hR0 hD0 hd1
  go_wp2_with fail
  refine Calls.mono (l02Bag_any B v l W true w1 hD1.cur (by omega)) ?_
  rintro e w2 ⟨⟨u, cs, us, G, rfl, hI, hB⟩, hd2⟩
  obtain ⟨au, cu, rfl⟩ := hB.shape
  have hz2 := hd2.chg.size
  have hS : AnW w (w2.alloc (.cells #[.int .i64 W, .slice au cs.length cu] 71)) w2.heap.size B v l W (.slice au cs.length cu) cs us G := by
    have bal : Below w2.heap.size w2 (w2.alloc (.cells #[.int .i64 W, .slice au cs.length cu] 71)) := (Below.refl _ _).alloc (Nat.le_refl _) _
    have hR2 := hd2.cellsB hR1 (by omega)
    exact ⟨heap_alloc_new w2 _, (bal.block _ (heap_ltA hR2)).trans hR2, by omega, (hB.below bal).weak (by omega), fun e => by have := (ownsRow_lt hB.own _ e).2; omega, fun hg => by have := hB.lt _ hg; omega, (hD1.trans hd2).below bal, hI.j (by omega)⟩
  have hW3 : W ≤ 3 := by omega
  have hl30 : cs.length ≤ 30 := hI.len
  clear hR1 hD1 hd2 hB hI
  go_wp2_with fail
  generalize w2.alloc (.cells #[.int .i64 W, .slice au cs.length cu] 71) = wb at *
  generalize w2.heap.size = X at *
  refine Calls.mono (l01Below_any 16 B v l wb hS.D.cur (by omega) (by omega)) ?_
  rintro e w3 ⟨⟨q, rfl, q0, q1⟩, hd3⟩
  replace hS := hS.drew hd3
  clear hd3
  by_cases h0 : q = 0
  · subst h0
    obtain ⟨x0, x1, xf⟩ := bag2 hS.xb
    have hXl := hS.xlt
    have hxw := hS.xl
    have hSb := hS.below ((Below.refl _ _).alloc (Nat.le_refl _) (.cells #[.int .i64 (-1), .int .i64 13, .int .i64 ((W : Int) + 1)] 3))
    have hcells : ∀ j, j < 3 → ∃ x : Int, (w3.alloc (.cells #[.int .i64 (-1), .int .i64 13, .int .i64 ((W : Int) + 1)] 3)).cell? ⟨w3.heap.size, j, none⟩ = some (.int .i64 x) ∧ (-1 ≤ x ∧ x ≤ 13) := fun j hj => by
      rw [cells_at]
      match j, hj with
      | 0, _ => exact ⟨_, rfl, by omega, by omega⟩
      | 1, _ => exact ⟨_, rfl, by omega, by omega⟩
      | 2, _ => exact ⟨_, rfl, by omega, by omega⟩
    go_wp2_with fail
    refine Calls.mono (l01PickInt_any (fun x => -1 ≤ x ∧ x ≤ 13) w3.heap.size 3 3 B v l _ hSb.D.cur (by omega) (by omega) (by omega) (by omega) (by simp) hcells) ?_
    rintro e w4 ⟨⟨x, rfl, y0, y1⟩, hd4⟩
    replace hS := hSb.drew hd4
    clear hSb hd4 hcells x0 x1 xf
    obtain ⟨x0, x1, xf⟩ := bag2 hS.xb
    have hX4 := hS.xlt
    replace hS := hS.setW y0 y1
    clear y0 y1
    go_upto_region 10 with fail
    generalize w4.setCell ⟨X, 0, none⟩ (.int .i64 x) = w5 at *
    clear x0 x1 xf hX4 hXl
    obtain ⟨x0, x1, xf⟩ := bag2 hS.xb
    obtain ⟨r0, r1, rf⟩ := bag2 hS.rb
    have hRl := hS.rl
    have hXl := hS.xlt
    have HF := hS.fin
    obtain ⟨HF0, HF1, HO, HDD⟩ := HF
    have HJ : Hid _ := hS.J
    have HG : Hid _ := HO
    have HH : Hid _ := HDD
    have HZ0 : Hid _ := HF0
    have HZ1 : Hid _ := HF1
    clear hS HF0 HF1 HO HDD
    go_wp2
    have z0 := HZ0.out
    have z1 := HZ1.out
    refine bodyPost_ret (v := .agg #[.int .i64 _, .slice au cs.length cu]) (by simp [results, Tryz.results86, go_sem, z0, z1]) rfl ⟨⟨_, _, cs, us, G, rfl, HJ.out, HG.out⟩, HH.out⟩
  have k0 : (q == 0) = false := by simpa using h0
  by_cases h1 : q = 1
  · subst h1
    obtain ⟨i0, hi, hz0', hz1', hz2'⟩ := info_parts infoC9
    obtain ⟨x0, x1, xf⟩ := bag2 hS.xb
    have hXl := hS.xlt
    have hxw := hS.xl
    go_upto_region 6 with fail
    refine startE 14 (fun w' => w'.cell? ⟨X, 0, none⟩ = some (.int .i64 W) ∧ w'.cell? ⟨X, 1, none⟩ = some (.slice au cs.length cu)) (by kernel_rfl) ?_ (fun hHeld => ?_)
    · (try dsimp only)
      exact ⟨x0, x1⟩
    refine tkE (i := 0) (d := 21) (v := ?_) rfl rfl ?_ ?_
    rotate_left
    · intro w' hSw; (try dsimp only at hSw); go_simp; try exact rfl
    try simp only [List.setIfInBounds_toArray, List.set_cons_zero, List.set_cons_succ]
    refine tkE (i := 1) (d := 22) (v := ?_) rfl rfl ?_ ?_
    rotate_left
    · intro w' hSw; (try dsimp only at hSw); go_simp; try exact rfl
    try simp only [List.setIfInBounds_toArray, List.set_cons_zero, List.set_cons_succ]
    refine tkE (i := 2) (d := 23) (v := ?_) rfl rfl ?_ ?_
    rotate_left
    · intro w' hSw; (try dsimp only at hSw); go_simp; try exact rfl
    try simp only [List.setIfInBounds_toArray, List.set_cons_zero, List.set_cons_succ]
    refine tkE (i := 3) (d := 24) (v := ?_) rfl rfl ?_ ?_
    rotate_left
    · intro w' hSw; (try dsimp only at hSw); go_simp; try exact rfl
    try simp only [List.setIfInBounds_toArray, List.set_cons_zero, List.set_cons_succ]
    refine tkE (i := 4) (d := 25) (v := ?_) rfl rfl ?_ ?_
    rotate_left
    · intro w' hSw; (try dsimp only at hSw); go_simp; try exact rfl
    try simp only [List.setIfInBounds_toArray, List.set_cons_zero, List.set_cons_succ]
    refine tkE (i := 8) (d := 29) (v := ?_) rfl rfl ?_ ?_
    rotate_left
    · intro w' hSw; (try dsimp only at hSw); go_simp; try exact rfl
    try simp only [List.setIfInBounds_toArray, List.set_cons_zero, List.set_cons_succ]
    refine oneE (i := 5) (by kernel_rfl) rfl (fun K hK => ?_)
    go_simp
    go_at_call 107
    refine Calls.mono (l02Rows_any B v l W 1 w3.drew (hS.D.cur.below (bex)) (by omega) (by omega)) ?_
    rintro e w4 ⟨⟨yy, rs, ru, rfl, hrl, hro, hRr⟩, hd4⟩
    have hpos : 0 < rs.length := by omega
    clear hrl
    have hz4 : w3.heap.size ≤ w4.heap.size := hd4.chg.size
    have hS4 := (hS.below (wn := w3.drew) ((Below.refl _ _).drew)).drew hd4
    obtain ⟨ay, cy, rfl⟩ := ret_slice hRr.own
    obtain ⟨yb, r, ur, g, rfl, hyN, hyl, hrk, hcell, hrf, hgo, hlc, hcm⟩ := hRr.at hpos
    obtain ⟨ra, rc', rfl⟩ := hrf.shapeX
    unfold maxLen at hcm
    have HRow : Hid (r.length = W ∧ VsOk r) := hro r (List.mem_of_getElem? hrk)
    obtain ⟨x04, x14, xf4⟩ := bag2 hS4.xb
    have hyN' : w3.heap.size ≤ yb := hyN
    have hgg : ∀ b ∈ g, w3.heap.size ≤ b := hgo.2.1
    have hX4 := hS4.xlt
    try go_wp2_with fail
    refine hK.out _ _ ?_ (fun hHeld5 => ?_)
    · intro _
      (try dsimp only)
      exact ⟨x04, x14⟩
    clear hK
    replace hHeld5 := hHeld5 (by decide)
    try simp only [List.setIfInBounds_toArray, List.set_cons_zero, List.set_cons_succ]
    refine monoE (S' := (fun w' => (w'.cell? ⟨X, 0, none⟩ = some (.int .i64 W) ∧ w'.cell? ⟨X, 1, none⟩ = some (.slice au cs.length cu)) ∧ w'.cell? ⟨yb, 0, none⟩ = some (.slice ra r.length rc'))) (fun w h => h.1) _ _ _ _ ?_
    have hHy : (w4.cell? ⟨X, 0, none⟩ = some (.int .i64 W) ∧ w4.cell? ⟨X, 1, none⟩ = some (.slice au cs.length cu)) ∧ w4.cell? ⟨yb, 0, none⟩ = some (.slice ra r.length rc') := ⟨⟨x04, x14⟩, hcell⟩
    refine tkE (i := 6) (d := 27) (v := ?_) rfl rfl ?_ ?_
    rotate_left
    · intro w' hSw; (try dsimp only at hSw); go_simp; try exact rfl
    try simp only [List.setIfInBounds_toArray, List.set_cons_zero, List.set_cons_succ]
    refine tkE (i := 7) (d := 28) (v := ?_) rfl rfl ?_ ?_
    rotate_left
    · intro w' hSw; (try dsimp only at hSw); go_simp; try exact rfl
    try simp only [List.setIfInBounds_toArray, List.set_cons_zero, List.set_cons_succ]
    refine oneE (i := 9) (by kernel_rfl) rfl (fun K hK => ?_)
    go_simp
    go_at_call 52
    refine Calls.mono (l01Below_any 3 B v l w4 hS4.D.cur (by omega) (by omega)) ?_
    rintro e w5 ⟨⟨nn, rfl, n0, n1⟩, hd5⟩
    have hS5 := hS4.drew hd5
    obtain ⟨x05, x15, xf5⟩ := bag2 hS5.xb
    have kb : ∀ b, w3.heap.size ≤ b → b < w4.heap.size → w5.heap[b]? = w4.heap[b]? := fun b h1 h2 => hd5.old h2 (by omega)
    have hcell5 := (cell_blk (o := 0) (kb yb hyN' hyl)).trans hcell
    have hz5 := hd5.chg.size
    have hrf5 := hrf.keep hz5 fun b hb => kb b (hgg b hb) (hrf.lt b hb)
    have hgo5 := hgo.keep fun b hb => kb b (hgg b hb) (hrf.lt b hb)
    have hX5 := hS5.xlt
    try go_wp2_with fail
    refine hK.out _ _ ?_ (fun hHeld9 => ?_)
    · intro _
      (try dsimp only)
      exact ⟨⟨x05, x15⟩, hcell5⟩
    clear hK
    replace hHeld9 := hHeld9 (by decide)
    try simp only [List.setIfInBounds_toArray, List.set_cons_zero, List.set_cons_succ]
    refine oneE (i := 10) (by kernel_rfl) rfl (fun K hK => ?_)
    go_simp
    refine hK.out _ _ ?_ (fun hHeld10 => ?_)
    · intro _
      (try dsimp only)
      exact ⟨⟨x05, x15⟩, hcell5⟩
    clear hK
    replace hHeld10 := hHeld10 (by decide)
    try simp only [List.setIfInBounds_toArray, List.set_cons_zero, List.set_cons_succ]
    refine oneE (i := 11) (by kernel_rfl) rfl (fun K hK => ?_)
    go_simp
    refine hK.out _ _ ?_ (fun hHeld11 => ?_)
    · intro _
      (try dsimp only)
      exact ⟨⟨(cell_blk (Below.heap_alloc _ _ _ (by omega))).trans x05, (cell_blk (Below.heap_alloc _ _ _ (by omega))).trans x15⟩, (cell_blk (Below.heap_alloc _ _ _ (by omega))).trans hcell5⟩
    clear hK
    replace hHeld11 := hHeld11 (by decide)
    try simp only [List.setIfInBounds_toArray, List.set_cons_zero, List.set_cons_succ]
    refine oneE (i := 12) (by kernel_rfl) rfl (fun K hK => ?_)
    have hown5 := (hS5.own.below (w' := (w5.alloc (.cells #[.slice ra r.length rc', .int .i64 nn] 112))) ((Below.refl _ _).alloc (Nat.le_refl _) _)).own
    have hlb : w.heap.size + 1 ≤ w5.heap.size := by have := hS5.rl; omega
    refine step_append_lies _ (by rfl) _ _ _ (by rfl) (w.heap.size + 1) 112 i0 _ 2 32 Tryz.underlying69 hi hz0' hz1' hz2' rfl (by omega) (.slice au cs.length cu) cs.length (cc us cs) (by rfl) hown5 ⟨w5.heap.size, 0, none⟩ 1 1 [.slice ra r.length rc', .int .i64 nn] (by rfl) (by rfl) (World.news_of_block (cs := #[.slice ra r.length rc', .int .i64 nn]) (t := 112) (fr := (0, 0)) (heap_alloc_new w5 _)) (by simp [Value.oneCell']) (by omega) (by unfold maxLen; omega) (by omega) (by simp; omega) (w5.heap.size + 1) (by simp) ?_
    intro g6 cap6 w6 hown6 hgr6 hat6 hlt6
    have hz6 := hgr6.size
    simp at hz6
    have blk : ∀ t, t < w5.heap.size → (Value.slice au cs.length cu).ownBlock ≠ some t → w6.heap[t]? = w5.heap[t]? := fun t ht hne => (hgr6.block t (by simp; omega) (fun e => hne e.symm)).trans (Below.heap_alloc _ _ _ ht)
    have kX := blk X hX5 hS5.xo
    have hol5 := ownsRow_lt hS5.own.own
    have hGl5 := hS5.own.lt
    have hyo : (Value.slice au cs.length cu).ownBlock ≠ some yb := fun e => by have := (ownsRow_lt hS.own.own yb e).2; omega
    have kY := blk yb (by omega) hyo
    have x06 := (cell_blk (o := 0) kX).trans x05
    have x16 := (cell_blk (o := 1) kX).trans x15
    have xf6 : ∀ i, w6.frozen? ⟨X, i, none⟩ = false := fun i => (frozen_blk kX).trans (xf5 i)
    have hX6 : X < w6.heap.size := by omega
    have hS6 := hS5.push (r := r) (g := g) hl30 ((Below.refl _ _).alloc (Nat.le_refl _) _) hown6 hgr6 (fun b hb => by rcases hat6 with e | e; (left; rw [e]; exact hb.symm ▸ rfl); (right; cases hb; simp; omega)) hrf5 ⟨hgo5.1, fun b hb => by have := hgg b hb; have := hS.rl; omega, hgo5.2.2⟩ (fun b hb hb2 => by have := hgg b hb2; have := hS.own.lt b hb; omega) (fun b hb hb2 => by have := hgg b hb2; have := (ownsRow_lt hS.own.own b hb).2; omega) (fun hb2 => by have := hgg _ hb2; omega) ⟨n0, n1⟩ ⟨by have := HRow.out.1; omega, HRow.out.2⟩
    refine hK.out _ _ ?_ (fun hHeld12 => ?_)
    · intro _
      (try dsimp only)
      exact ⟨⟨(cell_blk kX).trans x05, (cell_blk kX).trans x15⟩, (cell_blk kY).trans hcell5⟩
    clear hK
    replace hHeld12 := hHeld12 (by decide)
    try simp only [List.setIfInBounds_toArray, List.set_cons_zero, List.set_cons_succ]
    refine oneE (i := 13) (by kernel_rfl) rfl (fun K hK => ?_)
    go_simp
    refine hK.out _ _ ?_ (fun hHeld13 => ?_)
    · intro _
      (try dsimp only)
      exact ⟨⟨(cell_blk kX).trans x05, (cell_blk kX).trans x15⟩, (cell_blk kY).trans hcell5⟩
    clear hK
    replace hHeld13 := hHeld13 (by decide)
    try simp only [List.setIfInBounds_toArray, List.set_cons_zero, List.set_cons_succ]
    refine oneE (i := 14) (by kernel_rfl) rfl (fun K hK => ?_)
    go_simp
    refine hK.out _ _ ?_ (fun hHeld14 => ?_)
    · exact fun h => absurd rfl h
    clear hK hHeld14
    try simp only [List.setIfInBounds_toArray, List.set_cons_zero, List.set_cons_succ]
    refine doneE (by kernel_rfl) ?_ _
    replace hS := hS6
    clear hS6 hS5 hS4 x0 x1 xf x04 x14 xf4 x05 x15 xf5 x06 x16 xf6 hown6 hgr6 hat6 hown5 blk kX kY hcell hcell5 hHy hRr hro hrf hrf5 hgo hgo5 hd4 hd5 hol5 hGl5
    go_upto_region 10 with fail
    generalize w6.setCell ⟨X, 1, none⟩ (.slice (some ⟨g6, 0, none⟩) (cs.length + 1) cap6) = w7 at *
    generalize cs ++ [⟨r, nn⟩] = cs2 at *
    generalize us ++ [.slice ra r.length rc'] = us2 at *
    generalize G ++ [g] = G2 at *
    obtain ⟨x0, x1, xf⟩ := bag2 hS.xb
    obtain ⟨r0, r1, rf⟩ := bag2 hS.rb
    have hRl := hS.rl
    have hXl := hS.xlt
    have HF := hS.fin
    obtain ⟨HF0, HF1, HO, HDD⟩ := HF
    have HJ : Hid _ := hS.J
    have HG : Hid _ := HO
    have HH : Hid _ := HDD
    have HZ0 : Hid _ := HF0
    have HZ1 : Hid _ := HF1
    clear hS HF0 HF1 HO HDD
    go_wp2
    have z0 := HZ0.out
    have z1 := HZ1.out
    refine bodyPost_ret (v := .agg #[.int .i64 _, .slice (some ⟨g6, 0, none⟩) (cs.length + 1) cap6]) (by simp [results, Tryz.results86, go_sem, z0, z1]) rfl ⟨⟨_, _, cs2, us2, G2, rfl, HJ.out, HG.out⟩, HH.out⟩
  have k1 : (q == 1) = false := by simpa using h1
  by_cases h2 : q = 2
  · subst h2
    obtain ⟨x0, x1, xf⟩ := bag2 hS.xb
    have hXl := hS.xlt
    have hxw := hS.xl
    by_cases hl : cs.length = 0
    · have hl2 : ¬ ((0 : Int) < (cs.length : Int)) := by omega
      clear x0 x1 xf hXl hxw hl
      obtain ⟨x0, x1, xf⟩ := bag2 hS.xb
      obtain ⟨r0, r1, rf⟩ := bag2 hS.rb
      have hRl := hS.rl
      have hXl := hS.xlt
      have HF := hS.fin
      obtain ⟨HF0, HF1, HO, HDD⟩ := HF
      have HJ : Hid _ := hS.J
      have HG : Hid _ := HO
      have HH : Hid _ := HDD
      have HZ0 : Hid _ := HF0
      have HZ1 : Hid _ := HF1
      clear hS HF0 HF1 HO HDD
      go_wp2
      have z0 := HZ0.out
      have z1 := HZ1.out
      refine bodyPost_ret (v := .agg #[.int .i64 _, .slice au cs.length cu]) (by simp [results, Tryz.results86, go_sem, z0, z1]) rfl ⟨⟨_, _, cs, us, G, rfl, HJ.out, HG.out⟩, HH.out⟩
    · have hl2 : ((0 : Int) < (cs.length : Int)) := by omega
      have hk : cs[0]? = some cs[0] := by simp
      generalize cs[0] = c0 at hk
      obtain ⟨g, cap, uu, gg, ev, hcl, hcm, hgN, hgl, _, _, _, xg, _, gf⟩ := hS.own.cellsX hk
      injection ev with ev1 _ ev3
      subst ev1 ev3
      unfold maxLen at hcm
      rw [show 0 * 2 + 1 = 1 from rfl] at xg
      have hSb := hS.below (wn := (w3.drew.alloc (.cells #[.int .i64 0, .int .i64 1000000000, .int .i64 1000000001, .int .i64 (-1000000000)] 3))) (((Below.refl _ _).drew).alloc (Nat.le_refl _) _)
      have hcells : ∀ j, j < 4 → ∃ x : Int, (w3.drew.alloc (.cells #[.int .i64 0, .int .i64 1000000000, .int .i64 1000000001, .int .i64 (-1000000000)] 3)).cell? ⟨w3.heap.size, j, none⟩ = some (.int .i64 x) ∧ (-2000000000 ≤ x ∧ x ≤ 2000000000) := fun j hj => by
        have e := cells_at w3.drew #[.int .i64 0, .int .i64 1000000000, .int .i64 1000000001, .int .i64 (-1000000000)] 3 j
        rw [show w3.drew.heap.size = w3.heap.size from rfl] at e
        rw [e]
        match j, hj with
        | 0, _ => exact ⟨_, rfl, by omega, by omega⟩
        | 1, _ => exact ⟨_, rfl, by omega, by omega⟩
        | 2, _ => exact ⟨_, rfl, by omega, by omega⟩
        | 3, _ => exact ⟨_, rfl, by omega, by omega⟩
      go_upto_region 9 with fail
      refine startE 7 (fun w' => w'.cell? ⟨X, 1, none⟩ = some (.slice (some ⟨g, 0, none⟩) cs.length cu) ∧ w'.cell? ⟨g, 1, none⟩ = some (.int .i64 c0.n)) (by kernel_rfl) ?_ (fun hHeld => ?_)
      · (try dsimp only)
        exact ⟨x1, xg⟩
      refine tkE (i := 0) (d := 41) (v := ?_) rfl rfl ?_ ?_
      rotate_left
      · intro w' hSw; (try dsimp only at hSw); go_simp; try exact rfl
      try simp only [List.setIfInBounds_toArray, List.set_cons_zero, List.set_cons_succ]
      refine tkE (i := 1) (d := 42) (v := ?_) rfl rfl ?_ ?_
      rotate_left
      · intro w' hSw; (try dsimp only at hSw); go_simp; try exact rfl
      try simp only [List.setIfInBounds_toArray, List.set_cons_zero, List.set_cons_succ]
      refine tkE (i := 2) (d := 43) (v := ?_) rfl rfl ?_ ?_
      rotate_left
      · intro w' hSw; (try dsimp only at hSw); go_simp; try exact rfl
      try simp only [List.setIfInBounds_toArray, List.set_cons_zero, List.set_cons_succ]
      refine oneE (i := 3) (by kernel_rfl) rfl (fun K hK => ?_)
      go_simp
      refine hK.out _ _ ?_ (fun hHeld3 => ?_)
      · intro _
        (try dsimp only)
        exact ⟨by go_simp, by go_simp⟩
      clear hK
      replace hHeld3 := hHeld3 (by decide)
      try simp only [List.setIfInBounds_toArray, List.set_cons_zero, List.set_cons_succ]
      refine oneE (i := 4) (by kernel_rfl) rfl (fun K hK => ?_)
      go_simp
      go_at_call 109
      refine Calls.mono (l01PickInt_any (fun x => -2000000000 ≤ x ∧ x ≤ 2000000000) w3.heap.size 4 4 B v l (w3.drew.alloc (.cells #[.int .i64 0, .int .i64 1000000000, .int .i64 1000000001, .int .i64 (-1000000000)] 3)) hSb.D.cur (by omega) (by omega) (by omega) (by omega) (by simp) hcells) ?_
      rintro e w4 ⟨⟨x, rfl, y0, y1⟩, hd4⟩
      have hS4 := hSb.drew hd4
      obtain ⟨z0, z1, zf⟩ := bag2 hS4.xb
      have hX4 := hS4.xlt
      have zg := (hS4.gcell hk).1
      have zgf := (hS4.gcell hk).2.1
      have zgl := (hS4.gcell hk).2.2
      try go_wp2_with fail
      refine hK.out _ _ ?_ (fun hHeld4 => ?_)
      · intro _
        (try dsimp only)
        exact ⟨z1, zg⟩
      clear hK
      replace hHeld4 := hHeld4 (by decide)
      try simp only [List.setIfInBounds_toArray, List.set_cons_zero, List.set_cons_succ]
      refine oneE (i := 5) (by kernel_rfl) rfl (fun K hK => ?_)
      go_simp
      refine hK.out _ _ ?_ (fun hHeld5 => ?_)
      · intro _
        (try dsimp only)
        exact ⟨z1, zg⟩
      clear hK
      replace hHeld5 := hHeld5 (by decide)
      try simp only [List.setIfInBounds_toArray, List.set_cons_zero, List.set_cons_succ]
      refine oneE (i := 6) (by kernel_rfl) rfl (fun K hK => ?_)
      go_simp
      refine hK.out _ _ ?_ (fun hHeld6 => ?_)
      · intro _
        (try dsimp only)
        exact ⟨z1, zg⟩
      clear hK
      replace hHeld6 := hHeld6 (by decide)
      try simp only [List.setIfInBounds_toArray, List.set_cons_zero, List.set_cons_succ]
      refine oneE (i := 7) (by kernel_rfl) rfl (fun K hK => ?_)
      go_simp
      refine hK.out _ _ ?_ (fun hHeld7 => ?_)
      · exact fun h => absurd rfl h
      clear hK hHeld7
      try simp only [List.setIfInBounds_toArray, List.set_cons_zero, List.set_cons_succ]
      refine doneE (by kernel_rfl) ?_ _
      replace hS := hS4.setN hk y0 y1
      rw [show 0 * 2 + 1 = 1 from rfl] at hS
      clear hS4 hSb hd4 hcells z0 z1 zf zg zgf zgl x0 x1 xf xg gf hX4 hXl y0 y1
      go_upto_region 10 with fail
      generalize w4.setCell ⟨g, 1, none⟩ (.int .i64 x) = w5 at *
      generalize cs.set 0 ⟨c0.r, x⟩ = cs2 at *
      obtain ⟨x0, x1, xf⟩ := bag2 hS.xb
      obtain ⟨r0, r1, rf⟩ := bag2 hS.rb
      have hRl := hS.rl
      have hXl := hS.xlt
      have HF := hS.fin
      obtain ⟨HF0, HF1, HO, HDD⟩ := HF
      have HJ : Hid _ := hS.J
      have HG : Hid _ := HO
      have HH : Hid _ := HDD
      have HZ0 : Hid _ := HF0
      have HZ1 : Hid _ := HF1
      clear hS HF0 HF1 HO HDD
      go_wp2
      have z0 := HZ0.out
      have z1 := HZ1.out
      refine bodyPost_ret (v := .agg #[.int .i64 _, .slice (some ⟨g, 0, none⟩) cs.length cu]) (by simp [results, Tryz.results86, go_sem, z0, z1]) rfl ⟨⟨_, _, cs2, us, G, rfl, HJ.out, HG.out⟩, HH.out⟩
  have k2 : (q == 2) = false := by simpa using h2
  obtain ⟨x0, x1, xf⟩ := bag2 hS.xb
  obtain ⟨r0, r1, rf⟩ := bag2 hS.rb
  have hRl := hS.rl
  have hXl := hS.xlt
  have HF := hS.fin
  obtain ⟨HF0, HF1, HO, HDD⟩ := HF
  have HJ : Hid _ := hS.J
  have HG : Hid _ := HO
  have HH : Hid _ := HDD
  have HZ0 : Hid _ := HF0
  have HZ1 : Hid _ := HF1
  clear hS HF0 HF1 HO HDD
  go_wp2
  have z0 := HZ0.out
  have z1 := HZ1.out
  refine bodyPost_ret (v := .agg #[.int .i64 _, .slice au cs.length cu]) (by simp [results, Tryz.results86, go_sem, z0, z1]) rfl ⟨⟨_, _, cs, us, G, rfl, HJ.out, HG.out⟩, HH.out⟩
end Go.Proofs.YtbmoimfimeiglaaGreat
