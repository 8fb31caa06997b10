/- Own text. The contract of the tally's method bag. -/
import Derived.Test.YtcldekhihijcjaaTalQ
import Derived.Handy
namespace Go.Proofs.Ytcldekhihijcjaa
open Go.RowKit Go.Shelf
set_option linter.unusedVariables false
attribute [local go_sem] Oper.semAt_some
/-- what stands between two rounds: the bag that is made lies in block B + 1 (B: the result's), its rows in blocks of its own. -/
def BagI {w2 : World} {b : Nat} (w : World) (X : Int) (pre : List (RowT w2 b)) (O : Nat → Prop) (A : World) : Prop :=
  ∃ (y : Value) (us : List Value) (G : List (List Nat)), A.cell? ⟨w.heap.size + 1, 0, none⟩ = some (.int .i64 X) ∧ A.cell? ⟨w.heap.size + 1, 1, none⟩ = some y ∧ (∀ q, A.frozen? ⟨w.heap.size + 1, q, none⟩ = false) ∧ A.cell? ⟨w.heap.size, 0, none⟩ = some (.int .i64 0) ∧ A.cell? ⟨w.heap.size, 1, none⟩ = some (.slice none 0 0) ∧ (∀ q, A.frozen? ⟨w.heap.size, q, none⟩ = false) ∧
    BagOwn A (w.heap.size + 1 + 1) y (pre.map fun x => x.1.2) us G ∧ Below w.heap.size w A ∧ w.heap.size + 1 + 1 ≤ A.heap.size ∧ (∀ k, y.ownBlock = some k ∨ k ∈ G.flatten → O k) ∧ O (w.heap.size + 1) ∧ ∀ k, O k → k = w.heap.size + 1 ∨ w.heap.size + 1 + 1 ≤ k ∧ k < A.heap.size
theorem bagOwn_on {A B : World} {N : Nat} {y : Value} {cs : List C2} {us : List Value} {G : List (List Nat)} (h : BagOwn A N y cs us G) (hs : A.heap.size ≤ B.heap.size) (hb : ∀ k, y.ownBlock = some k ∨ k ∈ G.flatten → B.heap[k]? = A.heap[k]?) : BagOwn B N y cs us G := by
  refine ⟨ownsRow_keep h.own fun k hk => hb k (.inl hk), h.ul, h.gl, fun i x u g hx hu hg => (h.row i x u g hx hu hg).keep hs fun k hk => hb k (.inr ?_), h.free.keep fun k hk => hb k (.inr hk), h.out⟩
  exact List.mem_flatten.2 ⟨g, List.mem_of_getElem? hg, hk⟩
theorem BagI.on {w2 : World} {b : Nat} {w : World} {X : Int} {pre : List (RowT w2 b)} {O : Nat → Prop} {A B : World} (h : BagI w X pre O A) (hs : SameOn (fun k => k < w.heap.size + 2 ∨ O k) A B) : BagI w X pre O B := by
  obtain ⟨y, us, G, p0, p1, pf, r0, r1, rf, hB, hb, hz, hO, hOb, hO2⟩ := h
  have e1 : B.heap[w.heap.size + 1]? = A.heap[w.heap.size + 1]? := hs.block _ (by omega) (.inl (by omega))
  have e0 : B.heap[w.heap.size]? = A.heap[w.heap.size]? := hs.block _ (by omega) (.inl (by omega))
  refine ⟨y, us, G, (cell_blk e1).trans p0, (cell_blk e1).trans p1, fun q => (frozen_blk e1).trans (pf q), (cell_blk e0).trans r0, (cell_blk e0).trans r1, fun q => (frozen_blk e0).trans (rf q), bagOwn_on hB hs.size fun k hk => ?_, ⟨hs.os.trans hb.os, hs.tape.trans hb.tape, hs.output.trans hb.output, Nat.le_trans hb.size hs.size, fun k hk => (hs.block k (by omega) (.inl (by omega))).trans (hb.block k hk)⟩, Nat.le_trans hz hs.size, hO, hOb, fun k hk => ?_⟩
  · have h1 : k < A.heap.size := by
      rcases hk with hk | hk
      · exact (ownsRow_lt hB.own k hk).2
      · exact hB.lt k hk
    exact hs.block k h1 (.inr (hO k hk))
  · have := hO2 k hk
    have := hs.size
    omega
theorem bagI_start {W2 : World} {b : Nat} (w : World) (X : Int) : BagI (w2 := W2) (b := b) w X [] (fun k => k = w.heap.size + 1) ((w.alloc (.cells #[.int .i64 0, .slice none 0 0] 26)).alloc (.cells #[.int .i64 X, .slice none 0 0] 26)) := by
  refine ⟨.slice none 0 0, [], [], by go_simp, by go_simp, fun q => by go_simp, by go_simp, by go_simp, fun q => by go_simp, BagOwn.nil _ _, ((Below.refl _ _).alloc (Nat.le_refl _) _).alloc (by simp) _, by simp, fun k hk => ?_, rfl, fun k hk => .inl hk⟩
  rcases hk with hk | hk
  · cases hk
  · cases hk
set_option maxHeartbeats 8000000 in
set_option maxRecDepth 100000 in
theorem bag_any (b n : Nat) (W X : Int) (cs : List C2) (w : World) (hT : TalIs w b n W cs) (hn : n ≤ 4194304) (hW : W ≤ 1048576) :
    Calls Try.prog 30 #[.map (some b), .int .i64 X] w fun e w' => (∃ ds u us G, e = .returned (.agg #[.int .i64 X, u]) ∧ OrderedOf W cs ds ∧ BagOwn w' w.heap.size u ds us G) ∧ Below w.heap.size w w' := by
  have hlb := hT.lt
  refine (callsIn_wide (n := 0)).1 ?_
  refine callsIn_of_wp_marks Try.func30 rfl trivial ?_ rfl
  simp only [Try.ntmps30, List.size_toArray, List.length_cons, List.length_nil, Nat.reduceAdd, Nat.reduceSub, Array.replicate_succ, Array.replicate_zero, List.push_toArray, List.append_toArray, List.nil_append, List.cons_append]
  gi_wp2
  obtain ⟨w2, hw2⟩ : ∃ w2, (w.alloc (.cells #[.int .i64 0, .slice none 0 0] 26)).alloc (.cells #[.int .i64 X, .slice none 0 0] 26) = w2 := ⟨_, rfl⟩
  have hs2 : w2.heap.size = w.heap.size + 2 := by rw [← hw2]; simp
  have hbw2 : Below w.heap.size w w2 := by rw [← hw2]; exact ((Below.refl _ _).alloc (Nat.le_refl _) _).alloc (by simp) _
  have hI0 : BagI (w2 := w2) (b := b) w X [] (fun k => k = w.heap.size + 1) w2 := by
    have h := bagI_start (W2 := w2) (b := b) w X
    rw [hw2] at h
    exact h
  have hT2 := hT.keep hbw2
  rw [hw2]
  clear hw2 hT
  refine rangeBound (gf := 60) (recv := .map (some b)) rfl (enters_of Try.func60 (by kernel_rfl) rfl) (asc_seq b n W cs w2 hT2 hn hW) (fun _ => rfl) (BagI w X) (fun pre O A B h hs => h.on (by rw [hs2] at hs; exact hs)) (fun k => k = w.heap.size + 1) (fun k hk => by omega) hI0
    (fun x O a' A => ∃ Bx, w.heap.size + 2 + 2 ≤ Bx ∧ Bx < A.heap.size ∧ ¬ O Bx ∧ A.cell? ⟨Bx, 0, none⟩ = some x.1.1 ∧ A.cell? ⟨Bx, 1, none⟩ = some (.int .i64 x.1.2.n) ∧ a' = { tmps := #[.map (some b), .int .i64 X, undef, undef, .pointer (some ⟨w.heap.size, 0, none⟩), .pointer (some ⟨w.heap.size + 1, 0, none⟩), .pointer (some ⟨Bx, 0, none⟩), .int .i64 X, .agg #[.int .i64 X, .slice none 0 0], .map (some b), .func (.func 60) #[.map (some b)] #[], .agg #[x.1.1, .int .i64 x.1.2.n], undef, undef, undef, undef, undef, undef, undef, undef], defers := [] }) ?hAx ?assign ?body ?done
  case hAx =>
    rintro x O a' A o ⟨Bx, h1, h2, h3, h4, h5, h6⟩
    have hne : Bx ≠ w2.heap.size + 1 := by omega
    exact ⟨Bx, h1, by simpa [World.putObj] using h2, h3, (cell_blk (World.putObj_heap_other hne)).trans h4, (cell_blk (World.putObj_heap_other hne)).trans h5, h6⟩
  case assign =>
    rintro l pre O x A K hi hz hK
    obtain ⟨⟨u, rr, nn⟩, hxB⟩ := x
    obtain ⟨ua, uc, hu⟩ : ∃ a c, u = .slice a rr.length c := by obtain ⟨⟨_, ⟨a, c, e, _⟩, _⟩, _⟩ := hxB; exact ⟨a, c, e⟩
    subst hu
    have hOA : ¬ O A.heap.size := fun h => by obtain ⟨_, _, _, _, _, _, _, _, _, _, _, _, _, _, hO2⟩ := hi; have := hO2 _ h; omega
    have hkA : KeptBut O A (A.alloc (.cells #[.slice ua rr.length uc, .int .i64 nn] 85)) := ⟨by simp, fun k hk _ => Below.heap_alloc A _ k hk⟩
    have hiA : BagI w X pre O (A.alloc (.cells #[.slice ua rr.length uc, .int .i64 nn] 85)) := hi.on (SameOn.of_below ((Below.refl _ _).alloc (Nat.le_refl _) _))
    clear hi
    gi_wp2
    refine hK _ _ hkA hiA ⟨A.heap.size, by omega, by simp, hOA, by go_simp, by go_simp, rfl⟩
  case body =>
    rintro l pre O x a' wr hi ⟨Bx, hx1, hx2, hx3, hx4, hx5, rfl⟩ hz hNm
    obtain ⟨y, us, G, p0, p1, pf, r0, r1, rf, hB, hb, hzb, hO, hOb, hO2⟩ := hi
    obtain ⟨⟨u, x⟩, ⟨g0, hR0, hg0⟩, hxn⟩ := x
    dsimp only at hR0 hxn hx4 hx5
    obtain ⟨a0, n0, rfl⟩ := hR0.shape
    have hbb : Below b w2 wr := ⟨hb.os.trans hbw2.os.symm, hb.tape.trans hbw2.tape.symm, hb.output.trans hbw2.output.symm, by omega, fun k hk => (hb.block k (by omega)).trans (hbw2.block k (by omega)).symm⟩
    have hR : RowF wr (.slice a0 x.r.length n0) x.r g0 := hR0.keep hbb.size fun k hk => hbb.block k (hg0 k hk)
    have c0 := hx4
    have c1 := hx5
    have hvl := ownsRow_lt hB.own
    have hv2 : y.ownBlock ≠ some (w.heap.size + 1) := fun e => by have := (hvl _ e).1; omega
    have hvr : y.ownBlock ≠ some w.heap.size := fun e => by have := (hvl _ e).1; omega
    have hvT : y.ownBlock ≠ some Bx := fun e => hx3 (hO Bx (.inl e))
    have hGl := hB.lt
    have hpl : (pre.map fun x => x.1.2).length = pre.length := by simp
    have HM : Hid ((pre ++ [(⟨(.slice a0 x.r.length n0, x), ⟨g0, hR0, hg0⟩, hxn⟩ : RowT w2 b)]).map (fun x => x.1.2) = (pre.map fun x => x.1.2) ++ [x]) := by simp [Hid]
    obtain ⟨i0, hi, hz0, hz1, hz2⟩ := info_parts infoCntT
    generalize hct : pre.map (fun x => x.1.2) = ct at *
    have hml : ct.length + 1 ≤ maxLen := by unfold maxLen; omega
    have hby : (ct.length + 1) * 32 ≤ 140737488355328 := by omega
    have hUf : ∀ k, O k → k = w.heap.size + 1 ∨ w.heap.size + 1 + 1 ≤ k ∧ k < wr.heap.size := hO2
    clear hx4 hx5 hI0 hT2 hpl
    gi_wp2_with fail
    refine startR 7 (fun w' => w'.cell? ⟨w.heap.size + 1, 1, none⟩ = some y ∧ w'.cell? ⟨Bx, 0, none⟩ = some (.slice a0 x.r.length n0) ∧ w'.cell? ⟨Bx, 1, none⟩ = some (.int .i64 x.n)) (by kernel_rfl) (fun h => by obtain ⟨_, _, h⟩ := h; exact h.elim) (by kernel_rfl) ?_ (fun hHeld => ?_)
    · (try dsimp only)
      exact ⟨p1, c0, c1⟩
    refine takeE (i := 0) (d := 12) (v := ?_) rfl rfl (by kernel_rfl) (by kernel_rfl) (by kernel_rfl) (by kernel_rfl) (fun _ _ _ h => h) (by rfl) (by assumption) ?_ ?_
    rotate_left
    · intro w' hSw; (try dsimp only at hSw); go_simp; try exact rfl
    try simp only [List.setIfInBounds_toArray, List.set_cons_zero, List.set_cons_succ]
    refine takeE (i := 1) (d := 13) (v := ?_) rfl rfl (by kernel_rfl) (by kernel_rfl) (by kernel_rfl) (by kernel_rfl) (fun _ _ _ h => h) (by rfl) (by assumption) ?_ ?_
    rotate_left
    · intro w' hSw; (try dsimp only at hSw); go_simp; try exact rfl
    try simp only [List.setIfInBounds_toArray, List.set_cons_zero, List.set_cons_succ]
    refine takeE (i := 2) (d := 14) (v := ?_) rfl rfl (by kernel_rfl) (by kernel_rfl) (by kernel_rfl) (by kernel_rfl) (fun _ _ _ h => h) (by rfl) (by assumption) ?_ ?_
    rotate_left
    · intro w' hSw; (try dsimp only at hSw); go_simp; try exact rfl
    try simp only [List.setIfInBounds_toArray, List.set_cons_zero, List.set_cons_succ]
    refine oneE (i := 3) (by kernel_rfl) rfl (fun K hK => ?_)
    go_simp
    go_at_call 61
    refine Calls.mono (copyCounted_any (.slice a0 x.r.length n0) x.r g0 x.n _ (hR.below ?hbb) hxn) ?_
    case hbb => exact (Below.refl _ wr).drew
    rintro e wv ⟨⟨u2, g2, rfl, hR2, hO2⟩, hb2⟩
    obtain ⟨a2, n2, rfl⟩ := hR2.shape
    have hzw2 := hb2.size
    (try simp at hzw2)
    have bel2 : Below wr.heap.size wr wv := (Below.refl _ wr).drew.trans hb2
    have hB2 := hB.below bel2
    have pf2 : ∀ q, wv.frozen? ⟨w.heap.size + 1, q, none⟩ = false := fun q => ((bcell bel2).2 _ q (by omega)).trans (pf q)
    have rf2 : ∀ q, wv.frozen? ⟨w.heap.size, q, none⟩ = false := fun q => ((bcell bel2).2 _ q (by omega)).trans (rf q)
    have p02 := ((bcell bel2).1 (w.heap.size + 1) 0 (by omega)).trans p0
    have p12 := ((bcell bel2).1 (w.heap.size + 1) 1 (by omega)).trans p1
    have r02 := ((bcell bel2).1 (w.heap.size) 0 (by omega)).trans r0
    have r12 := ((bcell bel2).1 (w.heap.size) 1 (by omega)).trans r1
    have q0 : wv.cell? ⟨Bx, 0, none⟩ = some (.slice a0 x.r.length n0) := ((bcell bel2).1 Bx 0 (by omega)).trans c0
    have q1 : wv.cell? ⟨Bx, 1, none⟩ = some (.int .i64 x.n) := ((bcell bel2).1 Bx 1 (by omega)).trans c1
    try go_wp2_with fail
    refine hK.out _ _ ?_ (fun hHeld3 => ?_)
    · intro _
      (try dsimp only)
      exact ⟨p12, q0, q1⟩
    clear hK
    replace hHeld3 := hHeld3 (by decide)
    try simp only [List.setIfInBounds_toArray, List.set_cons_zero, List.set_cons_succ]
    refine oneE (i := 4) (by kernel_rfl) rfl (fun K hK => ?_)
    go_simp
    refine hK.out _ _ ?_ (fun hHeld4 => ?_)
    · intro _
      (try dsimp only)
      exact ⟨(cell_blk (Below.heap_alloc wv _ _ (by omega))).trans p12, (cell_blk (Below.heap_alloc wv _ _ (by omega))).trans q0, (cell_blk (Below.heap_alloc wv _ _ (by omega))).trans q1⟩
    clear hK
    replace hHeld4 := hHeld4 (by decide)
    try simp only [List.setIfInBounds_toArray, List.set_cons_zero, List.set_cons_succ]
    refine oneE (i := 5) (by kernel_rfl) rfl (fun K hK => ?_)
    refine step_append_lies _ (by rfl) _ _ _ (by rfl) (w.heap.size + 1 + 1) 85 i0 _ 2 32 Try.underlying24 hi hz0 hz1 hz2 rfl (by omega) y ct.length (cc us ct) (by rfl) (hB2.own.alloc _) ⟨wv.heap.size, 0, none⟩ 1 1 [.slice a2 x.r.length n2, .int .i64 x.n] (by rfl) (by rfl) (World.news_of_block (cs := #[.slice a2 x.r.length n2, .int .i64 x.n]) (t := 85) (fr := (0, 0)) (heap_alloc_new wv _)) (by simp [Value.oneCell']) (by omega) hml hby (by simp; omega) (wv.heap.size + 1) (by simp) ?_
    intro gg cap w3 hown3 hgrow hat hlt3
    have hz3 := hgrow.size
    simp at hz3
    have far : ∀ b q, b < wv.heap.size → y.ownBlock ≠ some b → w3.cell? ⟨b, q, none⟩ = wv.cell? ⟨b, q, none⟩ := fun b q hb hne => (hgrow.cell_far _ (by simp; omega) (Ne.symm hne)).trans (cell_blk (Below.heap_alloc _ _ _ hb))
    have farf : ∀ b q, b < wv.heap.size → y.ownBlock ≠ some b → w3.frozen? ⟨b, q, none⟩ = wv.frozen? ⟨b, q, none⟩ := fun b q hb hne => (hgrow.frozen_far _ (by simp; omega) (Ne.symm hne)).trans (frozen_blk (Below.heap_alloc _ _ _ hb))
    have pf3 : ∀ q, w3.frozen? ⟨w.heap.size + 1, q, none⟩ = false := fun q => (farf _ q (by omega) hv2).trans (pf2 q)
    have rf3 : ∀ q, w3.frozen? ⟨w.heap.size, q, none⟩ = false := fun q => (farf _ q (by omega) hvr).trans (rf2 q)
    have p03 := (far (w.heap.size + 1) 0 (by omega) hv2).trans p02
    have p13 := (far (w.heap.size + 1) 1 (by omega) hv2).trans p12
    have r03 := (far (w.heap.size) 0 (by omega) hvr).trans r02
    have r13 := (far (w.heap.size) 1 (by omega) hvr).trans r12
    have hBp := BagOwn.push (hB2.below ((Below.refl _ _).alloc (Nat.le_refl _) (.cells #[.slice a2 x.r.length n2, .int .i64 x.n] 85))) (hR2.below ((Below.refl _ _).alloc (Nat.le_refl _) _)) ⟨hO2.1, fun b hb => by have := hO2.2.1 b hb; simp at this; omega, fun b hb q => (frozen_blk (Below.heap_alloc _ _ _ (hR2.lt b hb))).trans (hO2.2.2 b hb q)⟩ (fun b hb hb' => by have := hO2.2.1 b hb'; have := hGl b hb; simp at *; omega) (fun b hb hb' => by have := hO2.2.1 b hb'; have := (ownsRow_lt hB.own b hb).2; simp at *; omega) hown3 hgrow (fun b hb => by simp [Value.ownBlock] at hb; subst hb; rcases hat with h | h; exact .inl h; exact .inr (by simp; omega))
    have far1 := far Bx 0 (by omega) hvT
    have far2 := far Bx 1 (by omega) hvT
    have bel3 : Below w.heap.size w w3 := Below.grown (hb.trans (bel2.mono hb.size) |>.alloc (by omega) _) hgrow (by simp; omega) (fun b hb => by have := (ownsRow_lt hB.own b hb).1; omega)
    refine hK.out _ _ ?_ (fun hHeld5 => ?_)
    · intro _
      (try dsimp only)
      exact ⟨p13, far1.trans q0, far2.trans q1⟩
    clear hK
    replace hHeld5 := hHeld5 (by decide)
    try simp only [List.setIfInBounds_toArray, List.set_cons_zero, List.set_cons_succ]
    refine takeE (i := 6) (d := 18) (v := ?_) rfl rfl (by kernel_rfl) (by kernel_rfl) (by kernel_rfl) (by kernel_rfl) (fun _ _ _ h => h) (by rfl) (by assumption) ?_ ?_
    rotate_left
    · intro w' hSw; (try dsimp only at hSw); go_simp; try exact rfl
    try simp only [List.setIfInBounds_toArray, List.set_cons_zero, List.set_cons_succ]
    refine oneE (i := 7) (by kernel_rfl) rfl (fun K hK => ?_)
    go_simp
    refine hK.out _ _ ?_ (fun hHeld7 => ?_)
    · exact fun h => absurd rfl h
    clear hK hHeld7
    try simp only [List.setIfInBounds_toArray, List.set_cons_zero, List.set_cons_succ]
    refine doneE (by kernel_rfl) ?_ _
    have P0 : (w3.setCell ⟨w.heap.size + 1, 1, none⟩ (.slice (some ⟨gg, 0, none⟩) (ct.length + 1) cap)).cell? ⟨w.heap.size + 1, 0, none⟩ = some (.int .i64 X) := (World.cell?_setCell_other _ _ _ _ (by simp)).trans p03
    have P1 : (w3.setCell ⟨w.heap.size + 1, 1, none⟩ (.slice (some ⟨gg, 0, none⟩) (ct.length + 1) cap)).cell? ⟨w.heap.size + 1, 1, none⟩ = some (.slice (some ⟨gg, 0, none⟩) (ct.length + 1) cap) := World.cell?_setCell_same _ _ _ p13
    have PF : ∀ q, (w3.setCell ⟨w.heap.size + 1, 1, none⟩ (.slice (some ⟨gg, 0, none⟩) (ct.length + 1) cap)).frozen? ⟨w.heap.size + 1, q, none⟩ = false := fun q => by simpa using pf3 q
    have R0 : (w3.setCell ⟨w.heap.size + 1, 1, none⟩ (.slice (some ⟨gg, 0, none⟩) (ct.length + 1) cap)).cell? ⟨w.heap.size, 0, none⟩ = some (.int .i64 0) := (World.cell?_setCell_other _ _ _ _ (by simp)).trans r03
    have R1 : (w3.setCell ⟨w.heap.size + 1, 1, none⟩ (.slice (some ⟨gg, 0, none⟩) (ct.length + 1) cap)).cell? ⟨w.heap.size, 1, none⟩ = some (.slice none 0 0) := (World.cell?_setCell_other _ _ _ _ (by simp)).trans r13
    have RF : ∀ q, (w3.setCell ⟨w.heap.size + 1, 1, none⟩ (.slice (some ⟨gg, 0, none⟩) (ct.length + 1) cap)).frozen? ⟨w.heap.size, q, none⟩ = false := fun q => by simpa using rf3 q
    have hBs := hBp.keep (w' := w3.setCell ⟨w.heap.size + 1, 1, none⟩ (.slice (some ⟨gg, 0, none⟩) (ct.length + 1) cap)) (by simp) (fun b hb _ => Below.heap_setCell _ _ _ _ (by simp; omega))
    have belS : Below w.heap.size w (w3.setCell ⟨w.heap.size + 1, 1, none⟩ (.slice (some ⟨gg, 0, none⟩) (ct.length + 1) cap)) := bel3.setCell (by first | (simp; done) | (simp; omega)) _
    have hzS : w.heap.size + 1 + 1 ≤ (w3.setCell ⟨w.heap.size + 1, 1, none⟩ (.slice (some ⟨gg, 0, none⟩) (ct.length + 1) cap)).heap.size := by simp; omega
    have hgl := ownsRow_lt hBs.own
    have hfl := hBs.lt
    have hfr := hBs.free.2.1
    refine ⟨fun k => k = w.heap.size + 1 ∨ k = gg ∨ k ∈ (G ++ [g2]).flatten, ⟨_, _, _, P0, P1, PF, R0, R1, RF, by rw [HM.out]; exact hBs, belS, hzS, fun k hk => ?_, .inl rfl, fun k hk => ?_⟩, ⟨?_, fun k hk hn => ?_⟩, fun k hk => ?_⟩
    · rcases hk with hk | hk
      · simp only [Value.ownBlock, Option.some.injEq] at hk
        exact .inr (.inl hk.symm)
      · exact .inr (.inr hk)
    · rcases hk with hk | hk | hk
      · exact .inl hk
      · exact .inr (hk ▸ hgl gg rfl)
      · exact .inr ⟨hfr k hk, hfl k hk⟩
    · have := bel2.size
      simp
      omega
    · have h1 : k ≠ w.heap.size + 1 := fun e => hn (e ▸ hOb)
      have h2 : some k ≠ y.ownBlock := fun e => hn (hO k (.inl e.symm))
      rw [Below.heap_setCell _ _ _ _ (by simpa using h1), hgrow.block k (by simp; omega) h2, Below.heap_alloc _ _ _ (by omega), bel2.block k hk]
    · rcases hk with hk | hk | hk
      · exact .inl (hk ▸ hOb)
      · rcases hat with h | h
        · exact .inl (hk ▸ hO gg (.inl h))
        · exact .inr (by omega)
      · rw [List.flatten_append, List.mem_append] at hk
        rcases hk with hk | hk
        · exact .inl (hO k (.inr hk))
        · exact .inr (by have := hO2.2.1 k (by simpa using hk); simpa using this)
  case done =>
    rintro D xs O A hD hDO hord ⟨y, us, G, p0, p1, pf, r0, r1, rf, hB, hb, hzA, hO, hOb, hO2⟩ hK
    obtain ⟨ay, cy, rfl⟩ := hB.shape
    gi_wp2
    obtain ⟨A2, hA2⟩ : ∃ A2, (A.setCell ⟨w.heap.size, 0, none⟩ (.int .i64 X)).setCell ⟨w.heap.size, 1, none⟩ (.slice ay (xs.map fun x => x.1.2).length cy) = A2 := ⟨_, rfl⟩
    have hs3 : A2.heap.size = A.heap.size := by rw [← hA2]; simp
    have hfar : ∀ k, k ≠ w.heap.size → A2.heap[k]? = A.heap[k]? := fun k hk => by
      rw [← hA2, Below.heap_setCell _ _ _ _ (by simpa using hk), Below.heap_setCell _ _ _ _ (by simpa using hk)]
    have q0 : A2.cell? ⟨w.heap.size, 0, none⟩ = some (.int .i64 X) := by rw [← hA2]; exact (World.cell?_setCell_other _ _ _ _ (by simp)).trans (World.cell?_setCell_same _ _ _ r0)
    have q1 : A2.cell? ⟨w.heap.size, 1, none⟩ = some (.slice ay (xs.map fun x => x.1.2).length cy) := by rw [← hA2]; exact World.cell?_setCell_same _ _ _ ((World.cell?_setCell_other _ _ _ _ (by simp)).trans r1)
    have hb2 : Below w.heap.size w A2 := by rw [← hA2]; exact (hb.setCell (by simp) _).setCell (by simp) _
    have hK2 : A2.heap[D]? = some (.deferred (some [])) := (hfar D (by omega)).trans hK
    have hlen : (xs.map fun x => x.1.2).length = xs.length := by simp
    rw [hlen] at hA2 q1
    rw [hA2]
    refine ⟨by simp, .inl ⟨_, _, rfl, run_takeDeferred hK2, ?_⟩⟩
    have q0' : (A2.putObj D (.deferred none)).cell? ⟨w.heap.size, 0, none⟩ = some (.int .i64 X) := (cell_blk (World.putObj_heap_other (by omega))).trans q0
    have q1' : (A2.putObj D (.deferred none)).cell? ⟨w.heap.size, 1, none⟩ = some (.slice ay xs.length cy) := (cell_blk (World.putObj_heap_other (by omega))).trans q1
    have hB3 : BagOwn (A2.putObj D (.deferred none)) (w.heap.size + 1 + 1) (.slice ay (xs.map fun x => x.1.2).length cy) (xs.map fun x => x.1.2) us G := bagOwn_on hB (by simp [World.putObj]; omega) fun k hk => by
      have h1 := hDO k (hO k hk)
      have h2 : w.heap.size + 1 + 1 ≤ k := by
        rcases hk with hk | hk
        · exact (ownsRow_lt hB.own k hk).1
        · exact hB.free.2.1 k hk
      rw [World.putObj_heap_other h1, hfar k (by omega)]
    have hb3 : Below w.heap.size w (A2.putObj D (.deferred none)) := hb2.trans (belowK_b (w := w2) (by omega) A2 D _ _ hD hK2 rfl rfl)
    rw [hlen] at hB3
    refine ⟨.agg #[.int .i64 X, .slice ay xs.length cy], ?_, ⟨⟨_, _, us, G, rfl, hord, hB3.weak (by omega)⟩, hb3⟩⟩
    clear hB hB3 hord hI0 hT2
    simp [results, Try.results30, go_sem, q0', q1']
end Go.Proofs.Ytcldekhihijcjaa
