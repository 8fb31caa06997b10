/- Own texts, joined: contracts that the law's proof goes by. -/
import Derived.Test.YtbmoimfimeiglaaGreatGLFnLog39
import Derived.Handy
import Derived.Deep.RegionHeld3
import Derived.Test.YtbmoimfimeiglaaGreatGLFnLog32
import Derived.Test.YtbmoimfimeiglaaGreatGLFnLog7
namespace Go.Proofs.YtbmoimfimeiglaaGreat
open Go.RowKit Go.Deep
set_option linter.unusedVariables false
def StpOwn (w : World) (N : Nat) (uc ur : Value) (x : T5) (g F : List Nat) : Prop := StrsF w uc x.cs g ∧ RelsF w ur x.rs F ∧ Own w N g ∧ Own w N F ∧ ∀ b ∈ g, b ∉ F
theorem StpOwn.is {w : World} {N : Nat} {uc ur : Value} {x : T5} {g F : List Nat} (h : StpOwn w N uc ur x g F) : StpIs w uc ur x := ⟨⟨g, h.1⟩, h.2.1.is⟩
theorem StpOwn.below {w w' : World} {N : Nat} {uc ur : Value} {x : T5} {g F : List Nat} (h : StpOwn w N uc ur x g F) (hb : Below w.heap.size w w') : StpOwn w' N uc ur x g F :=
  ⟨h.1.below hb, h.2.1.below hb, h.2.2.1.below h.1.lt hb, h.2.2.2.1.below h.2.1.lt hb, h.2.2.2.2⟩
theorem StpOwn.keep {w w' : World} {N : Nat} {uc ur : Value} {x : T5} {g F : List Nat} (h : StpOwn w N uc ur x g F) (hs : w.heap.size ≤ w'.heap.size) (hb : ∀ b, N ≤ b → b < w.heap.size → w'.heap[b]? = w.heap[b]?) : StpOwn w' N uc ur x g F :=
  have k1 : ∀ b ∈ g, w'.heap[b]? = w.heap[b]? := fun b hg => hb b (h.2.2.1.2.1 b hg) (h.1.lt b hg)
  have k2 : ∀ b ∈ F, w'.heap[b]? = w.heap[b]? := fun b hg => hb b (h.2.2.2.1.2.1 b hg) (h.2.1.lt b hg)
  ⟨h.1.keep hs k1, h.2.1.keep hs k2, h.2.2.1.keep k1, h.2.2.2.1.keep k2, h.2.2.2.2⟩
theorem StpOwn.weak {w : World} {N M : Nat} {uc ur : Value} {x : T5} {g F : List Nat} (h : StpOwn w N uc ur x g F) (hM : M ≤ N) : StpOwn w M uc ur x g F :=
  ⟨h.1, h.2.1, ⟨h.2.2.1.1, fun b hb => Nat.le_trans hM (h.2.2.1.2.1 b hb), h.2.2.1.2.2⟩, ⟨h.2.2.2.1.1, fun b hb => Nat.le_trans hM (h.2.2.2.1.2.1 b hb), h.2.2.2.1.2.2⟩, h.2.2.2.2⟩
theorem five_far {w2 : World} {R : Nat} (a b c d e : Value) (L : Array Value) {k : Nat} (hk : k ≠ R) (hl : k < w2.heap.size) : ((((((w2.setCell ⟨R, 0, none⟩ a).setCell ⟨R, 1, none⟩ b).setCell ⟨R, 2, none⟩ c).setCell ⟨R, 3, none⟩ d).setCell ⟨R, 4, none⟩ e).alloc (.cells L 27)).heap[k]? = w2.heap[k]? := by
  rw [heap_alloc_old _ _ (by simpa using hl)]
  iterate 5 rw [Below.heap_setCell _ _ _ _ (by simpa using hk)]
theorem StpOwn.nil (w : World) (N : Nat) : StpOwn w N (.slice none 0 0) (.slice none 0 0) zT [] [] := by
  refine ⟨⟨none, 0, rfl, Nat.le_refl _, by simp [maxLen], fun _ => rfl, fun x => absurd rfl x⟩, ⟨none, 0, [], rfl, Nat.le_refl _, by simp [maxLen], fun _ => rfl, rfl, fun _ => rfl, fun x => absurd rfl x⟩, by simp [Own, Free], by simp [Own, Free], fun b hb => by cases hb⟩
theorem Stepped.own {w w' : World} {C E : Nat} {s : ByteArray} {e : Nat} {q : Nat × Bool} {xs : List Int} {uc ur : Value} (h : Stepped w w' C E s e q xs uc ur) : ∃ g F, StpOwn w' w.heap.size uc ur (sX s e q) g F := by
  obtain ⟨us, G, M, h1, h2, h3, h4, _, _⟩ := h
  obtain ⟨g, hg, hOg, hub⟩ := strs_own h1
  obtain ⟨F, hF, hOF⟩ := h2.relsF
  exact ⟨g, F, hg, hF, hOg, ⟨hOF.1, fun b hb => Nat.le_trans h3 (hOF.2.1 b hb), hOF.2.2⟩, fun b hb hb2 => by have := h4 b (hub b hb); have := hOF.2.1 b hb2; omega⟩
set_option maxHeartbeats 4000000 in
set_option maxRecDepth 100000 in
theorem implGetStep_any (s : ByteArray) (w : World) (hs : s.size ≤ 1048576) :
    Calls Tryz.prog 10 #[.string s] w fun r w' => (∃ uc ur g F, r = .returned (.tuple #[.agg #[.int .i64 (gT s).k, .string (gT s).s, uc, .string (gT s).q, ur], .bool (gO s)]) ∧ StpOwn w' w.heap.size uc ur (gT s) g F) ∧ Below w.heap.size w w' := by
  have T2 : ∀ (C E cap : Nat) (wz : World), Ct wz C E cap s (0, false) [(s.size : Int)] → Calls Tryz.prog 35 #[.pointer (some ⟨C, 0, none⟩)] wz fun r w' => ∃ uc ur, r = .returned (.tuple #[.agg #[.int .i64 (sX s s.size (0, false)).k, .string (sX s s.size (0, false)).s, uc, .string (sX s s.size (0, false)).q, ur], .bool (gO s)]) ∧ Stepped wz w' C E s s.size (0, false) [] uc ur :=
    fun C E cap wz hz => step_any C E cap s (0, false) [] s.size wz hz (Nat.zero_le _) (Nat.le_refl _) hs (Nat.zero_le _)
  go_enter Tryz.func10, Tryz.ntmps10
  go_wp2_with (first | (go_at_call 25; with_reducible refine Calls.mono (cutterOf_any s _ hs) ?_) | fail)
  rintro r w1 ⟨rfl, E, cap, hC, hb1, hE⟩
  simp only [World.size_alloc] at hE hC hb1
  have hz1 := hb1.size
  simp only [World.size_alloc] at hz1
  have hCl := hC.ltC
  have hEl := hC.ltE
  rw [World.size_alloc]
  go_wp2_with (first | (go_at_call 35; with_reducible refine Calls.mono (T2 _ E cap _ hC) ?_) | fail)
  rintro r w2 ⟨uc, ur, rfl, hSt⟩
  obtain ⟨g, F, hO⟩ := hSt.own
  obtain ⟨_, _, _, _, _, _, _, _, hK⟩ := hSt
  have hz2 := hK.size
  have hR2 : w2.heap[w.heap.size]? = some (.cells #[.int .i64 0, .string ⟨#[]⟩, .slice none 0 0, .string ⟨#[]⟩, .slice none 0 0] 27 (0, 0)) := (hK.block _ (by omega) (by omega) (by omega)).trans ((hb1.block _ (by simp)).trans (heap_alloc_new w _))
  have hbw : Below w.heap.size w w2 := ⟨hK.os.trans hb1.os, hK.tape.trans hb1.tape, hK.output.trans hb1.output, by omega, fun k hk => (hK.block k (by omega) (by omega) (by omega)).trans ((hb1.block k (by omega)).trans (heap_alloc_old w _ hk))⟩
  have hs1 := hO.1.shape
  have hs2 : ∃ a c, ur = .slice a (sX s s.size (0, false)).rs.length c := by
    obtain ⟨a, c, _, h, _⟩ := hO.2.1
    exact ⟨a, c, h⟩
  obtain ⟨ac, cc, rfl, _, _⟩ := hs1
  obtain ⟨ar, cr, rfl⟩ := hs2
  have hR2l := heap_lt hR2
  have b0 : w2.cell? ⟨w.heap.size, 0, none⟩ = some (.int .i64 0) := by rw [Lib.cell_of_heap hR2]; rfl
  have b1 : w2.cell? ⟨w.heap.size, 1, none⟩ = some (.string ⟨#[]⟩) := by rw [Lib.cell_of_heap hR2]; rfl
  have b2 : w2.cell? ⟨w.heap.size, 2, none⟩ = some (.slice none 0 0) := by rw [Lib.cell_of_heap hR2]; rfl
  have b3 : w2.cell? ⟨w.heap.size, 3, none⟩ = some (.string ⟨#[]⟩) := by rw [Lib.cell_of_heap hR2]; rfl
  have b4 : w2.cell? ⟨w.heap.size, 4, none⟩ = some (.slice none 0 0) := by rw [Lib.cell_of_heap hR2]; rfl
  have bf : ∀ i, w2.frozen? ⟨w.heap.size, i, none⟩ = false := fun i => Lib.frozen_of_heap hR2 i
  have HO : Hid (StpOwn w2 (w.heap.size + 1) (.slice ac (sX s s.size (0, false)).cs.length cc) (.slice ar (sX s s.size (0, false)).rs.length cr) (sX s s.size (0, false)) g F) := ⟨hO.1, hO.2.1, ⟨hO.2.2.1.1, fun b hb => by have := hO.2.2.1.2.1 b hb; omega, hO.2.2.1.2.2⟩, ⟨hO.2.2.2.1.1, fun b hb => by have := hO.2.2.2.1.2.1 b hb; omega, hO.2.2.2.1.2.2⟩, hO.2.2.2.2⟩
  have HB : Hid (Below w.heap.size w w2) := hbw
  clear hO hbw hK hR2 hb1 T2 hC
  have HG : Hid (gT s = if gO s = true then sX s s.size (0, false) else zT) := rfl
  generalize (sX s s.size (0, false)).cs.length = nc at *
  generalize (sX s s.size (0, false)).rs.length = nr at *
  have HF : Hid (∀ (a b c d e : Value) (L : Array Value), Below w.heap.size w ((((((w2.setCell ⟨w.heap.size, 0, none⟩ a).setCell ⟨w.heap.size, 1, none⟩ b).setCell ⟨w.heap.size, 2, none⟩ c).setCell ⟨w.heap.size, 3, none⟩ d).setCell ⟨w.heap.size, 4, none⟩ e).alloc (.cells L 27)) ∧ StpOwn ((((((w2.setCell ⟨w.heap.size, 0, none⟩ a).setCell ⟨w.heap.size, 1, none⟩ b).setCell ⟨w.heap.size, 2, none⟩ c).setCell ⟨w.heap.size, 3, none⟩ d).setCell ⟨w.heap.size, 4, none⟩ e).alloc (.cells L 27)) w.heap.size (.slice ac nc cc) (.slice ar nr cr) (sX s s.size (0, false)) g F) := by
    intro a b c d e L
    have hB := HB.out
    have hz := hB.size
    have hsz : ((((((w2.setCell ⟨w.heap.size, 0, none⟩ a).setCell ⟨w.heap.size, 1, none⟩ b).setCell ⟨w.heap.size, 2, none⟩ c).setCell ⟨w.heap.size, 3, none⟩ d).setCell ⟨w.heap.size, 4, none⟩ e).alloc (.cells L 27)).heap.size = w2.heap.size + 1 := by simp
    refine ⟨⟨hB.os, hB.tape, hB.output, by omega, fun k hk => (five_far a b c d e L (by omega) (by omega)).trans (hB.block k hk)⟩, ?_⟩
    exact (HO.out.keep (by omega) fun k h1 h2 => five_far a b c d e L (by omega) h2).weak (by omega)
  clear HO HB
  cases hg : gO s
  · have HZ : Hid (gT s = zT) := by rw [hg] at HG; exact HG
    go_wp2
    refine bodyPost_ret (v := .tuple #[.agg #[.int .i64 0, .string ⟨#[]⟩, .slice none 0 0, .string ⟨#[]⟩, .slice none 0 0], .bool false]) (by simp [results, Tryz.results10, go_sem, *]) rfl ⟨⟨.slice none 0 0, .slice none 0 0, [], [], (by rw [HZ.out, hg]; try rfl), by rw [HZ.out]; exact StpOwn.nil _ _⟩, (HF.out _ _ _ _ _ _).1⟩
  · have HZ : Hid (gT s = sX s s.size (0, false)) := by rw [hg] at HG; exact HG
    go_wp2
    refine bodyPost_ret (v := .tuple #[.agg #[.int .i64 (sX s s.size (0, false)).k, .string (sX s s.size (0, false)).s, .slice ac nc cc, .string (sX s s.size (0, false)).q, .slice ar nr cr], .bool true]) (by simp [results, Tryz.results10, go_sem, *]) rfl ⟨⟨.slice ac nc cc, .slice ar nr cr, g, F, (by rw [HZ.out, hg]; try rfl), by rw [HZ.out]; exact (HF.out _ _ _ _ _ _).2⟩, (HF.out _ _ _ _ _ _).1⟩
end Go.Proofs.YtbmoimfimeiglaaGreat
namespace Go.Proofs.YtbmoimfimeiglaaGreat
open Go.RowKit Go.Deep
set_option linter.unusedVariables false
theorem res5_ct {fn : Func} {a u : Tmp} {t : TypeId} (h : fn.results = #[.cell a t, .tmp u]) (tmps : Array Value) (P : Program) (w : World) (v : Value) (p : Addr) (hp : tmps.getD a undef = .pointer (some p)) (hl : (loadVar t p).run P w = .ok v w) : (results fn tmps).run P w = .ok (.tuple #[v, tmps.getD u undef]) w := by
  have hp2 : tmps[a]?.getD undef = .pointer (some p) := by rw [← hp]; simp
  simp [results, h, hp2, hl, asAddr]
theorem lod5 {w : World} {R : Nat} {a0 a1 a2 a3 a4 : Value} (h : w.heap[R]? = some (.cells #[a0, a1, a2, a3, a4] 27 (0, 0))) : (loadVar 27 ⟨R, 0, none⟩).run Tryz.prog w = .ok (.agg #[a0, a1, a2, a3, a4]) w := by
  have c0 : w.cell? ⟨R, 0, none⟩ = some a0 := by rw [Lib.cell_of_heap h]; rfl
  have c1 : w.cell? ⟨R, 1, none⟩ = some a1 := by rw [Lib.cell_of_heap h]; rfl
  have c2 : w.cell? ⟨R, 2, none⟩ = some a2 := by rw [Lib.cell_of_heap h]; rfl
  have c3 : w.cell? ⟨R, 3, none⟩ = some a3 := by rw [Lib.cell_of_heap h]; rfl
  have c4 : w.cell? ⟨R, 4, none⟩ = some a4 := by rw [Lib.cell_of_heap h]; rfl
  simp [go_sem, c0, c1, c2, c3, c4]
theorem st5 {w : World} {R : Nat} {a0 a1 a2 a3 a4 : Value} {t : TypeId} (h : w.heap[R]? = some (.cells #[a0, a1, a2, a3, a4] t (0, 0))) (b0 b1 b2 b3 b4 : Value) :
    (((((w.setCell ⟨R, 0, none⟩ b0).setCell ⟨R, 1, none⟩ b1).setCell ⟨R, 2, none⟩ b2).setCell ⟨R, 3, none⟩ b3).setCell ⟨R, 4, none⟩ b4).heap[R]? = some (.cells #[b0, b1, b2, b3, b4] t (0, 0)) ∧ (∀ b, b ≠ R → (((((w.setCell ⟨R, 0, none⟩ b0).setCell ⟨R, 1, none⟩ b1).setCell ⟨R, 2, none⟩ b2).setCell ⟨R, 3, none⟩ b3).setCell ⟨R, 4, none⟩ b4).heap[b]? = w.heap[b]?) ∧ (((((w.setCell ⟨R, 0, none⟩ b0).setCell ⟨R, 1, none⟩ b1).setCell ⟨R, 2, none⟩ b2).setCell ⟨R, 3, none⟩ b3).setCell ⟨R, 4, none⟩ b4).heap.size = w.heap.size ∧ Below R w (((((w.setCell ⟨R, 0, none⟩ b0).setCell ⟨R, 1, none⟩ b1).setCell ⟨R, 2, none⟩ b2).setCell ⟨R, 3, none⟩ b3).setCell ⟨R, 4, none⟩ b4) := by
  refine ⟨set_blk (i := 4) (v := b4) (set_blk (i := 3) (v := b3) (set_blk (i := 2) (v := b2) (set_blk (i := 1) (v := b1) (set_blk (i := 0) (v := b0) h)))), fun b hne => ?_, by simp, ?_⟩
  · iterate 5 rw [Below.heap_setCell _ _ _ _ (by simpa using hne)]
  · exact (((((Below.refl R w).setCell (p := ⟨R, 0, none⟩) (Nat.le_refl _) _).setCell (p := ⟨R, 1, none⟩) (Nat.le_refl _) _).setCell (p := ⟨R, 2, none⟩) (Nat.le_refl _) _).setCell (p := ⟨R, 3, none⟩) (Nat.le_refl _) _).setCell (p := ⟨R, 4, none⟩) (Nat.le_refl _) _
def EnOut (s : ByteArray) (a C E : Nat) (w : World) (r : Ending) (w' : World) : Prop :=
  ∃ (x : T5) (ac ar : Option Addr) (nc cc nr cr : Nat), r = .returned (.tuple #[.agg #[.int .i64 x.k, .string x.s, .slice ac nc cc, .string x.q, .slice ar nr cr], .bool (okI s a)]) ∧ Kc C E w w' ∧
    (okI s a = true → x = sX s (lE s a) (lQ s a) ∧ ∃ M g F E' cap', StpOwn w' M (.slice ac nc cc) (.slice ar nr cr) x g F ∧ w.heap.size < M ∧ Ct w' C E' cap' s (lE s a, false) [(s.size : Int)] ∧ (E' = E ∨ w.heap.size ≤ E') ∧ E' < M)
theorem StpOwn.weakF {w : World} {N : Nat} {uc ur : Value} {x : T5} {g F : List Nat} (h : StpOwn w N uc ur x g F) : True ∧ ∀ b ∈ g ++ F, N ≤ b := ⟨trivial, fun b hb => by
  rcases List.mem_append.1 hb with hb | hb
  · exact h.2.2.1.2.1 b hb
  · exact h.2.2.2.1.2.1 b hb⟩
theorem Stepped.ownM {w w' : World} {C E : Nat} {s : ByteArray} {e : Nat} {q : Nat × Bool} {xs : List Int} {uc ur : Value} (h : Stepped w w' C E s e q xs uc ur) : ∃ M g F E' cap', StpOwn w' M uc ur (sX s e q) g F ∧ w.heap.size ≤ M ∧ Ct w' C E' cap' s ((sE s e q).2.1, sT s e q) xs ∧ (E' = E ∨ w.heap.size ≤ E') ∧ E' < M ∧ Kc C E w w' := by
  obtain ⟨us, G, M, h1, h2, h3, h4, ⟨E', cap', h5, h6, h7, h8⟩, h9⟩ := h
  obtain ⟨g, hg, hOg, hub⟩ := strs_own h1
  obtain ⟨F, hF, hOF⟩ := h2.relsF
  by_cases hE : w.heap.size ≤ E' + 1
  · exact ⟨E' + 1, g, F, E', cap', ⟨hg, hF, ⟨hOg.1, fun b hb => h8 b (hub b hb), hOg.2.2⟩, ⟨hOF.1, fun b hb => Nat.le_trans h7 (hOF.2.1 b hb), hOF.2.2⟩, fun b hb hb2 => by have := h4 b (hub b hb); have := hOF.2.1 b hb2; omega⟩, hE, h5, h6, by omega, h9⟩
  · exact ⟨w.heap.size, g, F, E', cap', ⟨hg, hF, hOg, ⟨hOF.1, fun b hb => Nat.le_trans h3 (hOF.2.1 b hb), hOF.2.2⟩, fun b hb hb2 => by have := h4 b (hub b hb); have := hOF.2.1 b hb2; omega⟩, Nat.le_refl _, h5, h6, by omega, h9⟩
set_option maxHeartbeats 4000000 in
set_option maxRecDepth 100000 in
theorem entry_any (C E cap : Nat) (s : ByteArray) (a : Nat) (w : World) (h : Ct w C E cap s (a, false) [(s.size : Int)]) (ha : a ≤ s.size) (hs : s.size ≤ 1048576) :
    Calls Tryz.prog 26 #[.pointer (some ⟨C, 0, none⟩)] w fun r w' => EnOut s a C E w r w' := by
  have hCl := h.ltC
  have hEl := h.ltE
  have hA := lA_bd ha
  have hB := lB_bd ha
  have hBat := lB_at ha
  obtain ⟨hQ1, hQ2, hQ3⟩ := lE_at ha
  have hA1 : (lA s a).2.1 ≤ s.size := nm_at (s := s) (k := 4) (q := (a, false)) ha
  have hAn : Hid ((lA s a).1 = ((lA s a).1.toNat : Int)) := by show _ = _; omega
  have hsb := sumB_bd (lT s a)
  have hTz : (lT s a).size ≤ 1048576 := by unfold lT; rw [ByteArray.size_extract]; omega
  go_enter Tryz.func26, Tryz.ntmps26
  go_wp2_with (first | (go_at_call 58; with_reducible refine Calls.mono (cnum_any C E cap s (a, false) [] s.size 4 _ (h.below (bex)) ha (Nat.le_refl _) (by omega) hs (by simp)) ?_) | fail)
  rintro r w1 ⟨rfl, E1, cap1, hC1, hK1, _, hE1, hr1⟩
  have hz1 := hK1.size
  simp only [World.size_alloc] at hz1 hE1
  simp only [List.nil_append, List.length_cons, List.length_nil, Nat.zero_add] at hr1
  have hKw1 : Kc C E w w1 := (Kc.of_below (bex)).trans hK1 (.inl rfl)
  have hR1 : w1.heap[w.heap.size]? = some (.cells #[.int .i64 0, .string ⟨#[]⟩, .slice none 0 0, .string ⟨#[]⟩, .slice none 0 0] 27 (0, 0)) := (hK1.block _ (by simp) (by omega) (by omega)).trans (heap_alloc_new w _)
  have hE1w : E1 = E ∨ w.heap.size + 1 ≤ E1 := hE1
  have hE1l := hC1.ltE
  rw [show (nm s s.size 4 (a, false)).1 = (lA s a).1 from rfl]
  replace hC1 : Ct w1 C E1 cap1 s (lA s a).2 ([] ++ [(s.size : Int)]) := hC1
  clear hK1 h
  have T2 : ∀ wz : World, Ct wz C E1 cap1 s (lA s a).2 ([] ++ [(s.size : Int)]) → Calls Tryz.prog 58 #[.pointer (some ⟨C, 0, none⟩), .int .i64 (4 : Nat)] wz fun r w' => r = .returned (.int .i64 (lB s a).1) ∧ Ct w' C E1 cap1 s (lB s a).2 ([] ++ [(s.size : Int)]) ∧ Kc C E1 wz w' := fun wz hz => by
    refine Calls.mono (cnum_any C E1 cap1 s (lA s a).2 [] s.size 4 wz hz hA1 (Nat.le_refl _) (by omega) hs (by simp)) ?_
    rintro r w' ⟨rfl, hT⟩
    exact ⟨rfl, hT.room (by simpa using hr1)⟩
  have T3 : ∀ wz : World, Ct wz C E1 cap1 s (lB s a).2 ([] ++ [(s.size : Int)]) → Calls Tryz.prog 59 #[.pointer (some ⟨C, 0, none⟩), .int .i64 (lA s a).1] wz fun r w' => r = .returned (.tuple #[]) ∧ Ct w' C E1 cap1 s (lQ s a) ([(s.size : Int)] ++ [(lE s a : Int)]) ∧ Kc C E1 wz w' := fun wz hz => by
    rw [hAn.out]
    refine Calls.mono (enter_any C E1 cap1 s (lB s a).2 [] s.size (lA s a).1.toNat wz hz hBat (Nat.le_refl _) (by omega) hs (by simp)) ?_
    rintro r w' ⟨rfl, E', cap', h1, h2, h3, _, _⟩
    obtain ⟨rfl, rfl⟩ := h3 (by simpa using hr1)
    exact ⟨rfl, h1, h2⟩
  have T4 : ∀ wz : World, Ct wz C E1 cap1 s (lQ s a) ([(s.size : Int)] ++ [(lE s a : Int)]) → Calls Tryz.prog 60 #[.pointer (some ⟨C, 0, none⟩)] wz fun r w' => r = .returned (.string (lT s a)) ∧ ∃ m, w' = wz.drewN m := fun wz hz => left_any C E1 cap1 s (lQ s a) [(s.size : Int)] (lE s a) wz hz hQ2 hQ3
  have T5' : ∀ wz : World, Calls Tryz.prog 17 #[.string (lT s a)] wz fun e w' => e = .returned (.int .u32 (sumB (lT s a))) ∧ w' = wz := fun wz => implSum_any (lT s a) wz (by unfold maxLen; omega)
  have T6 : ∀ wz : World, Ct wz C E1 cap1 s (lQ s a) ([(s.size : Int)] ++ [(lE s a : Int)]) → Calls Tryz.prog 35 #[.pointer (some ⟨C, 0, none⟩)] wz fun r w' => ∃ uc ur, r = .returned (.tuple #[.agg #[.int .i64 (sX s (lE s a) (lQ s a)).k, .string (sX s (lE s a) (lQ s a)).s, uc, .string (sX s (lE s a) (lQ s a)).q, ur], .bool (sO s (lE s a) (lQ s a))]) ∧ Stepped wz w' C E1 s (lE s a) (lQ s a) [(s.size : Int)] uc ur := fun wz hz => step_any C E1 cap1 s (lQ s a) [(s.size : Int)] (lE s a) wz hz hQ2 hQ3 hs (by simp)
  have hRC : w.heap.size ≠ C := by omega
  have hRE : w.heap.size ≠ E1 := by omega
  have HI : Hid (okI s a = (((sumB (lT s a) : Int) == (lB s a).1) && sO s (lE s a) (lQ s a))) := rfl
  generalize hSB : sumB (lT s a) = SB at *
  generalize hNB : (lB s a).1 = NB at *
  have hws : IntKind.i64.wrap SB = SB := by rw [IntKind.wrap_i64]; omega
  have hwt : wrap64 SB = SB := by unfold wrap64; omega
  go_wp2_with (first | (go_at_call 58; with_reducible refine Calls.mono (T2 _ hC1) ?_) | fail)
  rintro r w2 ⟨rfl, hC2, hK2⟩
  have hz2 := hK2.size
  have hR2 := (hK2.block _ (by omega) hRC hRE).trans hR1
  have hKw2 : Kc C E w w2 := hKw1.trans hK2 (by omega)
  clear hC1 hK2 T2 hR1 hKw1
  go_wp2_with (first | (go_at_call 59; with_reducible refine Calls.mono (T3 _ hC2) ?_) | fail)
  rintro r w3 ⟨rfl, hC3, hK3⟩
  have hz3 := hK3.size
  have hR3 := (hK3.block _ (by omega) hRC hRE).trans hR2
  have hKw3 : Kc C E w w3 := hKw2.trans hK3 (by omega)
  clear hC2 hK3 T3 hR2 hKw2
  go_wp2_with (first | (go_at_call 60; with_reducible refine Calls.mono (T4 _ hC3) ?_) | fail)
  rintro r w4 ⟨rfl, m4, rfl⟩
  have hC4 := hC3.drewN m4
  have hKw4 := hKw3.drewN m4
  have hz4 : (w3.drewN m4).heap.size = w3.heap.size := rfl
  have hR4 : (w3.drewN m4).heap[w.heap.size]? = _ := hR3
  generalize w3.drewN m4 = w4 at *
  clear hC3 hKw3 hR3 T4
  have hRl := heap_lt hR4
  have b0 : w4.cell? ⟨w.heap.size, 0, none⟩ = some (.int .i64 0) := by rw [Lib.cell_of_heap hR4]; rfl
  have b1 : w4.cell? ⟨w.heap.size, 1, none⟩ = some (.string ⟨#[]⟩) := by rw [Lib.cell_of_heap hR4]; rfl
  have b2 : w4.cell? ⟨w.heap.size, 2, none⟩ = some (.slice none 0 0) := by rw [Lib.cell_of_heap hR4]; rfl
  have b3 : w4.cell? ⟨w.heap.size, 3, none⟩ = some (.string ⟨#[]⟩) := by rw [Lib.cell_of_heap hR4]; rfl
  have b4 : w4.cell? ⟨w.heap.size, 4, none⟩ = some (.slice none 0 0) := by rw [Lib.cell_of_heap hR4]; rfl
  have bf : ∀ i, w4.frozen? ⟨w.heap.size, i, none⟩ = false := fun i => Lib.frozen_of_heap hR4 i
  cases hne : (SB == NB)
  · have hne2 : (SB != NB) = true := by simp only [bne, hne]; rfl
    have HZ : Hid (okI s a = false) := by rw [hne] at HI; exact HI
    obtain ⟨st1, st2, st3, st4⟩ := st5 hR4 (.int .i64 0) (.string ⟨#[]⟩) (.slice none 0 0) (.string ⟨#[]⟩) (.slice none 0 0)
    have HK : Hid (Kc C E w (((((w4.setCell ⟨w.heap.size, 0, none⟩ (.int .i64 0)).setCell ⟨w.heap.size, 1, none⟩ (.string ⟨#[]⟩)).setCell ⟨w.heap.size, 2, none⟩ (.slice none 0 0)).setCell ⟨w.heap.size, 3, none⟩ (.string ⟨#[]⟩)).setCell ⟨w.heap.size, 4, none⟩ (.slice none 0 0))) := ⟨hKw4.os, hKw4.tape, hKw4.output, by rw [st3]; exact hKw4.size, fun b hb h1 h2 => (st2 b (by omega)).trans (hKw4.block b hb h1 h2)⟩
    have HS : Hid _ := st1
    clear st1 st2 st3 st4 hKw4 hC4 T6
    go_wp2_with (first | (go_at_call 17; with_reducible refine Calls.mono (T5' _) ?_; rintro r w5 ⟨rfl, rfl⟩) | fail)
    refine bodyPost_ret (res5_ct rfl _ _ _ _ ⟨w.heap.size, 0, none⟩ rfl (lod5 HS.out)) rfl ⟨zT, none, none, 0, 0, 0, 0, (by rw [HZ.out]; rfl), HK.out, fun h => by rw [HZ.out] at h; cases h⟩
  · have hne2 : (SB != NB) = false := by simp only [bne, hne]; rfl
    have HZ : Hid (okI s a = sO s (lE s a) (lQ s a)) := by rw [hne] at HI; simpa using HI
    go_wp2_with (first | (go_at_call 17; with_reducible refine Calls.mono (T5' _) ?_; rintro r w5 ⟨rfl, rfl⟩) | (go_at_call 35; with_reducible refine Calls.mono (T6 _ hC4) ?_) | fail)
    rintro r w6 ⟨uc, ur, rfl, hSt⟩
    obtain ⟨M, g, F, E', cap', hO, hM, hC6, hE6, hEM, hK6⟩ := hSt.ownM
    have hz6 := hK6.size
    have hR6 := (hK6.block _ hRl hRC hRE).trans hR4
    have hKw6 : Kc C E w w6 := hKw4.trans hK6 (by omega)
    obtain ⟨ac, cc, rfl, _, _⟩ := hO.1.shape
    have hs2 : ∃ a2 c2, ur = .slice a2 (sX s (lE s a) (lQ s a)).rs.length c2 := by
      obtain ⟨a2, c2, _, h, _⟩ := hO.2.1
      exact ⟨a2, c2, h⟩
    obtain ⟨ar, cr, rfl⟩ := hs2
    have HX : Hid (sO s (lE s a) (lQ s a) = true → ((sE s (lE s a) (lQ s a)).2.1, sT s (lE s a) (lQ s a)) = (lE s a, false)) := fun h => by
      obtain ⟨h1, h2⟩ := sO_at h
      rw [h1, h2]
    clear b0 b1 b2 b3 b4 bf
    have hRl6 := heap_lt hR6
    have b0 : w6.cell? ⟨w.heap.size, 0, none⟩ = some (.int .i64 0) := by rw [Lib.cell_of_heap hR6]; rfl
    have b1 : w6.cell? ⟨w.heap.size, 1, none⟩ = some (.string ⟨#[]⟩) := by rw [Lib.cell_of_heap hR6]; rfl
    have b2 : w6.cell? ⟨w.heap.size, 2, none⟩ = some (.slice none 0 0) := by rw [Lib.cell_of_heap hR6]; rfl
    have b3 : w6.cell? ⟨w.heap.size, 3, none⟩ = some (.string ⟨#[]⟩) := by rw [Lib.cell_of_heap hR6]; rfl
    have b4 : w6.cell? ⟨w.heap.size, 4, none⟩ = some (.slice none 0 0) := by rw [Lib.cell_of_heap hR6]; rfl
    have bf : ∀ i, w6.frozen? ⟨w.heap.size, i, none⟩ = false := fun i => Lib.frozen_of_heap hR6 i
    clear hSt T6 T5' hC4 hKw4 hK6 hR4
    generalize hXe : sX s (lE s a) (lQ s a) = x at *
    have HXe : Hid (x = sX s (lE s a) (lQ s a)) := hXe.symm
    clear hXe
    generalize x.cs.length = n1 at *
    generalize x.rs.length = n2 at *
    obtain ⟨st1, st2, st3, st4⟩ := st5 hR6 (.int .i64 x.k) (.string x.s) (.slice ac n1 cc) (.string x.q) (.slice ar n2 cr)
    have HP : Hid (EnOut s a C E w (.returned (.tuple #[.agg #[.int .i64 x.k, .string x.s, .slice ac n1 cc, .string x.q, .slice ar n2 cr], .bool (sO s (lE s a) (lQ s a))])) (((((w6.setCell ⟨w.heap.size, 0, none⟩ (.int .i64 x.k)).setCell ⟨w.heap.size, 1, none⟩ (.string x.s)).setCell ⟨w.heap.size, 2, none⟩ (.slice ac n1 cc)).setCell ⟨w.heap.size, 3, none⟩ (.string x.q)).setCell ⟨w.heap.size, 4, none⟩ (.slice ar n2 cr))) := by
      refine ⟨x, ac, ar, n1, cc, n2, cr, by rw [HZ.out], ⟨hKw6.os, hKw6.tape, hKw6.output, by rw [st3]; exact hKw6.size, fun b hb h1 h2 => (st2 b (by omega)).trans (hKw6.block b hb h1 h2)⟩, fun hk => ?_⟩
      rw [HZ.out] at hk
      have e := HX.out hk
      rw [e] at hC6
      exact ⟨HXe.out, M, g, F, E', cap', hO.keep (by rw [st3]; exact Nat.le_refl _) (fun b h1 h2 => st2 b (by omega)), by omega, hC6.keep (st2 C (by omega)) (st2 E' (by omega)), by omega, hEM⟩
    have HS : Hid _ := st1
    clear st1 st2 st3 st4 hKw6 hC6 hO hR6
    generalize sO s (lE s a) (lQ s a) = ok at *
    go_wp2
    refine bodyPost_ret (res5_ct (a := 2) (u := 3) rfl _ _ _ _ ⟨w.heap.size, 0, none⟩ rfl (lod5 HS.out)) rfl HP.out
end Go.Proofs.YtbmoimfimeiglaaGreat
