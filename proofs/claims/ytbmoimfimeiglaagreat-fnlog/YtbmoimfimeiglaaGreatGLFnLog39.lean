/- Own texts, joined: contracts that the law's proof goes by. -/
import Derived.Test.YtbmoimfimeiglaaGreatGLFnLog26
import Derived.Test.YtbmoimfimeiglaaGreatGLFnLog38
import Derived.Handy
import Derived.Deep.RegionHeld3
import Derived.Test.YtbmoimfimeiglaaGreatGLFnLog7
namespace Go.Proofs.YtbmoimfimeiglaaGreat
open Go.RowKit Go.Deep
set_option linter.unusedVariables false
theorem runI_wf (s : ByteArray) (W : Nat) : ∀ (n : Nat) (i : Int) (acc cs : List C2), CsWf acc → runI s W n i acc = some cs → CsWf cs
  | 0, i, acc, cs, ha, h => by cases h; exact ha
  | n + 1, i, acc, cs, ha, h => by
    rw [runI] at h
    split at h
    · split at h
      · cases h
      · refine runI_wf s W n _ _ cs ?_ h
        intro y hy
        rcases List.mem_append.1 hy with hy | hy
        · exact ha y hy
        · rcases List.mem_singleton.1 hy with rfl
          exact rowS_wf s W i
    · cases h; exact ha
theorem ans_wf (t : ByteArray) : CsWf (aC t) ∧ (Lit.int .i64 (aW t)).wf = true := by
  cases hA : ansB t with
  | none =>
    obtain ⟨e1, e2, _⟩ := ans_none hA
    rw [e1, e2]
    exact ⟨fun y hy => (by cases hy), wf_64 (by omega) (by omega)⟩
  | some cs =>
    obtain ⟨e1, e2, _⟩ := ans_some hA
    rw [e1, e2]
    have hl := bAt_lt t 0
    refine ⟨?_, wf_64 (by omega) (by omega)⟩
    unfold ansB at hA
    split at hA
    · cases hA
    · unfold resI at hA
      split at hA
      · cases hA
      · rename_i cs' hrun
        split at hA
        · cases hA
          exact runI_wf t _ _ _ _ _ (fun y hy => by cases hy) hrun
        · cases hA
end Go.Proofs.YtbmoimfimeiglaaGreat
namespace Go.Proofs.YtbmoimfimeiglaaGreat
open Go.RowKit Go.Deep
set_option linter.unusedVariables false
section
variable {s : ByteArray} {e : Nat} {q : Nat × Bool}
theorem csn_wf (he : e ≤ s.size) (hs : s.size ≤ 1048576) (h : q.1 ≤ e) : ∀ n, SsWf (csn s e q n).1
  | 0 => fun y hy => by cases hy
  | n + 1 => by
    intro y hy
    rw [csn] at hy
    rcases List.mem_append.1 hy with hy | hy
    · exact csn_wf he hs h n y hy
    · rcases List.mem_singleton.1 hy with rfl
      have := tk_size (s := s) (n := (nm s e 2 (csn s e q n).2).1.toNat) (q := (nm s e 2 (csn s e q n).2).2) he (nm_at (csn_at h n))
      unfold maxLen tx
      omega
theorem rln_wf (he : e ≤ s.size) (hs : s.size ≤ 1048576) (h : q.1 ≤ e) : ∀ n, RsWf (rln s e q n).1
  | 0 => fun y hy => by cases hy
  | n + 1 => by
    intro y hy
    rw [rln] at hy
    rcases List.mem_append.1 hy with hy | hy
    · exact rln_wf he hs h n y hy
    · rcases List.mem_singleton.1 hy with rfl
      have := tk_size (s := s) (n := (nm s e 2 (rln s e q n).2).1.toNat) (q := (nm s e 2 (rln s e q n).2).2) he (nm_at (rln_at h n))
      have ha := ans_wf (rlB s e (rln s e q n).2).1
      refine ⟨?_, ha.2, ha.1⟩
      show (tk s e (nm s e 2 (rln s e q n).2).1.toNat (nm s e 2 (rln s e q n).2).2).1.size ≤ maxLen
      unfold maxLen
      omega
theorem sX_wf (he : e ≤ s.size) (hs : s.size ≤ 1048576) (h : q.1 ≤ e) : (sX s e q).wf := by
  have h1 := nm_bd (s := s) (k := 1) he h (by omega)
  have h2 := nm_at (s := s) (k := 1) h
  have h3 := tx_at (s := s) (k := 2) h2
  have h4 := nm_at (s := s) (k := 1) h3
  have h5 := csn_at (s := s) h4 (nm s e 1 (tx s e 2 (nm s e 1 q).2).2).1.toNat
  have h6 := tx_at (s := s) (k := 2) h5
  have h7 := nm_at (s := s) (k := 1) h6
  refine ⟨wf_64 ?_ ?_, ?_, csn_wf he hs h4 _, ?_, rln_wf he hs h7 _⟩
  · show -9223372036854775808 ≤ (nm s e 1 q).1; omega
  · show (nm s e 1 q).1 ≤ 9223372036854775807; omega
  · have := tk_size (s := s) (n := (nm s e 2 (nm s e 1 q).2).1.toNat) (q := (nm s e 2 (nm s e 1 q).2).2) he (nm_at h2)
    show (tk s e (nm s e 2 (nm s e 1 q).2).1.toNat (nm s e 2 (nm s e 1 q).2).2).1.size ≤ maxLen
    unfold maxLen; omega
  · have := tk_size (s := s) (n := (nm s e 2 (sC' s e q).2).1.toNat) (q := (nm s e 2 (sC' s e q).2).2) he (nm_at h5)
    show (tk s e (nm s e 2 (sC' s e q).2).1.toNat (nm s e 2 (sC' s e q).2).2).1.size ≤ maxLen
    unfold maxLen; omega
end
theorem strs_own {w : World} {N : Nat} {u : Value} {cs : List ByteArray} (h : w.ownsRow N 9 1 u cs.length (cs.map Value.string)) : ∃ g, StrsF w u cs g ∧ Own w N g ∧ ∀ b ∈ g, u.ownBlock = some b := by
  have hlt := ownsRow_lt h
  by_cases hne : cs = []
  · subst hne
    refine ⟨[], ?_, by simp [Own, Free], fun b hb => by cases hb⟩
    rcases h.2 with ⟨rfl, _⟩ | ⟨g, cap, cur, rfl, _, _, hn, hm, _⟩
    · exact ⟨none, 0, rfl, Nat.le_refl _, by simp [maxLen], fun _ => rfl, fun x => absurd rfl x⟩
    · exact ⟨_, cap, rfl, hn, hm, fun _ => rfl, fun x => absurd rfl x⟩
  have hp : 0 < cs.length := List.length_pos_iff.2 hne
  rcases h.2 with ⟨_, h0⟩ | ⟨g, cap, cur, rfl, hg, hc, hn, hm, hs, ht⟩
  · omega
  refine ⟨[g], ⟨_, cap, rfl, hn, hm, fun x => absurd x hne, fun _ => ⟨g, 0, rfl, (hlt g rfl).2, rfl, fun i x hx => ?_⟩⟩, ⟨by simp, fun b hb => by rcases List.mem_singleton.1 hb with rfl; exact hg, fun b hb o => by rcases List.mem_singleton.1 hb with rfl; exact Lib.frozen_of_heap hc o⟩, fun b hb => by rcases List.mem_singleton.1 hb with rfl; rfl⟩
  have hu : (cs.map Value.string)[i]? = some (.string x) := by simp [hx]
  have hi : i < cs.length := (List.getElem?_eq_some_iff.1 hx).1
  rw [Nat.zero_add]
  simp only [World.cell?, hc]
  rw [← ht, List.getElem?_take, if_pos (by omega), Array.getElem?_toList] at hu
  simpa using hu
def Stepped (w w' : World) (C E : Nat) (s : ByteArray) (e : Nat) (q : Nat × Bool) (xs : List Int) (uc ur : Value) : Prop :=
  ∃ us G M, w'.ownsRow w.heap.size 9 1 uc (sX s e q).cs.length ((sX s e q).cs.map Value.string) ∧ RelOwn w' M ur (sX s e q).rs us G ∧ w.heap.size ≤ M ∧ (∀ b, uc.ownBlock = some b → b < M) ∧ (∃ E' cap', Ct w' C E' cap' s ((sE s e q).2.1, sT s e q) xs ∧ (E' = E ∨ w.heap.size ≤ E') ∧ E' < M ∧ ∀ b, uc.ownBlock = some b → E' < b) ∧ Kc C E w w'
end Go.Proofs.YtbmoimfimeiglaaGreat
namespace Go.Proofs.YtbmoimfimeiglaaGreat
open Go.RowKit Go.Deep
set_option linter.unusedVariables false
theorem Stepped.drew {w w' : World} {C E : Nat} {s : ByteArray} {e : Nat} {q : Nat × Bool} {xs : List Int} {uc ur : Value} (h : Stepped w w' C E s e q xs uc ur) : Stepped w w'.drew C E s e q xs uc ur := by
  obtain ⟨us, G, M, h1, h2, h3, h4, ⟨E', cap', h5, h6⟩, h7⟩ := h
  exact ⟨us, G, M, ownsRow_keep h1 fun _ _ => rfl, h2.keep (Nat.le_refl _) fun _ _ _ => rfl, h3, h4, ⟨E', cap', h5.keep rfl rfl, h6⟩, ⟨h7.os, h7.tape, h7.output, h7.size, h7.block⟩⟩
set_option maxHeartbeats 4000000 in
set_option maxRecDepth 100000 in
theorem step_any (C E cap : Nat) (s : ByteArray) (q : Nat × Bool) (xs : List Int) (e : Nat) (w : World) (h : Ct w C E cap s q (xs ++ [(e : Int)])) (hq : q.1 ≤ e) (he : e ≤ s.size) (hs : s.size ≤ 1048576) (hl : xs.length ≤ 10000) :
    Calls Tryz.prog 35 #[.pointer (some ⟨C, 0, none⟩)] w fun r w' => ∃ uc ur, r = .returned (.tuple #[.agg #[.int .i64 (sX s e q).k, .string (sX s e q).s, uc, .string (sX s e q).q, ur], .bool (sO s e q)]) ∧ Stepped w w' C E s e q xs uc ur := by
  have hCl := h.ltC
  have hEl := h.ltE
  have q1 := nm_at (s := s) (k := 1) hq
  have q2 := tx_at (s := s) (k := 2) q1
  have q3 := nm_at (s := s) (k := 1) q2
  have q4 : (sC' s e q).2.1 ≤ e := csn_at (s := s) q3 _
  have q5 := tx_at (s := s) (k := 2) q4
  have hwf := sX_wf he hs hq
  go_enter Tryz.func35, Tryz.ntmps35
  go_wp2_with (first | (go_at_call 58; with_reducible refine Calls.mono (cnum_any C E cap s q xs e 1 _ (h.below (bex)) hq he (by omega) hs hl) ?_) | fail)
  rintro r w1 ⟨rfl, E1, cap1, hC1, hK1, _, hE1, hr1⟩
  have hln : (xs ++ [(e : Int)]).length = xs.length + 1 := by simp
  rw [hln] at hr1
  have hz1 := hK1.size
  have hR1 : w1.heap[w.heap.size]? = some (.cells #[.int .i64 0, .string ⟨#[]⟩, .slice none 0 0, .string ⟨#[]⟩, .slice none 0 0] 27 (0, 0)) := (hK1.block _ (by simp) (by omega) (by omega)).trans (heap_alloc_new w _)
  simp only [World.size_alloc] at hz1 hE1
  have hKw1 : Kc C E w w1 := (Kc.of_below (bex)).trans hK1 (.inl rfl)
  have hE1w : E1 = E ∨ w.heap.size + 1 ≤ E1 := hE1
  have hC1l := hC1.ltC
  have hE1l := hC1.ltE
  clear hK1 h
  have T2 : ∀ wz : World, Ct wz C E1 cap1 s (sA s e q).2 (xs ++ [(e : Int)]) → Calls Tryz.prog 66 #[.pointer (some ⟨C, 0, none⟩)] wz fun r w' => r = .returned (.string (sB s e q).1) ∧ Ct w' C E1 cap1 s (sB s e q).2 (xs ++ [(e : Int)]) ∧ Kc C E1 wz w' := fun wz hz => ctext_any C E1 cap1 s (sA s e q).2 xs e wz hz (by omega) q1 he hs hl
  have T3 : ∀ wz : World, Ct wz C E1 cap1 s (sB s e q).2 (xs ++ [(e : Int)]) → Calls Tryz.prog 67 #[.pointer (some ⟨C, 0, none⟩), .func (.func 66) #[.pointer (some ⟨C, 0, none⟩)] #[]] wz fun r w' => ∃ u, r = .returned u ∧ w'.ownsRow wz.heap.size 9 1 u (sX s e q).cs.length ((sX s e q).cs.map Value.string) ∧ Ct w' C E1 cap1 s (sC' s e q).2 (xs ++ [(e : Int)]) ∧ Kc C E1 wz w' := by
    intro wz hz
    refine Calls.mono (sev_any C E1 cap1 s (sB s e q).2 xs e wz hz (by omega) q2 he hs hl) ?_
    rintro r w' ⟨u, rfl, h1, h2, h3⟩
    refine ⟨u, rfl, ?_, h2, h3⟩
    show w'.ownsRow wz.heap.size 9 1 u (sC' s e q).1.length ((sC' s e q).1.map Value.string)
    have hcl : (sC' s e q).1.length = (nm s e 1 (sB s e q).2).1.toNat := csn_len _
    rw [hcl]; exact h1
  have T4 : ∀ wz : World, Ct wz C E1 cap1 s (sC' s e q).2 (xs ++ [(e : Int)]) → Calls Tryz.prog 66 #[.pointer (some ⟨C, 0, none⟩)] wz fun r w' => r = .returned (.string (sD s e q).1) ∧ Ct w' C E1 cap1 s (sD s e q).2 (xs ++ [(e : Int)]) ∧ Kc C E1 wz w' := fun wz hz => ctext_any C E1 cap1 s (sC' s e q).2 xs e wz hz (by omega) q4 he hs hl
  have T5' : ∀ wz : World, Ct wz C E1 cap1 s (sD s e q).2 (xs ++ [(e : Int)]) → Calls Tryz.prog 68 #[.pointer (some ⟨C, 0, none⟩), .func (.func 69) #[.pointer (some ⟨C, 0, none⟩)] #[]] wz fun r w' => ∃ u us G, r = .returned u ∧ RelOwn w' wz.heap.size u (sX s e q).rs us G ∧ Ct w' C E1 cap1 s (sE s e q).2 (xs ++ [(e : Int)]) ∧ Kc C E1 wz w' := fun wz hz => sevR_any C E1 cap1 s (sD s e q).2 xs e wz hz (by omega) q5 he hs hl
  have T6 : ∀ wz : World, Ct wz C E1 cap1 s (sE s e q).2 (xs ++ [(e : Int)]) → Calls Tryz.prog 70 #[.pointer (some ⟨C, 0, none⟩)] wz fun r w' => r = .returned (.tuple #[]) ∧ Ct w' C E1 cap1 s ((sE s e q).2.1, sT s e q) xs ∧ Kc C E1 wz w' := fun wz hz => leave_any C E1 cap1 s (sE s e q).2 xs e wz hz
  have hRC : w.heap.size ≠ C := by omega
  have hRE : w.heap.size ≠ E1 := by omega
  have hSC : w1.heap.size ≠ C := by omega
  have hSE : w1.heap.size ≠ E1 := by omega
  rw [show (nm s e 1 q).1 = (sA s e q).1 from rfl]
  replace hC1 : Ct w1 C E1 cap1 s (sA s e q).2 (xs ++ [(e : Int)]) := hC1
  go_wp2_with (first | (go_at_call 66; with_reducible refine Calls.mono (T2 _ (hC1.below (bex))) ?_) | fail)
  rintro r w2 ⟨rfl, hC2, hK2⟩
  have hS2 : w2.heap[w1.heap.size]? = some (.cells #[.int .i64 (sA s e q).1, .string ⟨#[]⟩, .slice none 0 0, .string ⟨#[]⟩, .slice none 0 0] 27 (0, 0)) := (hK2.block _ (by simp) hSC hSE).trans (heap_alloc_new w1 _)
  have hR2 : w2.heap[w.heap.size]? = some (.cells #[.int .i64 0, .string ⟨#[]⟩, .slice none 0 0, .string ⟨#[]⟩, .slice none 0 0] 27 (0, 0)) := (hK2.block _ (by simp; omega) hRC hRE).trans ((heap_alloc_old w1 _ (by omega)).trans hR1)
  have hz2 := hK2.size
  simp only [World.size_alloc] at hz2
  have hKa2 : Kc C E1 w1 w2 := (Kc.of_below (bex)).trans hK2 (.inl rfl)
  have hS2l := heap_lt hS2
  have s21 : w2.cell? ⟨w1.heap.size, 1, none⟩ = some (.string ⟨#[]⟩) := by rw [Lib.cell_of_heap hS2]; rfl
  have s2f : w2.frozen? ⟨w1.heap.size, 1, none⟩ = false := Lib.frozen_of_heap hS2 1
  clear hC1 hK2
  go_wp2_with (first | (go_at_call 67; with_reducible refine Calls.mono (T3 _ (hC2.far hSC hSE 1 _)) ?_) | fail)
  rintro r w3 ⟨uc, rfl, hO3, hC3, hK3⟩
  have hs3 : ∃ ac nc cc, uc = .slice ac nc cc := by
    rcases hO3.2 with ⟨hv, _⟩ | ⟨g, cap, cur, hv, _⟩ <;> exact ⟨_, _, _, hv⟩
  obtain ⟨ac, nc, cc, rfl⟩ := hs3
  have hS3 : w3.heap[w1.heap.size]? = some (.cells #[.int .i64 (sA s e q).1, .string (sB s e q).1, .slice none 0 0, .string ⟨#[]⟩, .slice none 0 0] 27 (0, 0)) := (hK3.block _ (by simpa using hS2l) hSC hSE).trans (by rw [set_blk hS2]; rfl)
  have hR3 : w3.heap[w.heap.size]? = some (.cells #[.int .i64 0, .string ⟨#[]⟩, .slice none 0 0, .string ⟨#[]⟩, .slice none 0 0] 27 (0, 0)) := (hK3.block _ (by simp; omega) hRC hRE).trans ((Below.heap_setCell _ _ _ _ (by intro e; dsimp only at e; omega)).trans hR2)
  have hz3 := hK3.size
  simp only [World.size_setCell] at hz3 hO3
  have hKa3 : Kc C E1 w1 w3 := (hKa2.far (Nat.le_refl _) 1 _).trans hK3 (.inl rfl)
  have hS3l := heap_lt hS3
  have s31 : w3.cell? ⟨w1.heap.size, 2, none⟩ = some (.slice none 0 0) := by rw [Lib.cell_of_heap hS3]; rfl
  have s3f : w3.frozen? ⟨w1.heap.size, 2, none⟩ = false := Lib.frozen_of_heap hS3 2
  have hOb := ownsRow_lt hO3
  clear hC2 hK3 hKa2 hS2 hR2 s21 s2f
  go_wp2_with (first | (go_at_call 66; with_reducible refine Calls.mono (T4 _ (hC3.far hSC hSE 2 _)) ?_) | fail)
  rintro r w4 ⟨rfl, hC4, hK4⟩
  have hS4 : w4.heap[w1.heap.size]? = some (.cells #[.int .i64 (sA s e q).1, .string (sB s e q).1, .slice ac nc cc, .string ⟨#[]⟩, .slice none 0 0] 27 (0, 0)) := (hK4.block _ (by simpa using hS3l) hSC hSE).trans (by rw [set_blk hS3]; rfl)
  have hR4 : w4.heap[w.heap.size]? = some (.cells #[.int .i64 0, .string ⟨#[]⟩, .slice none 0 0, .string ⟨#[]⟩, .slice none 0 0] 27 (0, 0)) := (hK4.block _ (by simp; omega) hRC hRE).trans ((Below.heap_setCell _ _ _ _ (by intro e; dsimp only at e; omega)).trans hR3)
  have hO4 : w4.ownsRow w2.heap.size 9 1 (.slice ac nc cc) (sX s e q).cs.length ((sX s e q).cs.map Value.string) := ownsRow_keep hO3 fun b hb => (hK4.block b (by simp; exact (hOb b hb).2) (by have := (hOb b hb).1; omega) (by have := (hOb b hb).1; omega)).trans (Below.heap_setCell _ _ _ _ (by intro e; dsimp only at e; have := (hOb b hb).1; omega))
  have hz4 := hK4.size
  simp only [World.size_setCell] at hz4
  have hKa4 : Kc C E1 w1 w4 := (hKa3.far (Nat.le_refl _) 2 _).trans hK4 (.inl rfl)
  have hS4l := heap_lt hS4
  have s41 : w4.cell? ⟨w1.heap.size, 3, none⟩ = some (.string ⟨#[]⟩) := by rw [Lib.cell_of_heap hS4]; rfl
  have s4f : w4.frozen? ⟨w1.heap.size, 3, none⟩ = false := Lib.frozen_of_heap hS4 3
  clear hC3 hK4 hKa3 hS3 hR3 s31 s3f
  go_wp2_with (first | (go_at_call 68; with_reducible refine Calls.mono (T5' _ (hC4.far hSC hSE 3 _)) ?_) | fail)
  rintro r w5 ⟨ur, us, G, rfl, hO5, hC5, hK5⟩
  obtain ⟨ar, cr, rfl⟩ := hO5.shape
  generalize (sX s e q).rs.length = nr at *
  have hS5 : w5.heap[w1.heap.size]? = some (.cells #[.int .i64 (sA s e q).1, .string (sB s e q).1, .slice ac nc cc, .string (sD s e q).1, .slice none 0 0] 27 (0, 0)) := (hK5.block _ (by simpa using hS4l) hSC hSE).trans (by rw [set_blk hS4]; rfl)
  have hR5 : w5.heap[w.heap.size]? = some (.cells #[.int .i64 0, .string ⟨#[]⟩, .slice none 0 0, .string ⟨#[]⟩, .slice none 0 0] 27 (0, 0)) := (hK5.block _ (by simp; omega) hRC hRE).trans ((Below.heap_setCell _ _ _ _ (by intro e; dsimp only at e; omega)).trans hR4)
  have hz5 := hK5.size
  simp only [World.size_setCell] at hz5 hO5
  have hKa5 : Kc C E1 w1 w5 := (hKa4.far (Nat.le_refl _) 3 _).trans hK5 (.inl rfl)
  have hOb4 := ownsRow_lt hO4
  have hO5s : w5.ownsRow w2.heap.size 9 1 (.slice ac nc cc) (sX s e q).cs.length ((sX s e q).cs.map Value.string) := ownsRow_keep hO4 fun b hb => (hK5.block b (by simp; exact (hOb4 b hb).2) (by have := (hOb4 b hb).1; omega) (by have := (hOb4 b hb).1; omega)).trans (Below.heap_setCell _ _ _ _ (by intro e; dsimp only at e; have := (hOb4 b hb).1; omega))
  have hS5l := heap_lt hS5
  have s51 : w5.cell? ⟨w1.heap.size, 4, none⟩ = some (.slice none 0 0) := by rw [Lib.cell_of_heap hS5]; rfl
  have s5f : w5.frozen? ⟨w1.heap.size, 4, none⟩ = false := Lib.frozen_of_heap hS5 4
  clear hC4 hK5 hKa4 hS4 hR4 s41 s4f hO4
  go_wp2_with (first | (go_at_call 70; with_reducible refine Calls.mono (T6 _ (hC5.far hSC hSE 4 _)) ?_) | fail)
  rintro r w6 ⟨rfl, hC6, hK6⟩
  have hS6 : w6.heap[w1.heap.size]? = some (.cells #[.int .i64 (sA s e q).1, .string (sB s e q).1, .slice ac nc cc, .string (sD s e q).1, .slice ar nr cr] 27 (0, 0)) := (hK6.block _ (by simpa using hS5l) hSC hSE).trans (by rw [set_blk hS5]; rfl)
  have hR6 : w6.heap[w.heap.size]? = some (.cells #[.int .i64 0, .string ⟨#[]⟩, .slice none 0 0, .string ⟨#[]⟩, .slice none 0 0] 27 (0, 0)) := (hK6.block _ (by simp; omega) hRC hRE).trans ((Below.heap_setCell _ _ _ _ (by intro e; dsimp only at e; omega)).trans hR5)
  have hz6 := hK6.size
  simp only [World.size_setCell] at hz6
  have hKa6 : Kc C E1 w1 w6 := (hKa5.far (Nat.le_refl _) 4 _).trans hK6 (.inl rfl)
  have hOb5 := ownsRow_lt hO5s
  have hO6 : w6.ownsRow w2.heap.size 9 1 (.slice ac nc cc) (sX s e q).cs.length ((sX s e q).cs.map Value.string) := ownsRow_keep hO5s fun b hb => (hK6.block b (by simp; exact (hOb5 b hb).2) (by have := (hOb5 b hb).1; omega) (by have := (hOb5 b hb).1; omega)).trans (Below.heap_setCell _ _ _ _ (by intro e; dsimp only at e; have := (hOb5 b hb).1; omega))
  have hQ6 : RelOwn w6 w4.heap.size (.slice ar nr cr) (sX s e q).rs us G := hO5.keep (by omega) fun b h1 h2 => (hK6.block b (by simpa using h2) (by omega) (by omega)).trans (Below.heap_setCell _ _ _ _ (by intro e; dsimp only at e; omega))
  have hbc : ∀ b, (Value.slice ac nc cc).ownBlock = some b → b < w4.heap.size := fun b hb => (hOb4 b hb).2
  clear hO5 hO5s hK6 hKa5 hS5 hR5 s51 s5f hC5 hOb hOb4 hOb5
  obtain ⟨g6, hg6, _, _⟩ := strs_own hO6
  obtain ⟨F6, hF6, _⟩ := hQ6.relsF
  have hIs : StpIs w6 (.slice ac nc cc) (.slice ar nr cr) (sX s e q) := ⟨⟨g6, hg6⟩, hF6.is⟩
  have HSt : Hid (∀ wz : World, Below w6.heap.size w6 wz → Calls Tryz.prog 19 #[.agg #[.int .i64 (sA s e q).1, .string (sB s e q).1, .slice ac nc cc, .string (sD s e q).1, .slice ar nr cr]] wz fun r w' => r = .returned (.bool (okStep (sX s e q))) ∧ Below wz.heap.size wz w') := fun wz hz => implStepOk_any (sX s e q) (.slice ac nc cc) (.slice ar nr cr) wz hwf (hIs.below hz)
  have hR6l := heap_lt hR6
  have hS6l := heap_lt hS6
  have hC6l := hC6.ltC
  have HF : Hid (∀ wz : World, Below w6.heap.size w6 wz → Stepped w (((((wz.setCell ⟨w.heap.size, 0, none⟩ (.int .i64 (sA s e q).1)).setCell ⟨w.heap.size, 1, none⟩ (.string (sB s e q).1)).setCell ⟨w.heap.size, 2, none⟩ (.slice ac nc cc)).setCell ⟨w.heap.size, 3, none⟩ (.string (sD s e q).1)).setCell ⟨w.heap.size, 4, none⟩ (.slice ar nr cr)) C E s e q xs (.slice ac nc cc) (.slice ar nr cr)) := by
    intro wz hz
    have hfar : ∀ b, b ≠ w.heap.size → (((((wz.setCell ⟨w.heap.size, 0, none⟩ (.int .i64 (sA s e q).1)).setCell ⟨w.heap.size, 1, none⟩ (.string (sB s e q).1)).setCell ⟨w.heap.size, 2, none⟩ (.slice ac nc cc)).setCell ⟨w.heap.size, 3, none⟩ (.string (sD s e q).1)).setCell ⟨w.heap.size, 4, none⟩ (.slice ar nr cr)).heap[b]? = wz.heap[b]? := by
      intro b hb
      iterate 5 rw [Below.heap_setCell _ _ _ _ (by intro e; dsimp only at e; omega)]
    have hszW : (((((wz.setCell ⟨w.heap.size, 0, none⟩ (.int .i64 (sA s e q).1)).setCell ⟨w.heap.size, 1, none⟩ (.string (sB s e q).1)).setCell ⟨w.heap.size, 2, none⟩ (.slice ac nc cc)).setCell ⟨w.heap.size, 3, none⟩ (.string (sD s e q).1)).setCell ⟨w.heap.size, 4, none⟩ (.slice ar nr cr)).heap.size = wz.heap.size := by simp
    refine ⟨us, G, w4.heap.size, ?_, ?_, by omega, hbc, ⟨E1, cap1, ?_, by omega, by omega, fun b hb => by have := (ownsRow_lt hO6 b hb).1; omega⟩, ?_⟩
    · have o1 : wz.ownsRow w2.heap.size 9 1 (.slice ac nc cc) (sX s e q).cs.length ((sX s e q).cs.map Value.string) := ownsRow_keep hO6 fun b hb => hz.block b (ownsRow_lt hO6 b hb).2
      have o2 := ownsRow_keep (w' := ((((wz.setCell ⟨w.heap.size, 0, none⟩ (.int .i64 (sA s e q).1)).setCell ⟨w.heap.size, 1, none⟩ (.string (sB s e q).1)).setCell ⟨w.heap.size, 2, none⟩ (.slice ac nc cc)).setCell ⟨w.heap.size, 3, none⟩ (.string (sD s e q).1)).setCell ⟨w.heap.size, 4, none⟩ (.slice ar nr cr)) o1 fun b hb => hfar b (by have := (ownsRow_lt o1 b hb).1; omega)
      refine ⟨o2.1, ?_⟩
      rcases o2.2 with o3 | ⟨g, cap, cur, h1, h2, h3⟩
      · exact .inl o3
      · exact .inr ⟨g, cap, cur, h1, by omega, h3⟩
    · exact (hQ6.below hz).keep (by rw [hszW]; exact Nat.le_refl _) fun b h1 h2 => hfar b (by omega)
    · exact (hC6.below hz).keep (hfar C (by omega)) (hfar E1 (by omega))
    · have k1 : Kc C E1 w1 wz := hKa6.trans (Kc.of_below hz) (.inl rfl)
      have k2 : Kc C E w wz := hKw1.trans k1 (by omega)
      exact ⟨k2.os, k2.tape, k2.output, by rw [hszW]; exact k2.size, fun b hb h1 h2 => (hfar b (by omega)).trans (k2.block b hb h1 h2)⟩
  obtain ⟨_, _, _, c3, _⟩ := hC6.cells
  dsimp only at c3
  have a0 : w6.cell? ⟨w1.heap.size, 0, none⟩ = some (.int .i64 (sA s e q).1) := by rw [Lib.cell_of_heap hS6]; rfl
  have a1 : w6.cell? ⟨w1.heap.size, 1, none⟩ = some (.string (sB s e q).1) := by rw [Lib.cell_of_heap hS6]; rfl
  have a2 : w6.cell? ⟨w1.heap.size, 2, none⟩ = some (.slice ac nc cc) := by rw [Lib.cell_of_heap hS6]; rfl
  have a3 : w6.cell? ⟨w1.heap.size, 3, none⟩ = some (.string (sD s e q).1) := by rw [Lib.cell_of_heap hS6]; rfl
  have a4 : w6.cell? ⟨w1.heap.size, 4, none⟩ = some (.slice ar nr cr) := by rw [Lib.cell_of_heap hS6]; rfl
  have b0 : w6.cell? ⟨w.heap.size, 0, none⟩ = some (.int .i64 0) := by rw [Lib.cell_of_heap hR6]; rfl
  have b1 : w6.cell? ⟨w.heap.size, 1, none⟩ = some (.string ⟨#[]⟩) := by rw [Lib.cell_of_heap hR6]; rfl
  have b2 : w6.cell? ⟨w.heap.size, 2, none⟩ = some (.slice none 0 0) := by rw [Lib.cell_of_heap hR6]; rfl
  have b3 : w6.cell? ⟨w.heap.size, 3, none⟩ = some (.string ⟨#[]⟩) := by rw [Lib.cell_of_heap hR6]; rfl
  have b4 : w6.cell? ⟨w.heap.size, 4, none⟩ = some (.slice none 0 0) := by rw [Lib.cell_of_heap hR6]; rfl
  have bf : ∀ i, w6.frozen? ⟨w.heap.size, i, none⟩ = false := fun i => Lib.frozen_of_heap hR6 i
  have hRS : w.heap.size ≠ w1.heap.size := by omega
  have HO : Hid (sO s e q = (!sT s e q && okStep (sX s e q))) := rfl
  clear hC6 hKa6 hS6 hR6 hO6 hQ6 hbc hg6 hF6 hIs hKw1 T2 T3 T4 T5' T6 hwf
  cases ht : sT s e q
  · rw [ht] at c3
    go_wp2_with fail
    go_region_held3 (fun w' => w'.cell? ⟨w1.heap.size, 0, none⟩ = some (.int .i64 (sA s e q).1) ∧ w'.cell? ⟨w1.heap.size, 1, none⟩ = some (.string (sB s e q).1) ∧ w'.cell? ⟨w1.heap.size, 2, none⟩ = some (.slice ac nc cc) ∧ w'.cell? ⟨w1.heap.size, 3, none⟩ = some (.string (sD s e q).1) ∧ w'.cell? ⟨w1.heap.size, 4, none⟩ = some (.slice ar nr cr) ∧ w'.cell? ⟨C, 3, none⟩ = some (.bool false)) (first | (with_reducible exact ⟨a0, a1, a2, a3, a4, c3⟩) | (with_reducible exact ⟨y0, y1, y2, y3, y4, y5⟩) | (refine ⟨?_, ?_, ?_, ?_, ?_, ?_⟩ <;> first | (with_reducible assumption) | (go_simp; done))) (first | (go_at_call 19; with_reducible refine Calls.mono (HSt.out _ (by repeat (first | (with_reducible exact Below.refl _ _) | (with_reducible refine Below.drew ?_) | (with_reducible refine belowN ?_ _) | (with_reducible refine Below.alloc ?_ ?hh _; case hh => first | (simp; done) | (simp; omega) | omega) | (with_reducible refine Below.setCell ?_ ?hh _; case hh => first | (simp; done) | (simp; omega) | omega) | refine bstep (by assumption) (by first | (simp; done) | (simp; omega) | omega) ?_))) ?_; rintro r w7 ⟨rfl, hb7⟩; have bel7 : Below w6.heap.size w6 w7 := (by repeat (first | (with_reducible exact Below.refl _ _) | (with_reducible refine Below.drew ?_) | (with_reducible refine belowN ?_ _) | (with_reducible refine Below.alloc ?_ ?hh _; case hh => first | (simp; done) | (simp; omega) | omega) | (with_reducible refine Below.setCell ?_ ?hh _; case hh => first | (simp; done) | (simp; omega) | omega) | refine bstep (by assumption) (by first | (simp; done) | (simp; omega) | omega) ?_)); have hzz := bel7.size; have y0 := ((bcell bel7).1 w1.heap.size 0 hS6l).trans a0; have y1 := ((bcell bel7).1 w1.heap.size 1 hS6l).trans a1; have y2 := ((bcell bel7).1 w1.heap.size 2 hS6l).trans a2; have y3 := ((bcell bel7).1 w1.heap.size 3 hS6l).trans a3; have y4 := ((bcell bel7).1 w1.heap.size 4 hS6l).trans a4; have r0 := ((bcell bel7).1 w.heap.size 0 hR6l).trans b0; have r1 := ((bcell bel7).1 w.heap.size 1 hR6l).trans b1; have r2 := ((bcell bel7).1 w.heap.size 2 hR6l).trans b2; have r3 := ((bcell bel7).1 w.heap.size 3 hR6l).trans b3; have r4 := ((bcell bel7).1 w.heap.size 4 hR6l).trans b4; have y5 := ((bcell bel7).1 C 3 hC6l).trans c3; have rf : ∀ i, w7.frozen? ⟨w.heap.size, i, none⟩ = false := (fun i => ((bcell bel7).2 w.heap.size i hR6l).trans (bf i))) | fail)
    all_goals go_wp2
    all_goals refine bodyPost_ret (v := .tuple #[.agg #[.int .i64 (sA s e q).1, .string (sB s e q).1, .slice ac nc cc, .string (sD s e q).1, .slice ar nr cr], .bool (okStep (sX s e q))]) (by simp [results, Tryz.results35, go_sem, *]) rfl ⟨.slice ac nc cc, .slice ar nr cr, by rw [HO.out, ht]; rfl, HF.out _ (by repeat (first | (with_reducible exact Below.refl _ _) | (with_reducible refine Below.drew ?_) | (with_reducible refine belowN ?_ _) | (with_reducible refine Below.alloc ?_ ?hh _; case hh => first | (simp; done) | (simp; omega) | omega) | (with_reducible refine Below.setCell ?_ ?hh _; case hh => first | (simp; done) | (simp; omega) | omega) | refine bstep (by assumption) (by first | (simp; done) | (simp; omega) | omega) ?_))⟩
  · rw [ht] at c3
    go_wp2_with fail
    first | go_region | fail
    all_goals go_wp2
    all_goals refine bodyPost_ret (v := .tuple #[.agg #[.int .i64 (sA s e q).1, .string (sB s e q).1, .slice ac nc cc, .string (sD s e q).1, .slice ar nr cr], .bool false]) (by simp [results, Tryz.results35, go_sem, *]) rfl ⟨.slice ac nc cc, .slice ar nr cr, by rw [HO.out, ht]; rfl, (HF.out w6 (Below.refl _ _)).drew⟩
end Go.Proofs.YtbmoimfimeiglaaGreat
