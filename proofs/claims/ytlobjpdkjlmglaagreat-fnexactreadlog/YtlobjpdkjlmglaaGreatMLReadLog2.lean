/- Own texts, joined: contracts that the law's proof goes by. -/
import Derived.Test.YtlobjpdkjlmglaaGreatMLReadLog1
import Derived.Handy
import Derived.Deep.RegionHeld3
import Derived.Test.YtlobjpdkjlmglaaGreatSchP
import Derived.Test.YtlobjpdkjlmglaaGreatTake
/- Own text. A new cutter; the cutter's method step. -/
namespace Go.Proofs.YtlobjpdkjlmglaaGreat
open Go.RowKit Go.Deep
set_option linter.unusedVariables false
set_option maxHeartbeats 2000000 in
set_option maxRecDepth 100000 in
theorem push_nil (C : Nat) (s : ByteArray) (x : Int) (w : World) (hbk : w.heap[C]? = some (.cells #[.string s, .int .i64 0, .slice none 0 0, .bool false] 62 (0, 0))) :
    Calls Tryz.prog 67 #[.pointer (some ⟨C, 2, none⟩), .int .i64 x] w fun e w' => e = .returned (.tuple #[]) ∧ ∃ E cap, Ct w' C E cap s (0, false) [x] ∧ Kc C C w w' ∧ w.heap.size ≤ E := by
  obtain ⟨i0, hi, hz0, hz1, hz2⟩ := info_parts Tryz.infoInt
  have c2 : w.cell? ⟨C, 2, none⟩ = some (.slice none 0 0) := by rw [Lib.cell_of_heap hbk]; rfl
  have hltC := heap_lt hbk
  have hownA : (w.alloc (.cells #[.int .i64 x] 3)).ownsRow 0 3 1 (.slice none 0 0) 0 [] := World.ownsRow_nil _ _ _ _
  go_enter Tryz.func67, Tryz.ntmps67
  go_wp2_with (at_builtin; refine wpList_append_own_at _ rfl _ _ 58 rfl 0 3 i0 (.int .i64 0) 1 8 Tryz.underlying58 hi hz0 hz1 hz2 rfl (by decide) _ _ _ rfl hownA ⟨w.heap.size, 0, none⟩ 1 1 [.int .i64 x] rfl (by simp) (cell_one_new _ _ _) ?c2 ?c3 ?c4 ?c5 ?_)
  case c2 => intro y hy; rcases List.mem_singleton.1 hy with rfl; rfl
  case c3 => unfold maxLen; omega
  case c4 => omega
  case c5 => omega
  intro v' w2 hown' hgrow _ hat
  have hs : ∃ E' cap', v' = .slice (some ⟨E', 0, none⟩) (0 + 1) cap' := by
    rcases hown'.2 with ⟨_, h0⟩ | ⟨g, cap', cur, hv, _⟩
    · omega
    · exact ⟨g, cap', hv⟩
  obtain ⟨E', cap', rfl⟩ := hs
  have hE : w.heap.size ≤ E' := by
    rcases hat with e | e
    · simp [Value.ownBlock] at e
    · have := Option.some.inj e; simp at this; omega
  have hbC : w2.heap[C]? = some (.cells #[.string s, .int .i64 0, .slice none 0 0, .bool false] 62 (0, 0)) := by
    refine (hgrow.block C (by simp; omega) (by simp [Value.ownBlock])).trans ?_
    rw [heap_alloc_old w _ hltC]; exact hbk
  have d2 : w2.cell? ⟨C, 2, none⟩ = some (.slice none 0 0) := by rw [Lib.cell_of_heap hbC]; rfl
  have f2 : w2.frozen? ⟨C, 2, none⟩ = false := Lib.frozen_of_heap hbC 2
  have HC : Hid (Ct (w2.setCell ⟨C, 2, none⟩ (.slice (some ⟨E', 0, none⟩) (0 + 1) cap')) C E' cap' s (0, false) [x] ∧ Kc C C w (w2.setCell ⟨C, 2, none⟩ (.slice (some ⟨E', 0, none⟩) (0 + 1) cap'))) := by
    refine ⟨⟨by rw [set_blk hbC]; rfl, ownsRow_keep hown' fun b hv => by cases hv; exact Below.heap_setCell _ _ _ _ (by intro e; dsimp only at e; omega)⟩, ?_⟩
    have hz := hgrow.size
    simp at hz
    refine Kc.setCell (show Kc C C w w2 from ⟨hgrow.os, hgrow.tape, hgrow.output, by omega, fun k hk h1 h2 => ?_⟩) 2 _
    exact (hgrow.block k (by simp; omega) (by simp [Value.ownBlock])).trans (heap_alloc_old w _ hk)
  clear hown' hgrow hownA hat hbk hbC
  go_wp2
  go_end0
  exact ⟨rfl, E', cap', HC.out.1, HC.out.2, hE⟩
set_option maxHeartbeats 2000000 in
set_option maxRecDepth 100000 in
theorem cutterOf_any (s : ByteArray) (w : World) (hs : s.size ≤ 1048576) :
    Calls Tryz.prog 29 #[.string s] w fun e w' => e = .returned (.pointer (some ⟨w.heap.size, 0, none⟩)) ∧ ∃ E cap, Ct w' w.heap.size E cap s (0, false) [(s.size : Int)] ∧ Below w.heap.size w w' ∧ w.heap.size ≤ E := by
  go_enter Tryz.func29, Tryz.ntmps29
  go_wp2_with (first | (go_at_call 67; with_reducible refine Calls.mono (push_nil w.heap.size s s.size _ (heap_alloc_new w _)) ?_) | fail)
  rintro r w1 ⟨rfl, E, cap, hC, hK, hE⟩
  have hb : Below w.heap.size w w1 := ⟨hK.os, hK.tape, hK.output, by have := hK.size; simp at this; omega, fun k hk => (hK.block k (by simp; omega) (by omega) (by omega)).trans (heap_alloc_old w _ hk)⟩
  have hE' : w.heap.size ≤ E := by simp at hE; omega
  clear hK hE
  go_wp2
  go_returns
  exact ⟨rfl, E, cap, hC, hb, hE'⟩
end Go.Proofs.YtlobjpdkjlmglaaGreat
/- Own text. The cutter's method step: it answers sX and sO. -/
namespace Go.Proofs.YtlobjpdkjlmglaaGreat
open Go.RowKit Go.Deep
set_option linter.unusedVariables false
theorem runI_wf (s : ByteArray) (W : Nat) : ∀ (n : Nat) (i : Int) (acc cs : List C2), CsWf acc → runI s W n i acc = some cs → CsWf cs
  | 0, i, acc, cs, ha, h => by cases h; exact ha
  | n + 1, i, acc, cs, ha, h => by
    rw [runI] at h
    split at h
    · split at h
      · cases h
      · refine runI_wf s W n _ _ cs ?_ h
        intro y hy
        rcases List.mem_append.1 hy with hy | hy
        · exact ha y hy
        · rcases List.mem_singleton.1 hy with rfl
          exact rowS_wf s W i
    · cases h; exact ha
theorem ans_wf (t : ByteArray) : CsWf (aC t) ∧ (Lit.int .i64 (aW t)).wf = true := by
  cases hA : ansB t with
  | none =>
    obtain ⟨e1, e2, _⟩ := ans_none hA
    rw [e1, e2]
    exact ⟨fun y hy => (by cases hy), wf_64 (by omega) (by omega)⟩
  | some cs =>
    obtain ⟨e1, e2, _⟩ := ans_some hA
    rw [e1, e2]
    have hl := bAt_lt t 0
    refine ⟨?_, wf_64 (by omega) (by omega)⟩
    unfold ansB at hA
    split at hA
    · cases hA
    · unfold resI at hA
      split at hA
      · cases hA
      · rename_i cs' hrun
        split at hA
        · cases hA
          exact runI_wf t _ _ _ _ _ (fun y hy => by cases hy) hrun
        · cases hA
section
variable {s : ByteArray} {e : Nat} {q : Nat × Bool}
theorem csn_wf (he : e ≤ s.size) (hs : s.size ≤ 1048576) (h : q.1 ≤ e) : ∀ n, SsWf (csn s e q n).1
  | 0 => fun y hy => by cases hy
  | n + 1 => by
    intro y hy
    rw [csn] at hy
    rcases List.mem_append.1 hy with hy | hy
    · exact csn_wf he hs h n y hy
    · rcases List.mem_singleton.1 hy with rfl
      have := tk_size (s := s) (n := (nm s e 2 (csn s e q n).2).1.toNat) (q := (nm s e 2 (csn s e q n).2).2) he (nm_at (csn_at h n))
      unfold maxLen tx
      omega
theorem rln_wf (he : e ≤ s.size) (hs : s.size ≤ 1048576) (h : q.1 ≤ e) : ∀ n, RsWf (rln s e q n).1
  | 0 => fun y hy => by cases hy
  | n + 1 => by
    intro y hy
    rw [rln] at hy
    rcases List.mem_append.1 hy with hy | hy
    · exact rln_wf he hs h n y hy
    · rcases List.mem_singleton.1 hy with rfl
      have := tk_size (s := s) (n := (nm s e 2 (rln s e q n).2).1.toNat) (q := (nm s e 2 (rln s e q n).2).2) he (nm_at (rln_at h n))
      have ha := ans_wf (rlB s e (rln s e q n).2).1
      refine ⟨?_, ha.2, ha.1⟩
      show (tk s e (nm s e 2 (rln s e q n).2).1.toNat (nm s e 2 (rln s e q n).2).2).1.size ≤ maxLen
      unfold maxLen
      omega
theorem sX_wf (he : e ≤ s.size) (hs : s.size ≤ 1048576) (h : q.1 ≤ e) : (sX s e q).wf := by
  have h1 := nm_bd (s := s) (k := 1) he h (by omega)
  have h2 := nm_at (s := s) (k := 1) h
  have h3 := tx_at (s := s) (k := 2) h2
  have h4 := nm_at (s := s) (k := 1) h3
  have h5 := csn_at (s := s) h4 (nm s e 1 (tx s e 2 (nm s e 1 q).2).2).1.toNat
  have h6 := tx_at (s := s) (k := 2) h5
  have h7 := nm_at (s := s) (k := 1) h6
  refine ⟨wf_64 ?_ ?_, ?_, csn_wf he hs h4 _, ?_, rln_wf he hs h7 _⟩
  · show -9223372036854775808 ≤ (nm s e 1 q).1; omega
  · show (nm s e 1 q).1 ≤ 9223372036854775807; omega
  · have := tk_size (s := s) (n := (nm s e 2 (nm s e 1 q).2).1.toNat) (q := (nm s e 2 (nm s e 1 q).2).2) he (nm_at h2)
    show (tk s e (nm s e 2 (nm s e 1 q).2).1.toNat (nm s e 2 (nm s e 1 q).2).2).1.size ≤ maxLen
    unfold maxLen; omega
  · have := tk_size (s := s) (n := (nm s e 2 (sC' s e q).2).1.toNat) (q := (nm s e 2 (sC' s e q).2).2) he (nm_at h5)
    show (tk s e (nm s e 2 (sC' s e q).2).1.toNat (nm s e 2 (sC' s e q).2).2).1.size ≤ maxLen
    unfold maxLen; omega
end
/-- a list of texts of the call's own, as such. -/
theorem strs_own {w : World} {N : Nat} {u : Value} {cs : List ByteArray} (h : w.ownsRow N 9 1 u cs.length (cs.map Value.string)) : ∃ g, StrsF w u cs g ∧ Own w N g ∧ ∀ b ∈ g, u.ownBlock = some b := by
  have hlt := ownsRow_lt h
  by_cases hne : cs = []
  · subst hne
    refine ⟨[], ?_, by simp [Own, Free], fun b hb => by cases hb⟩
    rcases h.2 with ⟨rfl, _⟩ | ⟨g, cap, cur, rfl, _, _, hn, hm, _⟩
    · exact ⟨none, 0, rfl, Nat.le_refl _, by simp [maxLen], fun _ => rfl, fun x => absurd rfl x⟩
    · exact ⟨_, cap, rfl, hn, hm, fun _ => rfl, fun x => absurd rfl x⟩
  have hp : 0 < cs.length := List.length_pos_iff.2 hne
  rcases h.2 with ⟨_, h0⟩ | ⟨g, cap, cur, rfl, hg, hc, hn, hm, hs, ht⟩
  · omega
  refine ⟨[g], ⟨_, cap, rfl, hn, hm, fun x => absurd x hne, fun _ => ⟨g, 0, rfl, (hlt g rfl).2, rfl, fun i x hx => ?_⟩⟩, ⟨by simp, fun b hb => by rcases List.mem_singleton.1 hb with rfl; exact hg, fun b hb o => by rcases List.mem_singleton.1 hb with rfl; exact Lib.frozen_of_heap hc o⟩, fun b hb => by rcases List.mem_singleton.1 hb with rfl; rfl⟩
  have hu : (cs.map Value.string)[i]? = some (.string x) := by simp [hx]
  have hi : i < cs.length := (List.getElem?_eq_some_iff.1 hx).1
  rw [Nat.zero_add]
  simp only [World.cell?, hc]
  rw [← ht, List.getElem?_take, if_pos (by omega), Array.getElem?_toList] at hu
  simpa using hu
/-- what step leaves. -/
def Stepped (w w' : World) (C E : Nat) (s : ByteArray) (e : Nat) (q : Nat × Bool) (xs : List Int) (uc ur : Value) : Prop :=
  ∃ us G M, w'.ownsRow w.heap.size 9 1 uc (sX s e q).cs.length ((sX s e q).cs.map Value.string) ∧ RelOwn w' M ur (sX s e q).rs us G ∧ w.heap.size ≤ M ∧ (∀ b, uc.ownBlock = some b → b < M) ∧ (∃ E' cap', Ct w' C E' cap' s ((sE s e q).2.1, sT s e q) xs ∧ (E' = E ∨ w.heap.size ≤ E') ∧ E' < M ∧ ∀ b, uc.ownBlock = some b → E' < b) ∧ Kc C E w w'
end Go.Proofs.YtlobjpdkjlmglaaGreat
/- Own text. The contract of the cutter's method step. -/
namespace Go.Proofs.YtlobjpdkjlmglaaGreat
open Go.RowKit Go.Deep
set_option linter.unusedVariables false
theorem Stepped.drew {w w' : World} {C E : Nat} {s : ByteArray} {e : Nat} {q : Nat × Bool} {xs : List Int} {uc ur : Value} (h : Stepped w w' C E s e q xs uc ur) : Stepped w w'.drew C E s e q xs uc ur := by
  obtain ⟨us, G, M, h1, h2, h3, h4, ⟨E', cap', h5, h6⟩, h7⟩ := h
  exact ⟨us, G, M, ownsRow_keep h1 fun _ _ => rfl, h2.keep (Nat.le_refl _) fun _ _ _ => rfl, h3, h4, ⟨E', cap', h5.keep rfl rfl, h6⟩, ⟨h7.os, h7.tape, h7.output, h7.size, h7.block⟩⟩
set_option maxHeartbeats 4000000 in
set_option maxRecDepth 100000 in
theorem step_any (C E cap : Nat) (s : ByteArray) (q : Nat × Bool) (xs : List Int) (e : Nat) (w : World) (h : Ct w C E cap s q (xs ++ [(e : Int)])) (hq : q.1 ≤ e) (he : e ≤ s.size) (hs : s.size ≤ 1048576) (hl : xs.length ≤ 10000) :
    Calls Tryz.prog 39 #[.pointer (some ⟨C, 0, none⟩)] w fun r w' => ∃ uc ur, r = .returned (.tuple #[.agg #[.int .i64 (sX s e q).k, .string (sX s e q).s, uc, .string (sX s e q).q, ur], .bool (sO s e q)]) ∧ Stepped w w' C E s e q xs uc ur := by
  have hCl := h.ltC
  have hEl := h.ltE
  have q1 := nm_at (s := s) (k := 1) hq
  have q2 := tx_at (s := s) (k := 2) q1
  have q3 := nm_at (s := s) (k := 1) q2
  have q4 : (sC' s e q).2.1 ≤ e := csn_at (s := s) q3 _
  have q5 := tx_at (s := s) (k := 2) q4
  have hwf := sX_wf he hs hq
  go_enter Tryz.func39, Tryz.ntmps39
  go_wp2_with (first | (go_at_call 68; with_reducible refine Calls.mono (cnum_any C E cap s q xs e 1 _ (h.below (by repeat (first | (with_reducible exact Below.refl _ _) | (with_reducible refine Below.drew ?_) | (with_reducible refine Below.alloc ?_ ?hh _; case hh => first | (simp; done) | (simp; omega) | omega) | (with_reducible refine Below.setCell ?_ ?hh _; case hh => first | (simp; done) | (simp; omega) | omega) | refine bstep (by assumption) (by first | (simp; done) | (simp; omega) | omega) ?_))) hq he (by omega) hs hl) ?_) | fail)
  rintro r w1 ⟨rfl, E1, cap1, hC1, hK1, _, hE1, hr1⟩
  have hln : (xs ++ [(e : Int)]).length = xs.length + 1 := by simp
  rw [hln] at hr1
  have hz1 := hK1.size
  have hR1 : w1.heap[w.heap.size]? = some (.cells #[.int .i64 0, .string ⟨#[]⟩, .slice none 0 0, .string ⟨#[]⟩, .slice none 0 0] 27 (0, 0)) := (hK1.block _ (by simp) (by omega) (by omega)).trans (heap_alloc_new w _)
  simp only [World.size_alloc] at hz1 hE1
  have hKw1 : Kc C E w w1 := (Kc.of_below (by repeat (first | (with_reducible exact Below.refl _ _) | (with_reducible refine Below.drew ?_) | (with_reducible refine Below.alloc ?_ ?hh _; case hh => first | (simp; done) | (simp; omega) | omega) | (with_reducible refine Below.setCell ?_ ?hh _; case hh => first | (simp; done) | (simp; omega) | omega) | refine bstep (by assumption) (by first | (simp; done) | (simp; omega) | omega) ?_))).trans hK1 (.inl rfl)
  have hE1w : E1 = E ∨ w.heap.size + 1 ≤ E1 := hE1
  have hC1l := hC1.ltC
  have hE1l := hC1.ltE
  clear hK1 h
  have T2 : ∀ wz : World, Ct wz C E1 cap1 s (sA s e q).2 (xs ++ [(e : Int)]) → Calls Tryz.prog 76 #[.pointer (some ⟨C, 0, none⟩)] wz fun r w' => r = .returned (.string (sB s e q).1) ∧ Ct w' C E1 cap1 s (sB s e q).2 (xs ++ [(e : Int)]) ∧ Kc C E1 wz w' := fun wz hz => ctext_any C E1 cap1 s (sA s e q).2 xs e wz hz (by omega) q1 he hs hl
  have T3 : ∀ wz : World, Ct wz C E1 cap1 s (sB s e q).2 (xs ++ [(e : Int)]) → Calls Tryz.prog 77 #[.pointer (some ⟨C, 0, none⟩), .func (.func 76) #[.pointer (some ⟨C, 0, none⟩)] #[]] wz fun r w' => ∃ u, r = .returned u ∧ w'.ownsRow wz.heap.size 9 1 u (sX s e q).cs.length ((sX s e q).cs.map Value.string) ∧ Ct w' C E1 cap1 s (sC' s e q).2 (xs ++ [(e : Int)]) ∧ Kc C E1 wz w' := by
    intro wz hz
    refine Calls.mono (sev_any C E1 cap1 s (sB s e q).2 xs e wz hz (by omega) q2 he hs hl) ?_
    rintro r w' ⟨u, rfl, h1, h2, h3⟩
    refine ⟨u, rfl, ?_, h2, h3⟩
    show w'.ownsRow wz.heap.size 9 1 u (sC' s e q).1.length ((sC' s e q).1.map Value.string)
    have hcl : (sC' s e q).1.length = (nm s e 1 (sB s e q).2).1.toNat := csn_len _
    rw [hcl]; exact h1
  have T4 : ∀ wz : World, Ct wz C E1 cap1 s (sC' s e q).2 (xs ++ [(e : Int)]) → Calls Tryz.prog 76 #[.pointer (some ⟨C, 0, none⟩)] wz fun r w' => r = .returned (.string (sD s e q).1) ∧ Ct w' C E1 cap1 s (sD s e q).2 (xs ++ [(e : Int)]) ∧ Kc C E1 wz w' := fun wz hz => ctext_any C E1 cap1 s (sC' s e q).2 xs e wz hz (by omega) q4 he hs hl
  have T5' : ∀ wz : World, Ct wz C E1 cap1 s (sD s e q).2 (xs ++ [(e : Int)]) → Calls Tryz.prog 78 #[.pointer (some ⟨C, 0, none⟩), .func (.func 79) #[.pointer (some ⟨C, 0, none⟩)] #[]] wz fun r w' => ∃ u us G, r = .returned u ∧ RelOwn w' wz.heap.size u (sX s e q).rs us G ∧ Ct w' C E1 cap1 s (sE s e q).2 (xs ++ [(e : Int)]) ∧ Kc C E1 wz w' := fun wz hz => sevR_any C E1 cap1 s (sD s e q).2 xs e wz hz (by omega) q5 he hs hl
  have T6 : ∀ wz : World, Ct wz C E1 cap1 s (sE s e q).2 (xs ++ [(e : Int)]) → Calls Tryz.prog 80 #[.pointer (some ⟨C, 0, none⟩)] wz fun r w' => r = .returned (.tuple #[]) ∧ Ct w' C E1 cap1 s ((sE s e q).2.1, sT s e q) xs ∧ Kc C E1 wz w' := fun wz hz => leave_any C E1 cap1 s (sE s e q).2 xs e wz hz
  have hRC : w.heap.size ≠ C := by omega
  have hRE : w.heap.size ≠ E1 := by omega
  have hSC : w1.heap.size ≠ C := by omega
  have hSE : w1.heap.size ≠ E1 := by omega
  rw [show (nm s e 1 q).1 = (sA s e q).1 from rfl]
  replace hC1 : Ct w1 C E1 cap1 s (sA s e q).2 (xs ++ [(e : Int)]) := hC1
  go_wp2_with (first | (go_at_call 76; with_reducible refine Calls.mono (T2 _ (hC1.below (by repeat (first | (with_reducible exact Below.refl _ _) | (with_reducible refine Below.drew ?_) | (with_reducible refine Below.alloc ?_ ?hh _; case hh => first | (simp; done) | (simp; omega) | omega) | (with_reducible refine Below.setCell ?_ ?hh _; case hh => first | (simp; done) | (simp; omega) | omega) | refine bstep (by assumption) (by first | (simp; done) | (simp; omega) | omega) ?_)))) ?_) | fail)
  rintro r w2 ⟨rfl, hC2, hK2⟩
  have hS2 : w2.heap[w1.heap.size]? = some (.cells #[.int .i64 (sA s e q).1, .string ⟨#[]⟩, .slice none 0 0, .string ⟨#[]⟩, .slice none 0 0] 27 (0, 0)) := (hK2.block _ (by simp) hSC hSE).trans (heap_alloc_new w1 _)
  have hR2 : w2.heap[w.heap.size]? = some (.cells #[.int .i64 0, .string ⟨#[]⟩, .slice none 0 0, .string ⟨#[]⟩, .slice none 0 0] 27 (0, 0)) := (hK2.block _ (by simp; omega) hRC hRE).trans ((heap_alloc_old w1 _ (by omega)).trans hR1)
  have hz2 := hK2.size
  simp only [World.size_alloc] at hz2
  have hKa2 : Kc C E1 w1 w2 := (Kc.of_below (by repeat (first | (with_reducible exact Below.refl _ _) | (with_reducible refine Below.drew ?_) | (with_reducible refine Below.alloc ?_ ?hh _; case hh => first | (simp; done) | (simp; omega) | omega) | (with_reducible refine Below.setCell ?_ ?hh _; case hh => first | (simp; done) | (simp; omega) | omega) | refine bstep (by assumption) (by first | (simp; done) | (simp; omega) | omega) ?_))).trans hK2 (.inl rfl)
  have hS2l := heap_lt hS2
  have s21 : w2.cell? ⟨w1.heap.size, 1, none⟩ = some (.string ⟨#[]⟩) := by rw [Lib.cell_of_heap hS2]; rfl
  have s2f : w2.frozen? ⟨w1.heap.size, 1, none⟩ = false := Lib.frozen_of_heap hS2 1
  clear hC1 hK2
  go_wp2_with (first | (go_at_call 77; with_reducible refine Calls.mono (T3 _ (hC2.far hSC hSE 1 _)) ?_) | fail)
  rintro r w3 ⟨uc, rfl, hO3, hC3, hK3⟩
  have hs3 : ∃ ac nc cc, uc = .slice ac nc cc := by
    rcases hO3.2 with ⟨hv, _⟩ | ⟨g, cap, cur, hv, _⟩ <;> exact ⟨_, _, _, hv⟩
  obtain ⟨ac, nc, cc, rfl⟩ := hs3
  have hS3 : w3.heap[w1.heap.size]? = some (.cells #[.int .i64 (sA s e q).1, .string (sB s e q).1, .slice none 0 0, .string ⟨#[]⟩, .slice none 0 0] 27 (0, 0)) := (hK3.block _ (by simpa using hS2l) hSC hSE).trans (by rw [set_blk hS2]; rfl)
  have hR3 : w3.heap[w.heap.size]? = some (.cells #[.int .i64 0, .string ⟨#[]⟩, .slice none 0 0, .string ⟨#[]⟩, .slice none 0 0] 27 (0, 0)) := (hK3.block _ (by simp; omega) hRC hRE).trans ((Below.heap_setCell _ _ _ _ (by intro e; dsimp only at e; omega)).trans hR2)
  have hz3 := hK3.size
  simp only [World.size_setCell] at hz3 hO3
  have hKa3 : Kc C E1 w1 w3 := (hKa2.far (Nat.le_refl _) 1 _).trans hK3 (.inl rfl)
  have hS3l := heap_lt hS3
  have s31 : w3.cell? ⟨w1.heap.size, 2, none⟩ = some (.slice none 0 0) := by rw [Lib.cell_of_heap hS3]; rfl
  have s3f : w3.frozen? ⟨w1.heap.size, 2, none⟩ = false := Lib.frozen_of_heap hS3 2
  have hOb := ownsRow_lt hO3
  clear hC2 hK3 hKa2 hS2 hR2 s21 s2f
  go_wp2_with (first | (go_at_call 76; with_reducible refine Calls.mono (T4 _ (hC3.far hSC hSE 2 _)) ?_) | fail)
  rintro r w4 ⟨rfl, hC4, hK4⟩
  have hS4 : w4.heap[w1.heap.size]? = some (.cells #[.int .i64 (sA s e q).1, .string (sB s e q).1, .slice ac nc cc, .string ⟨#[]⟩, .slice none 0 0] 27 (0, 0)) := (hK4.block _ (by simpa using hS3l) hSC hSE).trans (by rw [set_blk hS3]; rfl)
  have hR4 : w4.heap[w.heap.size]? = some (.cells #[.int .i64 0, .string ⟨#[]⟩, .slice none 0 0, .string ⟨#[]⟩, .slice none 0 0] 27 (0, 0)) := (hK4.block _ (by simp; omega) hRC hRE).trans ((Below.heap_setCell _ _ _ _ (by intro e; dsimp only at e; omega)).trans hR3)
  have hO4 : w4.ownsRow w2.heap.size 9 1 (.slice ac nc cc) (sX s e q).cs.length ((sX s e q).cs.map Value.string) := ownsRow_keep hO3 fun b hb => (hK4.block b (by simp; exact (hOb b hb).2) (by have := (hOb b hb).1; omega) (by have := (hOb b hb).1; omega)).trans (Below.heap_setCell _ _ _ _ (by intro e; dsimp only at e; have := (hOb b hb).1; omega))
  have hz4 := hK4.size
  simp only [World.size_setCell] at hz4
  have hKa4 : Kc C E1 w1 w4 := (hKa3.far (Nat.le_refl _) 2 _).trans hK4 (.inl rfl)
  have hS4l := heap_lt hS4
  have s41 : w4.cell? ⟨w1.heap.size, 3, none⟩ = some (.string ⟨#[]⟩) := by rw [Lib.cell_of_heap hS4]; rfl
  have s4f : w4.frozen? ⟨w1.heap.size, 3, none⟩ = false := Lib.frozen_of_heap hS4 3
  clear hC3 hK4 hKa3 hS3 hR3 s31 s3f
  go_wp2_with (first | (go_at_call 78; with_reducible refine Calls.mono (T5' _ (hC4.far hSC hSE 3 _)) ?_) | fail)
  rintro r w5 ⟨ur, us, G, rfl, hO5, hC5, hK5⟩
  obtain ⟨ar, cr, rfl⟩ := hO5.shape
  generalize (sX s e q).rs.length = nr at *
  have hS5 : w5.heap[w1.heap.size]? = some (.cells #[.int .i64 (sA s e q).1, .string (sB s e q).1, .slice ac nc cc, .string (sD s e q).1, .slice none 0 0] 27 (0, 0)) := (hK5.block _ (by simpa using hS4l) hSC hSE).trans (by rw [set_blk hS4]; rfl)
  have hR5 : w5.heap[w.heap.size]? = some (.cells #[.int .i64 0, .string ⟨#[]⟩, .slice none 0 0, .string ⟨#[]⟩, .slice none 0 0] 27 (0, 0)) := (hK5.block _ (by simp; omega) hRC hRE).trans ((Below.heap_setCell _ _ _ _ (by intro e; dsimp only at e; omega)).trans hR4)
  have hz5 := hK5.size
  simp only [World.size_setCell] at hz5 hO5
  have hKa5 : Kc C E1 w1 w5 := (hKa4.far (Nat.le_refl _) 3 _).trans hK5 (.inl rfl)
  have hOb4 := ownsRow_lt hO4
  have hO5s : w5.ownsRow w2.heap.size 9 1 (.slice ac nc cc) (sX s e q).cs.length ((sX s e q).cs.map Value.string) := ownsRow_keep hO4 fun b hb => (hK5.block b (by simp; exact (hOb4 b hb).2) (by have := (hOb4 b hb).1; omega) (by have := (hOb4 b hb).1; omega)).trans (Below.heap_setCell _ _ _ _ (by intro e; dsimp only at e; have := (hOb4 b hb).1; omega))
  have hS5l := heap_lt hS5
  have s51 : w5.cell? ⟨w1.heap.size, 4, none⟩ = some (.slice none 0 0) := by rw [Lib.cell_of_heap hS5]; rfl
  have s5f : w5.frozen? ⟨w1.heap.size, 4, none⟩ = false := Lib.frozen_of_heap hS5 4
  clear hC4 hK5 hKa4 hS4 hR4 s41 s4f hO4
  go_wp2_with (first | (go_at_call 80; with_reducible refine Calls.mono (T6 _ (hC5.far hSC hSE 4 _)) ?_) | fail)
  rintro r w6 ⟨rfl, hC6, hK6⟩
  have hS6 : w6.heap[w1.heap.size]? = some (.cells #[.int .i64 (sA s e q).1, .string (sB s e q).1, .slice ac nc cc, .string (sD s e q).1, .slice ar nr cr] 27 (0, 0)) := (hK6.block _ (by simpa using hS5l) hSC hSE).trans (by rw [set_blk hS5]; rfl)
  have hR6 : w6.heap[w.heap.size]? = some (.cells #[.int .i64 0, .string ⟨#[]⟩, .slice none 0 0, .string ⟨#[]⟩, .slice none 0 0] 27 (0, 0)) := (hK6.block _ (by simp; omega) hRC hRE).trans ((Below.heap_setCell _ _ _ _ (by intro e; dsimp only at e; omega)).trans hR5)
  have hz6 := hK6.size
  simp only [World.size_setCell] at hz6
  have hKa6 : Kc C E1 w1 w6 := (hKa5.far (Nat.le_refl _) 4 _).trans hK6 (.inl rfl)
  have hOb5 := ownsRow_lt hO5s
  have hO6 : w6.ownsRow w2.heap.size 9 1 (.slice ac nc cc) (sX s e q).cs.length ((sX s e q).cs.map Value.string) := ownsRow_keep hO5s fun b hb => (hK6.block b (by simp; exact (hOb5 b hb).2) (by have := (hOb5 b hb).1; omega) (by have := (hOb5 b hb).1; omega)).trans (Below.heap_setCell _ _ _ _ (by intro e; dsimp only at e; have := (hOb5 b hb).1; omega))
  have hQ6 : RelOwn w6 w4.heap.size (.slice ar nr cr) (sX s e q).rs us G := hO5.keep (by omega) fun b h1 h2 => (hK6.block b (by simpa using h2) (by omega) (by omega)).trans (Below.heap_setCell _ _ _ _ (by intro e; dsimp only at e; omega))
  have hbc : ∀ b, (Value.slice ac nc cc).ownBlock = some b → b < w4.heap.size := fun b hb => (hOb4 b hb).2
  clear hO5 hO5s hK6 hKa5 hS5 hR5 s51 s5f hC5 hOb hOb4 hOb5
  obtain ⟨g6, hg6, _, _⟩ := strs_own hO6
  obtain ⟨F6, hF6, _⟩ := hQ6.relsF
  have hIs : StpIs w6 (.slice ac nc cc) (.slice ar nr cr) (sX s e q) := ⟨⟨g6, hg6⟩, hF6.is⟩
  have HSt : Hid (∀ wz : World, Below w6.heap.size w6 wz → Calls Tryz.prog 20 #[.agg #[.int .i64 (sA s e q).1, .string (sB s e q).1, .slice ac nc cc, .string (sD s e q).1, .slice ar nr cr]] wz fun r w' => r = .returned (.bool (okStep (sX s e q))) ∧ Below wz.heap.size wz w') := fun wz hz => implStepOk_any (sX s e q) (.slice ac nc cc) (.slice ar nr cr) wz hwf (hIs.below hz)
  have hR6l := heap_lt hR6
  have hS6l := heap_lt hS6
  have hC6l := hC6.ltC
  have HF : Hid (∀ wz : World, Below w6.heap.size w6 wz → Stepped w (((((wz.setCell ⟨w.heap.size, 0, none⟩ (.int .i64 (sA s e q).1)).setCell ⟨w.heap.size, 1, none⟩ (.string (sB s e q).1)).setCell ⟨w.heap.size, 2, none⟩ (.slice ac nc cc)).setCell ⟨w.heap.size, 3, none⟩ (.string (sD s e q).1)).setCell ⟨w.heap.size, 4, none⟩ (.slice ar nr cr)) C E s e q xs (.slice ac nc cc) (.slice ar nr cr)) := by
    intro wz hz
    have hfar : ∀ b, b ≠ w.heap.size → (((((wz.setCell ⟨w.heap.size, 0, none⟩ (.int .i64 (sA s e q).1)).setCell ⟨w.heap.size, 1, none⟩ (.string (sB s e q).1)).setCell ⟨w.heap.size, 2, none⟩ (.slice ac nc cc)).setCell ⟨w.heap.size, 3, none⟩ (.string (sD s e q).1)).setCell ⟨w.heap.size, 4, none⟩ (.slice ar nr cr)).heap[b]? = wz.heap[b]? := by
      intro b hb
      iterate 5 rw [Below.heap_setCell _ _ _ _ (by intro e; dsimp only at e; omega)]
    have hszW : (((((wz.setCell ⟨w.heap.size, 0, none⟩ (.int .i64 (sA s e q).1)).setCell ⟨w.heap.size, 1, none⟩ (.string (sB s e q).1)).setCell ⟨w.heap.size, 2, none⟩ (.slice ac nc cc)).setCell ⟨w.heap.size, 3, none⟩ (.string (sD s e q).1)).setCell ⟨w.heap.size, 4, none⟩ (.slice ar nr cr)).heap.size = wz.heap.size := by simp
    refine ⟨us, G, w4.heap.size, ?_, ?_, by omega, hbc, ⟨E1, cap1, ?_, by omega, by omega, fun b hb => by have := (ownsRow_lt hO6 b hb).1; omega⟩, ?_⟩
    · have o1 : wz.ownsRow w2.heap.size 9 1 (.slice ac nc cc) (sX s e q).cs.length ((sX s e q).cs.map Value.string) := ownsRow_keep hO6 fun b hb => hz.block b (ownsRow_lt hO6 b hb).2
      have o2 := ownsRow_keep (w' := ((((wz.setCell ⟨w.heap.size, 0, none⟩ (.int .i64 (sA s e q).1)).setCell ⟨w.heap.size, 1, none⟩ (.string (sB s e q).1)).setCell ⟨w.heap.size, 2, none⟩ (.slice ac nc cc)).setCell ⟨w.heap.size, 3, none⟩ (.string (sD s e q).1)).setCell ⟨w.heap.size, 4, none⟩ (.slice ar nr cr)) o1 fun b hb => hfar b (by have := (ownsRow_lt o1 b hb).1; omega)
      refine ⟨o2.1, ?_⟩
      rcases o2.2 with o3 | ⟨g, cap, cur, h1, h2, h3⟩
      · exact .inl o3
      · exact .inr ⟨g, cap, cur, h1, by omega, h3⟩
    · exact (hQ6.below hz).keep (by rw [hszW]; exact Nat.le_refl _) fun b h1 h2 => hfar b (by omega)
    · exact (hC6.below hz).keep (hfar C (by omega)) (hfar E1 (by omega))
    · have k1 : Kc C E1 w1 wz := hKa6.trans (Kc.of_below hz) (.inl rfl)
      have k2 : Kc C E w wz := hKw1.trans k1 (by omega)
      exact ⟨k2.os, k2.tape, k2.output, by rw [hszW]; exact k2.size, fun b hb h1 h2 => (hfar b (by omega)).trans (k2.block b hb h1 h2)⟩
  obtain ⟨_, _, _, c3, _⟩ := hC6.cells
  dsimp only at c3
  have a0 : w6.cell? ⟨w1.heap.size, 0, none⟩ = some (.int .i64 (sA s e q).1) := by rw [Lib.cell_of_heap hS6]; rfl
  have a1 : w6.cell? ⟨w1.heap.size, 1, none⟩ = some (.string (sB s e q).1) := by rw [Lib.cell_of_heap hS6]; rfl
  have a2 : w6.cell? ⟨w1.heap.size, 2, none⟩ = some (.slice ac nc cc) := by rw [Lib.cell_of_heap hS6]; rfl
  have a3 : w6.cell? ⟨w1.heap.size, 3, none⟩ = some (.string (sD s e q).1) := by rw [Lib.cell_of_heap hS6]; rfl
  have a4 : w6.cell? ⟨w1.heap.size, 4, none⟩ = some (.slice ar nr cr) := by rw [Lib.cell_of_heap hS6]; rfl
  have b0 : w6.cell? ⟨w.heap.size, 0, none⟩ = some (.int .i64 0) := by rw [Lib.cell_of_heap hR6]; rfl
  have b1 : w6.cell? ⟨w.heap.size, 1, none⟩ = some (.string ⟨#[]⟩) := by rw [Lib.cell_of_heap hR6]; rfl
  have b2 : w6.cell? ⟨w.heap.size, 2, none⟩ = some (.slice none 0 0) := by rw [Lib.cell_of_heap hR6]; rfl
  have b3 : w6.cell? ⟨w.heap.size, 3, none⟩ = some (.string ⟨#[]⟩) := by rw [Lib.cell_of_heap hR6]; rfl
  have b4 : w6.cell? ⟨w.heap.size, 4, none⟩ = some (.slice none 0 0) := by rw [Lib.cell_of_heap hR6]; rfl
  have bf : ∀ i, w6.frozen? ⟨w.heap.size, i, none⟩ = false := fun i => Lib.frozen_of_heap hR6 i
  have hRS : w.heap.size ≠ w1.heap.size := by omega
  have HO : Hid (sO s e q = (!sT s e q && okStep (sX s e q))) := rfl
  clear hC6 hKa6 hS6 hR6 hO6 hQ6 hbc hg6 hF6 hIs hKw1 T2 T3 T4 T5' T6 hwf
  cases ht : sT s e q
  · rw [ht] at c3
    go_wp2_with fail
    go_region_held3 (fun w' => w'.cell? ⟨w1.heap.size, 0, none⟩ = some (.int .i64 (sA s e q).1) ∧ w'.cell? ⟨w1.heap.size, 1, none⟩ = some (.string (sB s e q).1) ∧ w'.cell? ⟨w1.heap.size, 2, none⟩ = some (.slice ac nc cc) ∧ w'.cell? ⟨w1.heap.size, 3, none⟩ = some (.string (sD s e q).1) ∧ w'.cell? ⟨w1.heap.size, 4, none⟩ = some (.slice ar nr cr) ∧ w'.cell? ⟨C, 3, none⟩ = some (.bool false)) (first | (with_reducible exact ⟨a0, a1, a2, a3, a4, c3⟩) | (with_reducible exact ⟨y0, y1, y2, y3, y4, y5⟩) | (refine ⟨?_, ?_, ?_, ?_, ?_, ?_⟩ <;> first | (with_reducible assumption) | (go_simp; done))) (first | (go_at_call 20; with_reducible refine Calls.mono (HSt.out _ (by repeat (first | (with_reducible exact Below.refl _ _) | (with_reducible refine Below.drew ?_) | (with_reducible refine belowN ?_ _) | (with_reducible refine Below.alloc ?_ ?hh _; case hh => first | (simp; done) | (simp; omega) | omega) | (with_reducible refine Below.setCell ?_ ?hh _; case hh => first | (simp; done) | (simp; omega) | omega) | refine bstep (by assumption) (by first | (simp; done) | (simp; omega) | omega) ?_))) ?_; rintro r w7 ⟨rfl, hb7⟩; have bel7 : Below w6.heap.size w6 w7 := (by repeat (first | (with_reducible exact Below.refl _ _) | (with_reducible refine Below.drew ?_) | (with_reducible refine belowN ?_ _) | (with_reducible refine Below.alloc ?_ ?hh _; case hh => first | (simp; done) | (simp; omega) | omega) | (with_reducible refine Below.setCell ?_ ?hh _; case hh => first | (simp; done) | (simp; omega) | omega) | refine bstep (by assumption) (by first | (simp; done) | (simp; omega) | omega) ?_)); have hzz := bel7.size; have y0 := ((bcell bel7).1 w1.heap.size 0 hS6l).trans a0; have y1 := ((bcell bel7).1 w1.heap.size 1 hS6l).trans a1; have y2 := ((bcell bel7).1 w1.heap.size 2 hS6l).trans a2; have y3 := ((bcell bel7).1 w1.heap.size 3 hS6l).trans a3; have y4 := ((bcell bel7).1 w1.heap.size 4 hS6l).trans a4; have r0 := ((bcell bel7).1 w.heap.size 0 hR6l).trans b0; have r1 := ((bcell bel7).1 w.heap.size 1 hR6l).trans b1; have r2 := ((bcell bel7).1 w.heap.size 2 hR6l).trans b2; have r3 := ((bcell bel7).1 w.heap.size 3 hR6l).trans b3; have r4 := ((bcell bel7).1 w.heap.size 4 hR6l).trans b4; have y5 := ((bcell bel7).1 C 3 hC6l).trans c3; have rf : ∀ i, w7.frozen? ⟨w.heap.size, i, none⟩ = false := (fun i => ((bcell bel7).2 w.heap.size i hR6l).trans (bf i))) | fail)
    all_goals go_wp2
    all_goals refine bodyPost_ret (v := .tuple #[.agg #[.int .i64 (sA s e q).1, .string (sB s e q).1, .slice ac nc cc, .string (sD s e q).1, .slice ar nr cr], .bool (okStep (sX s e q))]) (by simp [results, Tryz.results39, go_sem, *]) rfl ⟨.slice ac nc cc, .slice ar nr cr, by rw [HO.out, ht]; rfl, HF.out _ (by repeat (first | (with_reducible exact Below.refl _ _) | (with_reducible refine Below.drew ?_) | (with_reducible refine belowN ?_ _) | (with_reducible refine Below.alloc ?_ ?hh _; case hh => first | (simp; done) | (simp; omega) | omega) | (with_reducible refine Below.setCell ?_ ?hh _; case hh => first | (simp; done) | (simp; omega) | omega) | refine bstep (by assumption) (by first | (simp; done) | (simp; omega) | omega) ?_))⟩
  · rw [ht] at c3
    go_wp2_with fail
    first | go_region | fail
    all_goals go_wp2
    all_goals refine bodyPost_ret (v := .tuple #[.agg #[.int .i64 (sA s e q).1, .string (sB s e q).1, .slice ac nc cc, .string (sD s e q).1, .slice ar nr cr], .bool false]) (by simp [results, Tryz.results39, go_sem, *]) rfl ⟨.slice ac nc cc, .slice ar nr cr, by rw [HO.out, ht]; rfl, (HF.out w6 (Below.refl _ _)).drew⟩
end Go.Proofs.YtlobjpdkjlmglaaGreat
/- Own text. The contract of the program's GetStep. -/
namespace Go.Proofs.YtlobjpdkjlmglaaGreat
open Go.RowKit Go.Deep
set_option linter.unusedVariables false
/-- a step's two lists in memory of the call's own from N on. -/
def StpOwn (w : World) (N : Nat) (uc ur : Value) (x : T5) (g F : List Nat) : Prop := StrsF w uc x.cs g ∧ RelsF w ur x.rs F ∧ Own w N g ∧ Own w N F ∧ ∀ b ∈ g, b ∉ F
theorem StpOwn.is {w : World} {N : Nat} {uc ur : Value} {x : T5} {g F : List Nat} (h : StpOwn w N uc ur x g F) : StpIs w uc ur x := ⟨⟨g, h.1⟩, h.2.1.is⟩
theorem StpOwn.below {w w' : World} {N : Nat} {uc ur : Value} {x : T5} {g F : List Nat} (h : StpOwn w N uc ur x g F) (hb : Below w.heap.size w w') : StpOwn w' N uc ur x g F :=
  ⟨h.1.below hb, h.2.1.below hb, h.2.2.1.below h.1.lt hb, h.2.2.2.1.below h.2.1.lt hb, h.2.2.2.2⟩
theorem StpOwn.keep {w w' : World} {N : Nat} {uc ur : Value} {x : T5} {g F : List Nat} (h : StpOwn w N uc ur x g F) (hs : w.heap.size ≤ w'.heap.size) (hb : ∀ b, N ≤ b → b < w.heap.size → w'.heap[b]? = w.heap[b]?) : StpOwn w' N uc ur x g F :=
  have k1 : ∀ b ∈ g, w'.heap[b]? = w.heap[b]? := fun b hg => hb b (h.2.2.1.2.1 b hg) (h.1.lt b hg)
  have k2 : ∀ b ∈ F, w'.heap[b]? = w.heap[b]? := fun b hg => hb b (h.2.2.2.1.2.1 b hg) (h.2.1.lt b hg)
  ⟨h.1.keep hs k1, h.2.1.keep hs k2, h.2.2.1.keep k1, h.2.2.2.1.keep k2, h.2.2.2.2⟩
theorem StpOwn.weak {w : World} {N M : Nat} {uc ur : Value} {x : T5} {g F : List Nat} (h : StpOwn w N uc ur x g F) (hM : M ≤ N) : StpOwn w M uc ur x g F :=
  ⟨h.1, h.2.1, ⟨h.2.2.1.1, fun b hb => Nat.le_trans hM (h.2.2.1.2.1 b hb), h.2.2.1.2.2⟩, ⟨h.2.2.2.1.1, fun b hb => Nat.le_trans hM (h.2.2.2.1.2.1 b hb), h.2.2.2.1.2.2⟩, h.2.2.2.2⟩
theorem five_far {w2 : World} {R : Nat} (a b c d e : Value) (L : Array Value) {k : Nat} (hk : k ≠ R) (hl : k < w2.heap.size) : ((((((w2.setCell ⟨R, 0, none⟩ a).setCell ⟨R, 1, none⟩ b).setCell ⟨R, 2, none⟩ c).setCell ⟨R, 3, none⟩ d).setCell ⟨R, 4, none⟩ e).alloc (.cells L 27)).heap[k]? = w2.heap[k]? := by
  rw [heap_alloc_old _ _ (by simpa using hl)]
  iterate 5 rw [Below.heap_setCell _ _ _ _ (by simpa using hk)]
theorem StpOwn.nil (w : World) (N : Nat) : StpOwn w N (.slice none 0 0) (.slice none 0 0) zT [] [] := by
  refine ⟨⟨none, 0, rfl, Nat.le_refl _, by simp [maxLen], fun _ => rfl, fun x => absurd rfl x⟩, ⟨none, 0, [], rfl, Nat.le_refl _, by simp [maxLen], fun _ => rfl, rfl, fun _ => rfl, fun x => absurd rfl x⟩, by simp [Own, Free], by simp [Own, Free], fun b hb => by cases hb⟩
theorem Stepped.own {w w' : World} {C E : Nat} {s : ByteArray} {e : Nat} {q : Nat × Bool} {xs : List Int} {uc ur : Value} (h : Stepped w w' C E s e q xs uc ur) : ∃ g F, StpOwn w' w.heap.size uc ur (sX s e q) g F := by
  obtain ⟨us, G, M, h1, h2, h3, h4, _, _⟩ := h
  obtain ⟨g, hg, hOg, hub⟩ := strs_own h1
  obtain ⟨F, hF, hOF⟩ := h2.relsF
  exact ⟨g, F, hg, hF, hOg, ⟨hOF.1, fun b hb => Nat.le_trans h3 (hOF.2.1 b hb), hOF.2.2⟩, fun b hb hb2 => by have := h4 b (hub b hb); have := hOF.2.1 b hb2; omega⟩
set_option maxHeartbeats 4000000 in
set_option maxRecDepth 100000 in
theorem implGetStep_any (s : ByteArray) (w : World) (hs : s.size ≤ 1048576) :
    Calls Tryz.prog 11 #[.string s] w fun r w' => (∃ uc ur g F, r = .returned (.tuple #[.agg #[.int .i64 (gT s).k, .string (gT s).s, uc, .string (gT s).q, ur], .bool (gO s)]) ∧ StpOwn w' w.heap.size uc ur (gT s) g F) ∧ Below w.heap.size w w' := by
  have T2 : ∀ (C E cap : Nat) (wz : World), Ct wz C E cap s (0, false) [(s.size : Int)] → Calls Tryz.prog 39 #[.pointer (some ⟨C, 0, none⟩)] wz fun r w' => ∃ uc ur, r = .returned (.tuple #[.agg #[.int .i64 (sX s s.size (0, false)).k, .string (sX s s.size (0, false)).s, uc, .string (sX s s.size (0, false)).q, ur], .bool (gO s)]) ∧ Stepped wz w' C E s s.size (0, false) [] uc ur :=
    fun C E cap wz hz => step_any C E cap s (0, false) [] s.size wz hz (Nat.zero_le _) (Nat.le_refl _) hs (Nat.zero_le _)
  go_enter Tryz.func11, Tryz.ntmps11
  go_wp2_with (first | (go_at_call 29; with_reducible refine Calls.mono (cutterOf_any s _ hs) ?_) | fail)
  rintro r w1 ⟨rfl, E, cap, hC, hb1, hE⟩
  simp only [World.size_alloc] at hE hC hb1
  have hz1 := hb1.size
  simp only [World.size_alloc] at hz1
  have hCl := hC.ltC
  have hEl := hC.ltE
  rw [World.size_alloc]
  go_wp2_with (first | (go_at_call 39; with_reducible refine Calls.mono (T2 _ E cap _ hC) ?_) | fail)
  rintro r w2 ⟨uc, ur, rfl, hSt⟩
  obtain ⟨g, F, hO⟩ := hSt.own
  obtain ⟨_, _, _, _, _, _, _, _, hK⟩ := hSt
  have hz2 := hK.size
  have hR2 : w2.heap[w.heap.size]? = some (.cells #[.int .i64 0, .string ⟨#[]⟩, .slice none 0 0, .string ⟨#[]⟩, .slice none 0 0] 27 (0, 0)) := (hK.block _ (by omega) (by omega) (by omega)).trans ((hb1.block _ (by simp)).trans (heap_alloc_new w _))
  have hbw : Below w.heap.size w w2 := ⟨hK.os.trans hb1.os, hK.tape.trans hb1.tape, hK.output.trans hb1.output, by omega, fun k hk => (hK.block k (by omega) (by omega) (by omega)).trans ((hb1.block k (by omega)).trans (heap_alloc_old w _ hk))⟩
  have hs1 := hO.1.shape
  have hs2 : ∃ a c, ur = .slice a (sX s s.size (0, false)).rs.length c := by
    obtain ⟨a, c, _, h, _⟩ := hO.2.1
    exact ⟨a, c, h⟩
  obtain ⟨ac, cc, rfl, _, _⟩ := hs1
  obtain ⟨ar, cr, rfl⟩ := hs2
  have hR2l := heap_lt hR2
  have b0 : w2.cell? ⟨w.heap.size, 0, none⟩ = some (.int .i64 0) := by rw [Lib.cell_of_heap hR2]; rfl
  have b1 : w2.cell? ⟨w.heap.size, 1, none⟩ = some (.string ⟨#[]⟩) := by rw [Lib.cell_of_heap hR2]; rfl
  have b2 : w2.cell? ⟨w.heap.size, 2, none⟩ = some (.slice none 0 0) := by rw [Lib.cell_of_heap hR2]; rfl
  have b3 : w2.cell? ⟨w.heap.size, 3, none⟩ = some (.string ⟨#[]⟩) := by rw [Lib.cell_of_heap hR2]; rfl
  have b4 : w2.cell? ⟨w.heap.size, 4, none⟩ = some (.slice none 0 0) := by rw [Lib.cell_of_heap hR2]; rfl
  have bf : ∀ i, w2.frozen? ⟨w.heap.size, i, none⟩ = false := fun i => Lib.frozen_of_heap hR2 i
  have HO : Hid (StpOwn w2 (w.heap.size + 1) (.slice ac (sX s s.size (0, false)).cs.length cc) (.slice ar (sX s s.size (0, false)).rs.length cr) (sX s s.size (0, false)) g F) := ⟨hO.1, hO.2.1, ⟨hO.2.2.1.1, fun b hb => by have := hO.2.2.1.2.1 b hb; omega, hO.2.2.1.2.2⟩, ⟨hO.2.2.2.1.1, fun b hb => by have := hO.2.2.2.1.2.1 b hb; omega, hO.2.2.2.1.2.2⟩, hO.2.2.2.2⟩
  have HB : Hid (Below w.heap.size w w2) := hbw
  clear hO hbw hK hR2 hb1 T2 hC
  have HG : Hid (gT s = if gO s = true then sX s s.size (0, false) else zT) := rfl
  generalize (sX s s.size (0, false)).cs.length = nc at *
  generalize (sX s s.size (0, false)).rs.length = nr at *
  have HF : Hid (∀ (a b c d e : Value) (L : Array Value), Below w.heap.size w ((((((w2.setCell ⟨w.heap.size, 0, none⟩ a).setCell ⟨w.heap.size, 1, none⟩ b).setCell ⟨w.heap.size, 2, none⟩ c).setCell ⟨w.heap.size, 3, none⟩ d).setCell ⟨w.heap.size, 4, none⟩ e).alloc (.cells L 27)) ∧ StpOwn ((((((w2.setCell ⟨w.heap.size, 0, none⟩ a).setCell ⟨w.heap.size, 1, none⟩ b).setCell ⟨w.heap.size, 2, none⟩ c).setCell ⟨w.heap.size, 3, none⟩ d).setCell ⟨w.heap.size, 4, none⟩ e).alloc (.cells L 27)) w.heap.size (.slice ac nc cc) (.slice ar nr cr) (sX s s.size (0, false)) g F) := by
    intro a b c d e L
    have hB := HB.out
    have hz := hB.size
    have hsz : ((((((w2.setCell ⟨w.heap.size, 0, none⟩ a).setCell ⟨w.heap.size, 1, none⟩ b).setCell ⟨w.heap.size, 2, none⟩ c).setCell ⟨w.heap.size, 3, none⟩ d).setCell ⟨w.heap.size, 4, none⟩ e).alloc (.cells L 27)).heap.size = w2.heap.size + 1 := by simp
    refine ⟨⟨hB.os, hB.tape, hB.output, by omega, fun k hk => (five_far a b c d e L (by omega) (by omega)).trans (hB.block k hk)⟩, ?_⟩
    exact (HO.out.keep (by omega) fun k h1 h2 => five_far a b c d e L (by omega) h2).weak (by omega)
  clear HO HB
  cases hg : gO s
  · have HZ : Hid (gT s = zT) := by rw [hg] at HG; exact HG
    go_wp2
    refine bodyPost_ret (v := .tuple #[.agg #[.int .i64 0, .string ⟨#[]⟩, .slice none 0 0, .string ⟨#[]⟩, .slice none 0 0], .bool false]) (by simp [results, Tryz.results11, go_sem, *]) rfl ⟨⟨.slice none 0 0, .slice none 0 0, [], [], (by rw [HZ.out, hg]; try rfl), by rw [HZ.out]; exact StpOwn.nil _ _⟩, (HF.out _ _ _ _ _ _).1⟩
  · have HZ : Hid (gT s = sX s s.size (0, false)) := by rw [hg] at HG; exact HG
    go_wp2
    refine bodyPost_ret (v := .tuple #[.agg #[.int .i64 (sX s s.size (0, false)).k, .string (sX s s.size (0, false)).s, .slice ac nc cc, .string (sX s s.size (0, false)).q, .slice ar nr cr], .bool true]) (by simp [results, Tryz.results11, go_sem, *]) rfl ⟨⟨.slice ac nc cc, .slice ar nr cr, g, F, (by rw [HZ.out, hg]; try rfl), by rw [HZ.out]; exact (HF.out _ _ _ _ _ _).2⟩, (HF.out _ _ _ _ _ _).1⟩
end Go.Proofs.YtlobjpdkjlmglaaGreat
/- Own text. The contract of the cutter's entry. -/
namespace Go.Proofs.YtlobjpdkjlmglaaGreat
open Go.RowKit Go.Deep
set_option linter.unusedVariables false
theorem res5_ct {fn : Func} {a u : Tmp} {t : TypeId} (h : fn.results = #[.cell a t, .tmp u]) (tmps : Array Value) (P : Program) (w : World) (v : Value) (p : Addr) (hp : tmps.getD a undef = .pointer (some p)) (hl : (loadVar t p).run P w = .ok v w) : (results fn tmps).run P w = .ok (.tuple #[v, tmps.getD u undef]) w := by
  have hp2 : tmps[a]?.getD undef = .pointer (some p) := by rw [← hp]; simp
  simp [results, h, hp2, hl, asAddr]
theorem lod5 {w : World} {R : Nat} {a0 a1 a2 a3 a4 : Value} (h : w.heap[R]? = some (.cells #[a0, a1, a2, a3, a4] 27 (0, 0))) : (loadVar 27 ⟨R, 0, none⟩).run Tryz.prog w = .ok (.agg #[a0, a1, a2, a3, a4]) w := by
  have c0 : w.cell? ⟨R, 0, none⟩ = some a0 := by rw [Lib.cell_of_heap h]; rfl
  have c1 : w.cell? ⟨R, 1, none⟩ = some a1 := by rw [Lib.cell_of_heap h]; rfl
  have c2 : w.cell? ⟨R, 2, none⟩ = some a2 := by rw [Lib.cell_of_heap h]; rfl
  have c3 : w.cell? ⟨R, 3, none⟩ = some a3 := by rw [Lib.cell_of_heap h]; rfl
  have c4 : w.cell? ⟨R, 4, none⟩ = some a4 := by rw [Lib.cell_of_heap h]; rfl
  simp [go_sem, c0, c1, c2, c3, c4]
/-- five stores into a block of five cells. -/
theorem st5 {w : World} {R : Nat} {a0 a1 a2 a3 a4 : Value} {t : TypeId} (h : w.heap[R]? = some (.cells #[a0, a1, a2, a3, a4] t (0, 0))) (b0 b1 b2 b3 b4 : Value) :
    (((((w.setCell ⟨R, 0, none⟩ b0).setCell ⟨R, 1, none⟩ b1).setCell ⟨R, 2, none⟩ b2).setCell ⟨R, 3, none⟩ b3).setCell ⟨R, 4, none⟩ b4).heap[R]? = some (.cells #[b0, b1, b2, b3, b4] t (0, 0)) ∧ (∀ b, b ≠ R → (((((w.setCell ⟨R, 0, none⟩ b0).setCell ⟨R, 1, none⟩ b1).setCell ⟨R, 2, none⟩ b2).setCell ⟨R, 3, none⟩ b3).setCell ⟨R, 4, none⟩ b4).heap[b]? = w.heap[b]?) ∧ (((((w.setCell ⟨R, 0, none⟩ b0).setCell ⟨R, 1, none⟩ b1).setCell ⟨R, 2, none⟩ b2).setCell ⟨R, 3, none⟩ b3).setCell ⟨R, 4, none⟩ b4).heap.size = w.heap.size ∧ Below R w (((((w.setCell ⟨R, 0, none⟩ b0).setCell ⟨R, 1, none⟩ b1).setCell ⟨R, 2, none⟩ b2).setCell ⟨R, 3, none⟩ b3).setCell ⟨R, 4, none⟩ b4) := by
  refine ⟨set_blk (i := 4) (v := b4) (set_blk (i := 3) (v := b3) (set_blk (i := 2) (v := b2) (set_blk (i := 1) (v := b1) (set_blk (i := 0) (v := b0) h)))), fun b hne => ?_, by simp, ?_⟩
  · iterate 5 rw [Below.heap_setCell _ _ _ _ (by simpa using hne)]
  · exact (((((Below.refl R w).setCell (p := ⟨R, 0, none⟩) (Nat.le_refl _) _).setCell (p := ⟨R, 1, none⟩) (Nat.le_refl _) _).setCell (p := ⟨R, 2, none⟩) (Nat.le_refl _) _).setCell (p := ⟨R, 3, none⟩) (Nat.le_refl _) _).setCell (p := ⟨R, 4, none⟩) (Nat.le_refl _) _
/-- what entry leaves. -/
def EnOut (s : ByteArray) (a C E : Nat) (w : World) (r : Ending) (w' : World) : Prop :=
  ∃ (x : T5) (ac ar : Option Addr) (nc cc nr cr : Nat), r = .returned (.tuple #[.agg #[.int .i64 x.k, .string x.s, .slice ac nc cc, .string x.q, .slice ar nr cr], .bool (okI s a)]) ∧ Kc C E w w' ∧
    (okI s a = true → x = sX s (lE s a) (lQ s a) ∧ ∃ M g F E' cap', StpOwn w' M (.slice ac nc cc) (.slice ar nr cr) x g F ∧ w.heap.size < M ∧ Ct w' C E' cap' s (lE s a, false) [(s.size : Int)] ∧ (E' = E ∨ w.heap.size ≤ E') ∧ E' < M)
theorem StpOwn.weakF {w : World} {N : Nat} {uc ur : Value} {x : T5} {g F : List Nat} (h : StpOwn w N uc ur x g F) : True ∧ ∀ b ∈ g ++ F, N ≤ b := ⟨trivial, fun b hb => by
  rcases List.mem_append.1 hb with hb | hb
  · exact h.2.2.1.2.1 b hb
  · exact h.2.2.2.1.2.1 b hb⟩
theorem Stepped.ownM {w w' : World} {C E : Nat} {s : ByteArray} {e : Nat} {q : Nat × Bool} {xs : List Int} {uc ur : Value} (h : Stepped w w' C E s e q xs uc ur) : ∃ M g F E' cap', StpOwn w' M uc ur (sX s e q) g F ∧ w.heap.size ≤ M ∧ Ct w' C E' cap' s ((sE s e q).2.1, sT s e q) xs ∧ (E' = E ∨ w.heap.size ≤ E') ∧ E' < M ∧ Kc C E w w' := by
  obtain ⟨us, G, M, h1, h2, h3, h4, ⟨E', cap', h5, h6, h7, h8⟩, h9⟩ := h
  obtain ⟨g, hg, hOg, hub⟩ := strs_own h1
  obtain ⟨F, hF, hOF⟩ := h2.relsF
  by_cases hE : w.heap.size ≤ E' + 1
  · exact ⟨E' + 1, g, F, E', cap', ⟨hg, hF, ⟨hOg.1, fun b hb => h8 b (hub b hb), hOg.2.2⟩, ⟨hOF.1, fun b hb => Nat.le_trans h7 (hOF.2.1 b hb), hOF.2.2⟩, fun b hb hb2 => by have := h4 b (hub b hb); have := hOF.2.1 b hb2; omega⟩, hE, h5, h6, by omega, h9⟩
  · exact ⟨w.heap.size, g, F, E', cap', ⟨hg, hF, hOg, ⟨hOF.1, fun b hb => Nat.le_trans h3 (hOF.2.1 b hb), hOF.2.2⟩, fun b hb hb2 => by have := h4 b (hub b hb); have := hOF.2.1 b hb2; omega⟩, Nat.le_refl _, h5, h6, by omega, h9⟩
set_option maxHeartbeats 4000000 in
set_option maxRecDepth 100000 in
theorem entry_any (C E cap : Nat) (s : ByteArray) (a : Nat) (w : World) (h : Ct w C E cap s (a, false) [(s.size : Int)]) (ha : a ≤ s.size) (hs : s.size ≤ 1048576) :
    Calls Tryz.prog 30 #[.pointer (some ⟨C, 0, none⟩)] w fun r w' => EnOut s a C E w r w' := by
  have hCl := h.ltC
  have hEl := h.ltE
  have hA := lA_bd ha
  have hB := lB_bd ha
  have hBat := lB_at ha
  obtain ⟨hQ1, hQ2, hQ3⟩ := lE_at ha
  have hA1 : (lA s a).2.1 ≤ s.size := nm_at (s := s) (k := 4) (q := (a, false)) ha
  have hAn : Hid ((lA s a).1 = ((lA s a).1.toNat : Int)) := by show _ = _; omega
  have hsb := sumB_bd (lT s a)
  have hTz : (lT s a).size ≤ 1048576 := by unfold lT; rw [ByteArray.size_extract]; omega
  go_enter Tryz.func30, Tryz.ntmps30
  go_wp2_with (first | (go_at_call 68; with_reducible refine Calls.mono (cnum_any C E cap s (a, false) [] s.size 4 _ (h.below (by repeat (first | (with_reducible exact Below.refl _ _) | (with_reducible refine Below.drew ?_) | (with_reducible refine Below.alloc ?_ ?hh _; case hh => first | (simp; done) | (simp; omega) | omega) | (with_reducible refine Below.setCell ?_ ?hh _; case hh => first | (simp; done) | (simp; omega) | omega) | refine bstep (by assumption) (by first | (simp; done) | (simp; omega) | omega) ?_))) ha (Nat.le_refl _) (by omega) hs (by simp)) ?_) | fail)
  rintro r w1 ⟨rfl, E1, cap1, hC1, hK1, _, hE1, hr1⟩
  have hz1 := hK1.size
  simp only [World.size_alloc] at hz1 hE1
  simp only [List.nil_append, List.length_cons, List.length_nil, Nat.zero_add] at hr1
  have hKw1 : Kc C E w w1 := (Kc.of_below (by repeat (first | (with_reducible exact Below.refl _ _) | (with_reducible refine Below.drew ?_) | (with_reducible refine Below.alloc ?_ ?hh _; case hh => first | (simp; done) | (simp; omega) | omega) | (with_reducible refine Below.setCell ?_ ?hh _; case hh => first | (simp; done) | (simp; omega) | omega) | refine bstep (by assumption) (by first | (simp; done) | (simp; omega) | omega) ?_))).trans hK1 (.inl rfl)
  have hR1 : w1.heap[w.heap.size]? = some (.cells #[.int .i64 0, .string ⟨#[]⟩, .slice none 0 0, .string ⟨#[]⟩, .slice none 0 0] 27 (0, 0)) := (hK1.block _ (by simp) (by omega) (by omega)).trans (heap_alloc_new w _)
  have hE1w : E1 = E ∨ w.heap.size + 1 ≤ E1 := hE1
  have hE1l := hC1.ltE
  rw [show (nm s s.size 4 (a, false)).1 = (lA s a).1 from rfl]
  replace hC1 : Ct w1 C E1 cap1 s (lA s a).2 ([] ++ [(s.size : Int)]) := hC1
  clear hK1 h
  have T2 : ∀ wz : World, Ct wz C E1 cap1 s (lA s a).2 ([] ++ [(s.size : Int)]) → Calls Tryz.prog 68 #[.pointer (some ⟨C, 0, none⟩), .int .i64 (4 : Nat)] wz fun r w' => r = .returned (.int .i64 (lB s a).1) ∧ Ct w' C E1 cap1 s (lB s a).2 ([] ++ [(s.size : Int)]) ∧ Kc C E1 wz w' := fun wz hz => by
    refine Calls.mono (cnum_any C E1 cap1 s (lA s a).2 [] s.size 4 wz hz hA1 (Nat.le_refl _) (by omega) hs (by simp)) ?_
    rintro r w' ⟨rfl, hT⟩
    exact ⟨rfl, hT.room (by simpa using hr1)⟩
  have T3 : ∀ wz : World, Ct wz C E1 cap1 s (lB s a).2 ([] ++ [(s.size : Int)]) → Calls Tryz.prog 69 #[.pointer (some ⟨C, 0, none⟩), .int .i64 (lA s a).1] wz fun r w' => r = .returned (.tuple #[]) ∧ Ct w' C E1 cap1 s (lQ s a) ([(s.size : Int)] ++ [(lE s a : Int)]) ∧ Kc C E1 wz w' := fun wz hz => by
    rw [hAn.out]
    refine Calls.mono (enter_any C E1 cap1 s (lB s a).2 [] s.size (lA s a).1.toNat wz hz hBat (Nat.le_refl _) (by omega) hs (by simp)) ?_
    rintro r w' ⟨rfl, E', cap', h1, h2, h3, _, _⟩
    obtain ⟨rfl, rfl⟩ := h3 (by simpa using hr1)
    exact ⟨rfl, h1, h2⟩
  have T4 : ∀ wz : World, Ct wz C E1 cap1 s (lQ s a) ([(s.size : Int)] ++ [(lE s a : Int)]) → Calls Tryz.prog 70 #[.pointer (some ⟨C, 0, none⟩)] wz fun r w' => r = .returned (.string (lT s a)) ∧ ∃ m, w' = wz.drewN m := fun wz hz => left_any C E1 cap1 s (lQ s a) [(s.size : Int)] (lE s a) wz hz hQ2 hQ3
  have T5' : ∀ wz : World, Calls Tryz.prog 18 #[.string (lT s a)] wz fun e w' => e = .returned (.int .u32 (sumB (lT s a))) ∧ w' = wz := fun wz => implSum_any (lT s a) wz (by unfold maxLen; omega)
  have T6 : ∀ wz : World, Ct wz C E1 cap1 s (lQ s a) ([(s.size : Int)] ++ [(lE s a : Int)]) → Calls Tryz.prog 39 #[.pointer (some ⟨C, 0, none⟩)] wz fun r w' => ∃ uc ur, r = .returned (.tuple #[.agg #[.int .i64 (sX s (lE s a) (lQ s a)).k, .string (sX s (lE s a) (lQ s a)).s, uc, .string (sX s (lE s a) (lQ s a)).q, ur], .bool (sO s (lE s a) (lQ s a))]) ∧ Stepped wz w' C E1 s (lE s a) (lQ s a) [(s.size : Int)] uc ur := fun wz hz => step_any C E1 cap1 s (lQ s a) [(s.size : Int)] (lE s a) wz hz hQ2 hQ3 hs (by simp)
  have hRC : w.heap.size ≠ C := by omega
  have hRE : w.heap.size ≠ E1 := by omega
  have HI : Hid (okI s a = (((sumB (lT s a) : Int) == (lB s a).1) && sO s (lE s a) (lQ s a))) := rfl
  generalize hSB : sumB (lT s a) = SB at *
  generalize hNB : (lB s a).1 = NB at *
  have hws : IntKind.i64.wrap SB = SB := by rw [IntKind.wrap_i64]; omega
  have hwt : wrap64 SB = SB := by unfold wrap64; omega
  go_wp2_with (first | (go_at_call 68; with_reducible refine Calls.mono (T2 _ hC1) ?_) | fail)
  rintro r w2 ⟨rfl, hC2, hK2⟩
  have hz2 := hK2.size
  have hR2 := (hK2.block _ (by omega) hRC hRE).trans hR1
  have hKw2 : Kc C E w w2 := hKw1.trans hK2 (by omega)
  clear hC1 hK2 T2 hR1 hKw1
  go_wp2_with (first | (go_at_call 69; with_reducible refine Calls.mono (T3 _ hC2) ?_) | fail)
  rintro r w3 ⟨rfl, hC3, hK3⟩
  have hz3 := hK3.size
  have hR3 := (hK3.block _ (by omega) hRC hRE).trans hR2
  have hKw3 : Kc C E w w3 := hKw2.trans hK3 (by omega)
  clear hC2 hK3 T3 hR2 hKw2
  go_wp2_with (first | (go_at_call 70; with_reducible refine Calls.mono (T4 _ hC3) ?_) | fail)
  rintro r w4 ⟨rfl, m4, rfl⟩
  have hC4 := hC3.drewN m4
  have hKw4 := hKw3.drewN m4
  have hz4 : (w3.drewN m4).heap.size = w3.heap.size := rfl
  have hR4 : (w3.drewN m4).heap[w.heap.size]? = _ := hR3
  generalize w3.drewN m4 = w4 at *
  clear hC3 hKw3 hR3 T4
  have hRl := heap_lt hR4
  have b0 : w4.cell? ⟨w.heap.size, 0, none⟩ = some (.int .i64 0) := by rw [Lib.cell_of_heap hR4]; rfl
  have b1 : w4.cell? ⟨w.heap.size, 1, none⟩ = some (.string ⟨#[]⟩) := by rw [Lib.cell_of_heap hR4]; rfl
  have b2 : w4.cell? ⟨w.heap.size, 2, none⟩ = some (.slice none 0 0) := by rw [Lib.cell_of_heap hR4]; rfl
  have b3 : w4.cell? ⟨w.heap.size, 3, none⟩ = some (.string ⟨#[]⟩) := by rw [Lib.cell_of_heap hR4]; rfl
  have b4 : w4.cell? ⟨w.heap.size, 4, none⟩ = some (.slice none 0 0) := by rw [Lib.cell_of_heap hR4]; rfl
  have bf : ∀ i, w4.frozen? ⟨w.heap.size, i, none⟩ = false := fun i => Lib.frozen_of_heap hR4 i
  cases hne : (SB == NB)
  · have hne2 : (SB != NB) = true := by simp only [bne, hne]; rfl
    have HZ : Hid (okI s a = false) := by rw [hne] at HI; exact HI
    obtain ⟨st1, st2, st3, st4⟩ := st5 hR4 (.int .i64 0) (.string ⟨#[]⟩) (.slice none 0 0) (.string ⟨#[]⟩) (.slice none 0 0)
    have HK : Hid (Kc C E w (((((w4.setCell ⟨w.heap.size, 0, none⟩ (.int .i64 0)).setCell ⟨w.heap.size, 1, none⟩ (.string ⟨#[]⟩)).setCell ⟨w.heap.size, 2, none⟩ (.slice none 0 0)).setCell ⟨w.heap.size, 3, none⟩ (.string ⟨#[]⟩)).setCell ⟨w.heap.size, 4, none⟩ (.slice none 0 0))) := ⟨hKw4.os, hKw4.tape, hKw4.output, by rw [st3]; exact hKw4.size, fun b hb h1 h2 => (st2 b (by omega)).trans (hKw4.block b hb h1 h2)⟩
    have HS : Hid _ := st1
    clear st1 st2 st3 st4 hKw4 hC4 T6
    go_wp2_with (first | (go_at_call 18; with_reducible refine Calls.mono (T5' _) ?_; rintro r w5 ⟨rfl, rfl⟩) | fail)
    refine bodyPost_ret (res5_ct rfl _ _ _ _ ⟨w.heap.size, 0, none⟩ rfl (lod5 HS.out)) rfl ⟨zT, none, none, 0, 0, 0, 0, (by rw [HZ.out]; rfl), HK.out, fun h => by rw [HZ.out] at h; cases h⟩
  · have hne2 : (SB != NB) = false := by simp only [bne, hne]; rfl
    have HZ : Hid (okI s a = sO s (lE s a) (lQ s a)) := by rw [hne] at HI; simpa using HI
    go_wp2_with (first | (go_at_call 18; with_reducible refine Calls.mono (T5' _) ?_; rintro r w5 ⟨rfl, rfl⟩) | (go_at_call 39; with_reducible refine Calls.mono (T6 _ hC4) ?_) | fail)
    rintro r w6 ⟨uc, ur, rfl, hSt⟩
    obtain ⟨M, g, F, E', cap', hO, hM, hC6, hE6, hEM, hK6⟩ := hSt.ownM
    have hz6 := hK6.size
    have hR6 := (hK6.block _ hRl hRC hRE).trans hR4
    have hKw6 : Kc C E w w6 := hKw4.trans hK6 (by omega)
    obtain ⟨ac, cc, rfl, _, _⟩ := hO.1.shape
    have hs2 : ∃ a2 c2, ur = .slice a2 (sX s (lE s a) (lQ s a)).rs.length c2 := by
      obtain ⟨a2, c2, _, h, _⟩ := hO.2.1
      exact ⟨a2, c2, h⟩
    obtain ⟨ar, cr, rfl⟩ := hs2
    have HX : Hid (sO s (lE s a) (lQ s a) = true → ((sE s (lE s a) (lQ s a)).2.1, sT s (lE s a) (lQ s a)) = (lE s a, false)) := fun h => by
      obtain ⟨h1, h2⟩ := sO_at h
      rw [h1, h2]
    clear b0 b1 b2 b3 b4 bf
    have hRl6 := heap_lt hR6
    have b0 : w6.cell? ⟨w.heap.size, 0, none⟩ = some (.int .i64 0) := by rw [Lib.cell_of_heap hR6]; rfl
    have b1 : w6.cell? ⟨w.heap.size, 1, none⟩ = some (.string ⟨#[]⟩) := by rw [Lib.cell_of_heap hR6]; rfl
    have b2 : w6.cell? ⟨w.heap.size, 2, none⟩ = some (.slice none 0 0) := by rw [Lib.cell_of_heap hR6]; rfl
    have b3 : w6.cell? ⟨w.heap.size, 3, none⟩ = some (.string ⟨#[]⟩) := by rw [Lib.cell_of_heap hR6]; rfl
    have b4 : w6.cell? ⟨w.heap.size, 4, none⟩ = some (.slice none 0 0) := by rw [Lib.cell_of_heap hR6]; rfl
    have bf : ∀ i, w6.frozen? ⟨w.heap.size, i, none⟩ = false := fun i => Lib.frozen_of_heap hR6 i
    clear hSt T6 T5' hC4 hKw4 hK6 hR4
    generalize hXe : sX s (lE s a) (lQ s a) = x at *
    have HXe : Hid (x = sX s (lE s a) (lQ s a)) := hXe.symm
    clear hXe
    generalize x.cs.length = n1 at *
    generalize x.rs.length = n2 at *
    obtain ⟨st1, st2, st3, st4⟩ := st5 hR6 (.int .i64 x.k) (.string x.s) (.slice ac n1 cc) (.string x.q) (.slice ar n2 cr)
    have HP : Hid (EnOut s a C E w (.returned (.tuple #[.agg #[.int .i64 x.k, .string x.s, .slice ac n1 cc, .string x.q, .slice ar n2 cr], .bool (sO s (lE s a) (lQ s a))])) (((((w6.setCell ⟨w.heap.size, 0, none⟩ (.int .i64 x.k)).setCell ⟨w.heap.size, 1, none⟩ (.string x.s)).setCell ⟨w.heap.size, 2, none⟩ (.slice ac n1 cc)).setCell ⟨w.heap.size, 3, none⟩ (.string x.q)).setCell ⟨w.heap.size, 4, none⟩ (.slice ar n2 cr))) := by
      refine ⟨x, ac, ar, n1, cc, n2, cr, by rw [HZ.out], ⟨hKw6.os, hKw6.tape, hKw6.output, by rw [st3]; exact hKw6.size, fun b hb h1 h2 => (st2 b (by omega)).trans (hKw6.block b hb h1 h2)⟩, fun hk => ?_⟩
      rw [HZ.out] at hk
      have e := HX.out hk
      rw [e] at hC6
      exact ⟨HXe.out, M, g, F, E', cap', hO.keep (by rw [st3]; exact Nat.le_refl _) (fun b h1 h2 => st2 b (by omega)), by omega, hC6.keep (st2 C (by omega)) (st2 E' (by omega)), by omega, hEM⟩
    have HS : Hid _ := st1
    clear st1 st2 st3 st4 hKw6 hC6 hO hR6
    generalize sO s (lE s a) (lQ s a) = ok at *
    go_wp2
    refine bodyPost_ret (res5_ct (a := 2) (u := 3) rfl _ _ _ _ ⟨w.heap.size, 0, none⟩ rfl (lod5 HS.out)) rfl HP.out
end Go.Proofs.YtlobjpdkjlmglaaGreat
/- Own text. Steps with the blocks that they lie in; a list of steps that grows by append. -/
namespace Go.Proofs.YtlobjpdkjlmglaaGreat
open Go.RowKit Go.Deep Go.ChangeShapes Go.WideShapes
set_option linter.unusedVariables false
/-- a step's two lists, in the blocks g. -/
def StpF (w : World) (u : Value × Value) (x : T5) (g : List Nat) : Prop := ∃ g1 g2, g = g1 ++ g2 ∧ StrsF w u.1 x.cs g1 ∧ RelsF w u.2 x.rs g2
section
variable {w w' : World} {u : Value × Value} {x : T5} {g : List Nat}
theorem StpF.is (h : StpF w u x g) : StpIs w u.1 u.2 x := by
  obtain ⟨g1, g2, _, h1, h2⟩ := h
  exact ⟨⟨g1, h1⟩, h2.is⟩
theorem StpF.lt (h : StpF w u x g) : ∀ b ∈ g, b < w.heap.size := by
  obtain ⟨g1, g2, rfl, h1, h2⟩ := h
  intro b hb
  rcases List.mem_append.1 hb with hb | hb
  · exact h1.lt b hb
  · exact h2.lt b hb
theorem StpF.keep (h : StpF w u x g) (hs : w.heap.size ≤ w'.heap.size) (hg : ∀ b ∈ g, w'.heap[b]? = w.heap[b]?) : StpF w' u x g := by
  obtain ⟨g1, g2, rfl, h1, h2⟩ := h
  exact ⟨g1, g2, rfl, h1.keep hs fun b hb => hg b (List.mem_append_left _ hb), h2.keep hs fun b hb => hg b (List.mem_append_right _ hb)⟩
theorem StpF.below (h : StpF w u x g) (hb : Below w.heap.size w w') : StpF w' u x g := h.keep hb.size fun b hg => hb.block b (h.lt b hg)
theorem StpOwn.stpF {N : Nat} {uc ur : Value} {F : List Nat} (h : StpOwn w N uc ur x g F) : StpF w (uc, ur) x (g ++ F) ∧ Own w N (g ++ F) := by
  refine ⟨⟨g, F, rfl, h.1, h.2.1⟩, ?_, ?_, ?_⟩
  · rw [List.nodup_append]
    exact ⟨h.2.2.1.1, h.2.2.2.1.1, fun a ha b hb e => h.2.2.2.2 a ha (e ▸ hb)⟩
  · intro b hb
    rcases List.mem_append.1 hb with hb | hb
    · exact h.2.2.1.2.1 b hb
    · exact h.2.2.2.1.2.1 b hb
  · intro b hb
    rcases List.mem_append.1 hb with hb | hb
    · exact h.2.2.1.2.2 b hb
    · exact h.2.2.2.1.2.2 b hb
end
/-- the slice value v has the steps ts. -/
def TLies (w : World) (b o : Nat) (ts : List T5) : Prop :=
  ∀ i x, ts[i]? = some x → ∃ u : Value × Value, w.cell? ⟨b, o + i * 5, none⟩ = some (.int .i64 x.k) ∧ w.cell? ⟨b, o + i * 5 + 1, none⟩ = some (.string x.s) ∧ w.cell? ⟨b, o + i * 5 + 2, none⟩ = some u.1 ∧ w.cell? ⟨b, o + i * 5 + 3, none⟩ = some (.string x.q) ∧ w.cell? ⟨b, o + i * 5 + 4, none⟩ = some u.2 ∧ StpIs w u.1 u.2 x
def StsIs (w : World) (v : Value) (ts : List T5) : Prop :=
  ∃ a c, v = .slice a ts.length c ∧ ts.length ≤ c ∧ c ≤ maxLen ∧ (ts ≠ [] → ∃ b o, a = some ⟨b, o, none⟩ ∧ b < w.heap.size ∧ TLies w b o ts)
theorem StsIs.below {w w' : World} {v : Value} {ts : List T5} (h : StsIs w v ts) (hb : Below w.heap.size w w') : StsIs w' v ts := by
  obtain ⟨a, c, rfl, hl, hc, h⟩ := h
  refine ⟨a, c, rfl, hl, hc, fun hne => ?_⟩
  obtain ⟨b, o, rfl, hlt, hL⟩ := h hne
  refine ⟨b, o, rfl, Nat.lt_of_lt_of_le hlt hb.size, fun i x hx => ?_⟩
  obtain ⟨u, a0, a1, a2, a3, a4, a5⟩ := hL i x hx
  have hbb := hb.block b hlt
  exact ⟨u, (cell_blk hbb).trans a0, (cell_blk hbb).trans a1, (cell_blk hbb).trans a2, (cell_blk hbb).trans a3, (cell_blk hbb).trans a4, a5.below hb⟩
/-- the relations rs lie in w from cell o of block b on, their rows in the blocks G. -/
def TLF (w : World) (b o : Nat) (rs : List T5) (G : List (List Nat)) : Prop :=
  ∀ i x g, rs[i]? = some x → G[i]? = some g → ∃ u : Value × Value, w.cell? ⟨b, o + i * 5, none⟩ = some (.int .i64 x.k) ∧ w.cell? ⟨b, o + i * 5 + 1, none⟩ = some (.string x.s) ∧ w.cell? ⟨b, o + i * 5 + 2, none⟩ = some u.1 ∧ w.cell? ⟨b, o + i * 5 + 3, none⟩ = some (.string x.q) ∧ w.cell? ⟨b, o + i * 5 + 4, none⟩ = some u.2 ∧ StpF w u x g
/-- the slice value v has the relations rs, in the blocks F. -/
def StsF (w : World) (v : Value) (rs : List T5) (F : List Nat) : Prop :=
  ∃ (a : Option Addr) (c : Nat) (G : List (List Nat)), v = .slice a rs.length c ∧ rs.length ≤ c ∧ c ≤ maxLen ∧ (a = none → c = 0) ∧ G.length = rs.length ∧ (rs = [] → F = []) ∧
    (rs ≠ [] → ∃ b o, a = some ⟨b, o, none⟩ ∧ b < w.heap.size ∧ F = b :: G.flatten ∧ TLF w b o rs G)
theorem StsF.is {w : World} {v : Value} {rs : List T5} {F : List Nat} (h : StsF w v rs F) : StsIs w v rs := by
  obtain ⟨a, c, G, rfl, hl, hc, _, hG, _, h⟩ := h
  refine ⟨a, c, rfl, hl, hc, fun hne => ?_⟩
  obtain ⟨b, o, rfl, hlt, _, hL⟩ := h hne
  refine ⟨b, o, rfl, hlt, fun i x hx => ?_⟩
  have hi : i < rs.length := (List.getElem?_eq_some_iff.1 hx).1
  have hi' : i < G.length := by omega
  obtain ⟨u, h0, h1, h2, h3, h4, h5⟩ := hL i x G[i] hx (by simp)
  exact ⟨u, h0, h1, h2, h3, h4, h5.is⟩
theorem StsF.lt {w : World} {v : Value} {rs : List T5} {F : List Nat} (h : StsF w v rs F) : ∀ b ∈ F, b < w.heap.size := by
  obtain ⟨a, c, G, rfl, hl, hc, _, hG, h0, h⟩ := h
  intro x hx
  by_cases hne : rs = []
  · rw [h0 hne] at hx; cases hx
  obtain ⟨b, o, rfl, hlt, rfl, hL⟩ := h hne
  rcases List.mem_cons.1 hx with rfl | hx
  · exact hlt
  obtain ⟨g, hg, hxg⟩ := List.mem_flatten.1 hx
  obtain ⟨i, hi, rfl⟩ := List.mem_iff_getElem.1 hg
  have hi' : i < rs.length := by omega
  obtain ⟨u, _, _, _, _, _, hk⟩ := hL i rs[i] G[i] (by simp) (by simp)
  exact hk.lt x hxg
theorem TLF.keep {w w' : World} {b o : Nat} {rs : List T5} {G : List (List Nat)} (h : TLF w b o rs G) (hs : w.heap.size ≤ w'.heap.size) (hb : w'.heap[b]? = w.heap[b]?) (hF : ∀ x ∈ G.flatten, w'.heap[x]? = w.heap[x]?) : TLF w' b o rs G := fun i x g hx hg => by
  obtain ⟨u, a0, a1, a2, a3, a4, a5⟩ := h i x g hx hg
  exact ⟨u, (cell_blk hb).trans a0, (cell_blk hb).trans a1, (cell_blk hb).trans a2, (cell_blk hb).trans a3, (cell_blk hb).trans a4, a5.keep hs fun y hy => hF y (List.mem_flatten.2 ⟨g, List.mem_of_getElem? hg, hy⟩)⟩
theorem StsF.keep {w w' : World} {v : Value} {rs : List T5} {F : List Nat} (h : StsF w v rs F) (hs : w.heap.size ≤ w'.heap.size) (hF : ∀ b ∈ F, w'.heap[b]? = w.heap[b]?) : StsF w' v rs F := by
  obtain ⟨a, c, G, rfl, hl, hc, hz, hG, h0, h⟩ := h
  refine ⟨a, c, G, rfl, hl, hc, hz, hG, h0, fun hne => ?_⟩
  obtain ⟨b, o, rfl, hlt, rfl, hL⟩ := h hne
  exact ⟨b, o, rfl, Nat.lt_of_lt_of_le hlt hs, rfl, hL.keep hs (hF b List.mem_cons_self) fun x hx => hF x (List.mem_cons_of_mem _ hx)⟩
theorem StsF.below {w w' : World} {v : Value} {rs : List T5} {F : List Nat} (h : StsF w v rs F) (hb : Below w.heap.size w w') : StsF w' v rs F := h.keep hb.size fun b hF => hb.block b (h.lt b hF)
theorem StsF.chg_ {w w' : World} {v : Value} {rs : List T5} {F G : List Nat} (h : StsF w v rs F) (hb : Chg G w w') (hd : ∀ b ∈ F, b ∉ G) : StsF w' v rs F := h.keep hb.size fun b hF => hb.block b (h.lt b hF) (hd b hF)
theorem StsF.pick {w : World} {v : Value} {rs : List T5} {F : List Nat} (h : StsF w v rs F) :
    ∃ a c b o G, v = .slice a rs.length c ∧ rs.length ≤ c ∧ c ≤ maxLen ∧ (a = none → c = 0) ∧ G.length = rs.length ∧ (rs = [] → F = []) ∧ TLF w b o rs G ∧ ∀ n, n < rs.length → a = some ⟨b, o, none⟩ ∧ b < w.heap.size ∧ F = b :: G.flatten := by
  obtain ⟨a, c, G, rfl, hl, hc, hz, hG, h0, h⟩ := h
  by_cases hne : rs = []
  · exact ⟨a, c, 0, 0, G, rfl, hl, hc, hz, hG, h0, fun i x g hx => by rw [hne] at hx; simp at hx, fun k hk => by rw [hne] at hk; simp at hk⟩
  · obtain ⟨b, o, rfl, hlt, hF, hL⟩ := h hne
    exact ⟨_, c, b, o, G, rfl, hl, hc, hz, hG, h0, hL, fun _ _ => ⟨rfl, hlt, hF⟩⟩
theorem TLF.at {w w' : World} {b o : Nat} {rs : List T5} {G : List (List Nat)} (h : TLF w b o rs G) (hG : G.length = rs.length) (hlt : b < w.heap.size) (hb : Below w.heap.size w w') {k : Nat} (hk : k < rs.length) :
    ∃ x u g, rs[k]? = some x ∧ w'.cell? ⟨b, o + k * 5, none⟩ = some (.int .i64 x.k) ∧ w'.cell? ⟨b, o + k * 5 + 1, none⟩ = some (.string x.s) ∧ w'.cell? ⟨b, o + k * 5 + 2, none⟩ = some u.1 ∧ w'.cell? ⟨b, o + k * 5 + 3, none⟩ = some (.string x.q) ∧ w'.cell? ⟨b, o + k * 5 + 4, none⟩ = some u.2 ∧ StpF w' u x g ∧ b < w'.heap.size := by
  obtain ⟨u, h0, h1, h2, h3, h4, h5⟩ := h k rs[k] (G[k]'(by omega)) (by simp [hk]) (by simp)
  have hbb := hb.block b hlt
  exact ⟨rs[k], u, _, by simp [hk], (cell_blk hbb).trans h0, (cell_blk hbb).trans h1, (cell_blk hbb).trans h2, (cell_blk hbb).trans h3, (cell_blk hbb).trans h4, h5.below hb, Nat.lt_of_lt_of_le hlt hb.size⟩
/-- the cells of relations; us: their rows' slices. -/
def rct (us : List (Value × Value)) (rs : List T5) : List Value := (us.zip rs).flatMap fun p => [.int .i64 p.2.k, .string p.2.s, p.1.1, .string p.2.q, p.1.2]
theorem rct_push {us : List (Value × Value)} {rs : List T5} (h : us.length = rs.length) (u : Value × Value) (x : T5) : rct (us ++ [u]) (rs ++ [x]) = rct us rs ++ [.int .i64 x.k, .string x.s, u.1, .string x.q, u.2] := by
  unfold rct
  rw [List.zip_append h, List.flatMap_append]
  simp
theorem rct_at {us : List (Value × Value)} {rs : List T5} (h : us.length = rs.length) : ∀ {i : Nat} {u : Value × Value} {x : T5}, us[i]? = some u → rs[i]? = some x → (rct us rs)[i * 5]? = some (.int .i64 x.k) ∧ (rct us rs)[i * 5 + 1]? = some (.string x.s) ∧ (rct us rs)[i * 5 + 2]? = some u.1 ∧ (rct us rs)[i * 5 + 3]? = some (.string x.q) ∧ (rct us rs)[i * 5 + 4]? = some u.2 := by
  induction us generalizing rs with
  | nil => intro i u x hu; simp at hu
  | cons v us ih =>
    cases rs with
    | nil => simp at h
    | cons c rs =>
      intro i u x hu hx
      have e : rct (v :: us) (c :: rs) = .int .i64 c.k :: .string c.s :: v.1 :: .string c.q :: v.2 :: rct us rs := by unfold rct; rw [List.zip_cons_cons, List.flatMap_cons]; rfl
      rw [e]
      cases i with
      | zero => simp at hu hx; subst hu hx; simp
      | succ i =>
        have := ih (rs := rs) (by simpa using h) (i := i) (u := u) (x := x) (by simpa using hu) (by simpa using hx)
        rw [show (i + 1) * 5 = i * 5 + 1 + 1 + 1 + 1 + 1 from by omega]
        simpa using this
/-- the slice value v has the relations rs, in memory of the call's own from N on. -/
structure StsOwn (w : World) (N : Nat) (v : Value) (rs : List T5) (us : List (Value × Value)) (G : List (List Nat)) : Prop where
  own : w.ownsRow N 27 5 v rs.length (rct us rs)
  ul : us.length = rs.length
  gl : G.length = rs.length
  row : ∀ (i : Nat) (x : T5) (u : Value × Value) (g : List Nat), rs[i]? = some x → us[i]? = some u → G[i]? = some g → StpF w u x g
  free : Own w N G.flatten
  out : ∀ b, v.ownBlock = some b → b ∉ G.flatten
section
variable {w w' : World} {N : Nat} {v : Value} {rs : List T5} {us : List (Value × Value)} {G : List (List Nat)}
theorem StsOwn.empty' {w : World} {N : Nat} (hN : N = w.heap.size) : StsOwn (w.alloc (.cells #[] 27)) N (.slice (some ⟨N, 0, none⟩) 0 0) [] [] [] := by
  subst hN
  exact ⟨⟨by simp [rct], .inr ⟨w.heap.size, 0, #[], rfl, Nat.le_refl _, heap_alloc_new w _, Nat.le_refl _, by simp, by simp, by simp [rct]⟩⟩, rfl, rfl, fun i x u g hx => by simp at hx, by simp [Own, Free], fun b _ => by simp⟩
theorem StsOwn.lt (h : StsOwn w N v rs us G) : ∀ b ∈ G.flatten, b < w.heap.size := by
  intro b hb
  obtain ⟨g, hg, hbg⟩ := List.mem_flatten.1 hb
  obtain ⟨i, hi, rfl⟩ := List.mem_iff_getElem.1 hg
  have h1 := h.gl
  have h2 := h.ul
  have hi1 : i < rs.length := by omega
  have hi2 : i < us.length := by omega
  exact (h.row i rs[i] us[i] G[i] (by simp) (by simp) (by simp)).lt b hbg
theorem StsOwn.keep (h : StsOwn w N v rs us G) (hs : w.heap.size ≤ w'.heap.size) (hb : ∀ b, N ≤ b → b < w.heap.size → w'.heap[b]? = w.heap[b]?) : StsOwn w' N v rs us G := by
  have hk : ∀ b ∈ G.flatten, w'.heap[b]? = w.heap[b]? := fun b hbG => hb b (h.free.2.1 b hbG) (h.lt b hbG)
  refine ⟨ownsRow_keep h.own fun b hv => hb b (ownsRow_lt h.own b hv).1 (ownsRow_lt h.own b hv).2, h.ul, h.gl, fun i x u g hx hu hg => (h.row i x u g hx hu hg).keep hs fun b hbg => hk b (List.mem_flatten.2 ⟨g, List.mem_of_getElem? hg, hbg⟩), h.free.keep hk, h.out⟩
theorem StsOwn.below (h : StsOwn w N v rs us G) (hb : Below w.heap.size w w') : StsOwn w' N v rs us G := h.keep hb.size fun b _ hlt => hb.block b hlt
theorem StsOwn.push {v' : Value} {u : Value × Value} {x : T5} {g : List Nat} (h : StsOwn w N v rs us G) (hR : StpF w u x g) (hO : Own w N g) (hd1 : ∀ b ∈ G.flatten, b ∉ g) (hd2 : ∀ b, v.ownBlock = some b → b ∉ g)
    (ho : w'.ownsRow N 27 5 v' (rs.length + 1) (rct us rs ++ [.int .i64 x.k, .string x.s, u.1, .string x.q, u.2])) (hg : w.grownBy w' v.ownBlock) (hat : ∀ b, v'.ownBlock = some b → v.ownBlock = some b ∨ w.heap.size ≤ b) :
    StsOwn w' N v' (rs ++ [x]) (us ++ [u]) (G ++ [g]) := by
  have hG := h.lt
  have hm : ∀ b ∈ (G ++ [g]).flatten, b ∈ G.flatten ∨ b ∈ g := by intro b hb; simpa using hb
  have hlt : ∀ b ∈ (G ++ [g]).flatten, b < w.heap.size := fun b hb => (hm b hb).elim (hG b) (hR.lt b)
  have hne : ∀ b ∈ (G ++ [g]).flatten, some b ≠ v.ownBlock := fun b hb e => (hm b hb).elim (h.out b e.symm) (hd2 b e.symm)
  have hk : ∀ b ∈ (G ++ [g]).flatten, w'.heap[b]? = w.heap[b]? := fun b hb => hg.block b (hlt b hb) (hne b hb)
  refine ⟨?_, by simp [h.ul], by simp [h.gl], fun i y z q hy hz hq => ?_, ?_, fun b hb => ?_⟩
  · rw [rct_push h.ul]; simpa using ho
  · by_cases hi : i < rs.length
    · rw [List.getElem?_append_left hi] at hy
      rw [List.getElem?_append_left (by rw [h.ul]; exact hi)] at hz
      rw [List.getElem?_append_left (by rw [h.gl]; exact hi)] at hq
      exact (h.row i y z q hy hz hq).keep hg.size fun b hb => hk b (by simp; exact .inl ⟨q, List.mem_of_getElem? hq, hb⟩)
    · have hl : i < (rs ++ [x]).length := (List.getElem?_eq_some_iff.1 hy).1
      obtain rfl : i = rs.length := by simp at hl; omega
      rw [List.getElem?_append_right (Nat.le_refl _)] at hy
      rw [List.getElem?_append_right (by rw [h.ul]; exact Nat.le_refl _)] at hz
      rw [List.getElem?_append_right (by rw [h.gl]; exact Nat.le_refl _)] at hq
      simp [h.ul, h.gl] at hy hz hq
      subst hy hz hq
      exact hR.keep hg.size fun b hb => hk b (by simp; exact .inr hb)
  · refine Own.keep (w := w) ⟨?_, fun b hb => (hm b hb).elim (h.free.2.1 b) (hO.2.1 b), fun b hb => (hm b hb).elim (h.free.2.2 b) (hO.2.2 b)⟩ hk
    rw [List.flatten_append, List.nodup_append]
    refine ⟨h.free.1, by simpa using hO.1, fun a ha b hb => ?_⟩
    rintro rfl
    exact hd1 a ha (by simpa using hb)
  · intro hx
    rcases hat b hb with e | e
    · exact hne b hx e.symm
    · have := hlt b hx; omega
theorem StsOwn.shape (h : StsOwn w N v rs us G) : ∃ a c, v = .slice a rs.length c := by
  rcases h.own.2 with ⟨rfl, h0⟩ | ⟨g, cap, cur, hv, _⟩
  · exact ⟨none, 0, by rw [h0]⟩
  · exact ⟨_, cap, hv⟩
theorem StsOwn.stsF (h : StsOwn w N v rs us G) : ∃ F, StsF w v rs F ∧ Own w N F := by
  have hlt := ownsRow_lt h.own
  have hGl := h.lt
  by_cases hne : rs = []
  · refine ⟨[], ?_, by simp [Own, Free]⟩
    have hgl := h.gl
    subst hne
    rcases h.own.2 with ⟨rfl, _⟩ | ⟨g, cap, cur, rfl, _, _, hn, hm, _⟩
    · exact ⟨none, 0, G, rfl, Nat.le_refl _, by simp, fun _ => rfl, hgl, fun _ => rfl, fun x => absurd rfl x⟩
    · exact ⟨_, cap, G, rfl, hn, hm, (fun x => by cases x), hgl, fun _ => rfl, fun x => absurd rfl x⟩
  have hp : 0 < rs.length := List.length_pos_iff.2 hne
  obtain ⟨hl, ho⟩ := h.own
  rcases ho with ⟨_, h0⟩ | ⟨g, cap, cur, rfl, hg, hc, hn, hm, hs, ht⟩
  · omega
  have hgo : g ∉ G.flatten := h.out g rfl
  refine ⟨g :: G.flatten, ⟨_, cap, G, rfl, hn, hm, (fun x => by cases x), h.gl, fun x => absurd x hne, fun _ => ⟨g, 0, rfl, (hlt g rfl).2, rfl, fun i x q hx hq => ?_⟩⟩, List.nodup_cons.2 ⟨hgo, h.free.1⟩, fun b hb => ?_, fun b hb o => ?_⟩
  · have hi : i < rs.length := (List.getElem?_eq_some_iff.1 hx).1
    have hiu : i < us.length := by rw [h.ul]; exact hi
    obtain ⟨e0, e1, e2, e3, e4⟩ := rct_at h.ul (i := i) (u := us[i]) (x := x) (by simp) hx
    have get : ∀ j u, j < rs.length * 5 → (rct us rs)[j]? = some u → w.cell? ⟨g, j, none⟩ = some u := by
      intro j u hj hu
      simp only [World.cell?, hc]
      rw [← ht, List.getElem?_take, if_pos hj, Array.getElem?_toList] at hu
      simpa using hu
    exact ⟨us[i], by rw [Nat.zero_add]; exact get _ _ (by omega) e0, by rw [Nat.zero_add]; exact get _ _ (by omega) e1, by rw [Nat.zero_add]; exact get _ _ (by omega) e2, by rw [Nat.zero_add]; exact get _ _ (by omega) e3, by rw [Nat.zero_add]; exact get _ _ (by omega) e4, h.row i x us[i] q hx (by simp) hq⟩
  · rcases List.mem_cons.1 hb with rfl | hb
    · exact hg
    · exact h.free.2.1 b hb
  · rcases List.mem_cons.1 hb with rfl | hb
    · simp [World.frozen?, hc]
    · exact h.free.2.2 b hb o
end
end Go.Proofs.YtlobjpdkjlmglaaGreat
/- Own text. The list of steps that ReadLog grows: add, all. -/
namespace Go.Proofs.YtlobjpdkjlmglaaGreat
open Go.RowKit Go.Deep
set_option linter.unusedVariables false
theorem StsOwn.keepF {w w' : World} {N : Nat} {v : Value} {rs : List T5} {us : List (Value × Value)} {G : List (List Nat)} (h : StsOwn w N v rs us G) (hs : w.heap.size ≤ w'.heap.size) (hv : ∀ b, v.ownBlock = some b → w'.heap[b]? = w.heap[b]?) (hk : ∀ b ∈ G.flatten, w'.heap[b]? = w.heap[b]?) : StsOwn w' N v rs us G :=
  ⟨ownsRow_keep h.own hv, h.ul, h.gl, fun i x u g hx hu hg => (h.row i x u g hx hu hg).keep hs fun b hbg => hk b (List.mem_flatten.2 ⟨g, List.mem_of_getElem? hg, hbg⟩), h.free.keep hk, h.out⟩
/-- block P is a list of steps in memory of its own from N on. -/
structure Lt (w : World) (N P : Nat) (u : Value) (rs : List T5) (us : List (Value × Value)) (G : List (List Nat)) : Prop where
  le : N ≤ P
  blk : w.heap[P]? = some (.cells #[u] 54 (0, 0))
  own : StsOwn w N u rs us G
  out : P ∉ G.flatten
/-- the blocks of a list of steps. -/
def LtIn (P : Nat) (u : Value) (G : List (List Nat)) (b : Nat) : Prop := b = P ∨ u.ownBlock = some b ∨ b ∈ G.flatten
section
variable {w w' : World} {N P : Nat} {u : Value} {rs : List T5} {us : List (Value × Value)} {G : List (List Nat)}
theorem Lt.lt (h : Lt w N P u rs us G) : P < w.heap.size := heap_lt h.blk
theorem Lt.inLt (h : Lt w N P u rs us G) : ∀ b, LtIn P u G b → N ≤ b ∧ b < w.heap.size := by
  rintro b (rfl | hb | hb)
  · exact ⟨h.le, h.lt⟩
  · exact ownsRow_lt h.own.own b hb
  · exact ⟨h.own.free.2.1 b hb, h.own.lt b hb⟩
theorem Lt.keepF (h : Lt w N P u rs us G) (hs : w.heap.size ≤ w'.heap.size) (hb : ∀ b, LtIn P u G b → w'.heap[b]? = w.heap[b]?) : Lt w' N P u rs us G :=
  ⟨h.le, (hb P (.inl rfl)).trans h.blk, h.own.keepF hs (fun b hv => hb b (.inr (.inl hv))) (fun b hv => hb b (.inr (.inr hv))), h.out⟩
theorem Lt.below (h : Lt w N P u rs us G) (hb : Below w.heap.size w w') : Lt w' N P u rs us G := h.keepF hb.size fun b hI => hb.block b (h.inLt b hI).2
end
theorem infoT5 : (Tryz.prog.info? 27).map (fun i => (i.zero, i.size, i.bytes)) = some (some (.agg #[.int .i64 0, .string ⟨#[]⟩, .slice none 0 0, .string ⟨#[]⟩, .slice none 0 0]), 5, 88) := by kernel_rfl
set_option maxHeartbeats 4000000 in
set_option maxRecDepth 100000 in
theorem tadd_any (N P : Nat) (u : Value) (ac ar : Option Addr) (nc cc nr cr : Nat) (rs : List T5) (us : List (Value × Value)) (G : List (List Nat)) (x : T5) (g : List Nat) (b0 : Nat) (w : World) (h : Lt w N P u rs us G) (hx : w.heap[b0]? = some (.cells #[.int .i64 x.k, .string x.s, .slice ac nc cc, .string x.q, .slice ar nr cr] 27 (0, 0)))
    (hR : StpF w (.slice ac nc cc, .slice ar nr cr) x g) (hO : Own w N g) (hd1 : ∀ b ∈ G.flatten, b ∉ g) (hd2 : ∀ b, u.ownBlock = some b → b ∉ g) (hd3 : P ∉ g) (hlen : rs.length ≤ 200000) :
    Calls Tryz.prog 32 #[.pointer (some ⟨P, 0, none⟩), .slice (some ⟨b0, 0, none⟩) 1 1] w fun e w' => e = .returned (.tuple #[]) ∧ (∃ u' us', Lt w' N P u' (rs ++ [x]) us' (G ++ [g]) ∧ (∀ b, u'.ownBlock = some b → u.ownBlock = some b ∨ w.heap.size ≤ b)) ∧ Below N w w' ∧ (∀ b, b < w.heap.size → b ≠ P → u.ownBlock ≠ some b → w'.heap[b]? = w.heap[b]?) := by
  obtain ⟨i0, hi, hz0, hz1, hz2⟩ := info_parts infoT5
  have hlt := h.lt
  obtain ⟨hle, hbk, hown, hout⟩ := h
  have hne := own_typ hown.own hbk (by decide)
  have c0 : w.cell? ⟨P, 0, none⟩ = some u := by rw [Lib.cell_of_heap hbk]; rfl
  have ho := hown.own
  go_enter Tryz.func32, Tryz.ntmps32
  go_wp2_with (at_builtin; refine wpList_append_own_at _ rfl _ _ 30 rfl N 27 i0 _ 5 88 Tryz.underlying30 hi hz0 hz1 hz2 rfl (by decide) _ _ _ rfl ho ⟨b0, 0, none⟩ 1 1 [.int .i64 x.k, .string x.s, .slice ac nc cc, .string x.q, .slice ar nr cr] rfl (by simp) ?c1 ?c2 ?c3 ?c4 ?c5 ?_)
  case c1 => exact World.news_of_block (cs := #[.int .i64 x.k, .string x.s, .slice ac nc cc, .string x.q, .slice ar nr cr]) (t := 27) (fr := (0, 0)) hx
  case c2 => simp [Value.oneCell']
  case c3 => unfold maxLen; omega
  case c4 => omega
  case c5 => omega
  intro v' w2 hown' hgrow _ hat
  have hbP : w2.heap[P]? = some (.cells #[u] 54 (0, 0)) := (hgrow.block P hlt (fun e => hne e.symm)).trans hbk
  have d0 : w2.cell? ⟨P, 0, none⟩ = some u := by rw [Lib.cell_of_heap hbP]; rfl
  have f0 : w2.frozen? ⟨P, 0, none⟩ = false := Lib.frozen_of_heap hbP 0
  have hne' := own_typ hown' hbP (by decide)
  have HB : Hid (Below N w w2) := (Below.refl N w).grown hgrow (by omega) (fun k hk => (ho.lt k hk).1)
  have hat' : ∀ b, v'.ownBlock = some b → u.ownBlock = some b ∨ w.heap.size ≤ b := fun b hb => by
    rcases hat with e | e
    · left; rw [← e]; exact hb
    · right; rw [e] at hb; cases hb; exact Nat.le_refl _
  have hp := StsOwn.push (u := (.slice ac nc cc, .slice ar nr cr)) (x := x) hown hR hO hd1 hd2 hown' hgrow hat'
  have HP : Hid (StsOwn w2 N v' (rs ++ [x]) (us ++ [(.slice ac nc cc, .slice ar nr cr)]) (G ++ [g])) := hp
  have HK : Hid (∀ b, b < w.heap.size → u.ownBlock ≠ some b → w2.heap[b]? = w.heap[b]?) := fun b hb hne => hgrow.block b hb (fun e => hne e.symm)
  have HA : Hid (∀ b, v'.ownBlock = some b → u.ownBlock = some b ∨ w.heap.size ≤ b) := hat'
  have hs : ∃ ao n' cap, v' = .slice ao n' cap := by
    rcases hown'.2 with ⟨hv, _⟩ | ⟨g, cap, cur, hv, _⟩ <;> exact ⟨_, _, _, hv⟩
  obtain ⟨ao, n', cap, rfl⟩ := hs
  clear hgrow hown hp ho hown' hat hR hO hat'
  go_wp2
  go_end0
  have hPo : P ∉ (G ++ [g]).flatten := by simp only [List.flatten_append, List.mem_append, not_or]; exact ⟨hout, by simpa using hd3⟩
  refine ⟨rfl, ⟨_, _, ⟨hle, by rw [set_blk hbP]; rfl, HP.out.keepF (by simp) (fun b hv => Below.heap_setCell _ _ _ _ (by rintro rfl; exact hne' hv)) (fun b hb => Below.heap_setCell _ _ _ _ (by rintro rfl; exact hPo hb)), hPo⟩, HA.out⟩, HB.out.setCell (p := ⟨P, 0, none⟩) hle _, fun b hb h1 h2 => (Below.heap_setCell _ _ _ _ (by simpa using h1)).trans (HK.out b hb h2)⟩
set_option maxHeartbeats 4000000 in
set_option maxRecDepth 100000 in
theorem tall_any (N P : Nat) (u : Value) (rs : List T5) (us : List (Value × Value)) (G : List (List Nat)) (w : World) (h : Lt w N P u rs us G) :
    Calls Tryz.prog 31 #[.pointer (some ⟨P, 0, none⟩)] w fun e w' => e = .returned u ∧ w' = w := by
  have c0 : w.cell? ⟨P, 0, none⟩ = some u := by rw [Lib.cell_of_heap h.blk]; rfl
  obtain ⟨ao, n', rfl⟩ := h.own.shape
  go_enter Tryz.func31, Tryz.ntmps31
  go_wp2
  go_returns
  exact ⟨rfl, rfl⟩
end Go.Proofs.YtlobjpdkjlmglaaGreat
/- Own text. The contract of impl.ReadLog. -/
namespace Go.Proofs.YtlobjpdkjlmglaaGreat
open Go.RowKit Go.Deep
set_option linter.unusedVariables false
theorem rl_new (w : World) {n : Nat} (h : w.heap.size = n) (o : Obj) : (w.alloc o).heap[n]? = some o := by subst h; exact heap_alloc_new w o
/-- what impl.ReadLog leaves. -/
def RlOut (s : ByteArray) (w : World) (r : Ending) (w' : World) : Prop := (∃ v us G, r = .returned (.tuple #[v, .int .i64 (rlE s)]) ∧ StsOwn w' w.heap.size v (rlT s) us G) ∧ Below w.heap.size w w'
theorem StsOwn.nil' (w : World) (N : Nat) : StsOwn w N (.slice none 0 0) [] [] [] := ⟨⟨rfl, .inl ⟨rfl, rfl⟩⟩, rfl, rfl, fun i x u g hx => by simp at hx, by simp [Own, Free], fun b _ => by simp⟩
/-- what the loop of impl.ReadLog keeps. -/
structure RlW (s : ByteArray) (w wr : World) (C P k a : Nat) (ts : List T5) (us : List (Value × Value)) (G : List (List Nat)) (u : Value) (E cap : Nat) : Prop where
  inv : RlInv s k a ts
  ct : Ct wr C E cap s (a, false) [(s.size : Int)]
  lt : Lt wr w.heap.size P u ts us G
  far : ∀ b, LtIn P u G b → b ≠ C ∧ b ≠ E
  cw : w.heap.size ≤ C
  ew : w.heap.size ≤ E
  bel : Below w.heap.size w wr
section
variable {s : ByteArray} {w wr w1 : World} {C P k a : Nat} {ts : List T5} {us : List (Value × Value)} {G : List (List Nat)} {u : Value} {E cap : Nat}
theorem RlW.size (h : RlW s w wr C P k a ts us G u E cap) : w.heap.size ≤ wr.heap.size := h.bel.size
theorem RlW.lt1 (h : RlW s w wr C P k a ts us G u E cap) (hK : Kc C E wr w1) : Lt w1 w.heap.size P u ts us G := h.lt.keepF hK.size fun b hb => hK.block b (h.lt.inLt b hb).2 (h.far b hb).1 (h.far b hb).2
theorem RlW.bel1 (h : RlW s w wr C P k a ts us G u E cap) (hK : Kc C E wr w1) : Below w.heap.size w w1 := h.bel.trans (hK.below h.cw h.ew h.size)
/-- the end: what is answered. -/
theorem RlW.stop (h : RlW s w wr C P k a ts us G u E cap) (hs : s.size ≤ 100000) (ho : okM s a = false) : rlT s = ts ∧ rlE s = a := by
  obtain ⟨h1, h2⟩ := h.inv.stop ho
  unfold rlT rlE
  rw [if_pos hs, if_pos hs]
  exact ⟨h1.symm, h2.symm⟩
/-- a step is added. -/
theorem RlW.next {w2 w3 : World} {M E' cap' : Nat} {g F : List Nat} {uc ur u' : Value} {us' : List (Value × Value)} (h : RlW s w wr C P k a ts us G u E cap) (ho : okM s a = true) (hK : Kc C E wr w1) (hO : StpOwn w1 M uc ur (lX s a) g F) (hM : wr.heap.size < M)
    (hC : Ct w1 C E' cap' s (lN s a, false) [(s.size : Int)]) (hE : E' = E ∨ wr.heap.size ≤ E') (hEM : E' < M) (hb2 : Below w1.heap.size w1 w2)
    (hL : Lt w3 w.heap.size P u' (ts ++ [lX s a]) us' (G ++ [g ++ F])) (hu : ∀ b, u'.ownBlock = some b → u.ownBlock = some b ∨ w2.heap.size ≤ b) (hb3 : Below w.heap.size w2 w3) (hk3 : ∀ b, b < w2.heap.size → b ≠ P → u.ownBlock ≠ some b → w3.heap[b]? = w2.heap[b]?) :
    ∃ k', RlW s w w3 C P k' (lN s a) (ts ++ [lX s a]) us' (G ++ [g ++ F]) u' E' cap' := by
  obtain ⟨k', hi⟩ := h.inv.next ho
  have hz := h.size
  have hz1 := hK.size
  have hz2 := hb2.size
  have hCl := hC.ltC
  have hEl := hC.ltE
  have hCr : C < wr.heap.size := h.ct.ltC
  have hin := h.lt.inLt
  have hfar := h.far
  have nP : ∀ b, LtIn P u G b → b ≠ C ∧ b ≠ E' := fun b hb => ⟨(hfar b hb).1, by
    rcases hE with rfl | hE
    · exact (hfar b hb).2
    · have := (hin b hb).2; omega⟩
  have kC : w3.heap[C]? = w1.heap[C]? := (hk3 C (by omega) (fun e => (nP P (.inl rfl)).1 e.symm) (fun e => (nP C (.inr (.inl e))).1 rfl)).trans (hb2.block C (by omega))
  have kE : w3.heap[E']? = w1.heap[E']? := (hk3 E' (by omega) (fun e => (nP P (.inl rfl)).2 e.symm) (fun e => (nP E' (.inr (.inl e))).2 rfl)).trans (hb2.block E' (by omega))
  refine ⟨k', hi, hC.keep kC kE, hL, ?_, h.cw, ?_, ?_⟩
  · rintro b (rfl | hb | hb)
    · exact nP b (.inl rfl)
    · rcases hu b hb with hb | hb
      · exact nP b (.inr (.inl hb))
      · constructor <;> omega
    · rw [List.flatten_append] at hb
      rcases List.mem_append.1 hb with hb | hb
      · exact nP b (.inr (.inr hb))
      · have hb' : b ∈ g ++ F := by simpa using hb
        have : M ≤ b := (hO.weakF).2 b hb'
        constructor <;> omega
  · rcases hE with rfl | hE
    · exact h.ew
    · omega
  · exact ((h.bel1 hK).trans (hb2.mono (by omega))).trans hb3
end
set_option maxHeartbeats 4000000 in
set_option maxRecDepth 100000 in
theorem implReadLog_any (s : ByteArray) (w : World) (hs : s.size ≤ 1048576) :
    Calls Tryz.prog 7 #[.string s] w fun r w' => RlOut s w r w' := by
  by_cases hbig : 100000 < s.size
  · have hbI : (100000 : Int) < s.size := by omega
    have HR : Hid (rlT s = [] ∧ rlE s = 0) := by
      show _ ∧ _
      unfold rlT rlE
      rw [if_neg (by omega), if_neg (by omega)]
      exact ⟨rfl, rfl⟩
    clear hbig
    go_enter Tryz.func7, Tryz.ntmps7
    go_wp2
    go_returns
    refine ⟨⟨.slice none 0 0, [], [], ?_, ?_⟩, Below.refl _ _⟩
    · rw [HR.out.2]; rfl
    · rw [HR.out.1]; exact StsOwn.nil' _ _
  have hsm : s.size ≤ 100000 := by omega
  have hsI : decide ((100000 : Int) < s.size) = false := by simp; omega
  clear hbig
  go_enter Tryz.func7, Tryz.ntmps7
  go_wp2_with (first | (go_at_call 29; with_reducible refine Calls.mono (cutterOf_any s _ hs) ?_) | fail)
  rintro r w1 ⟨rfl, E, cap, hC, hb1, hE⟩
  have hz1 := hb1.size
  have hCl := hC.ltC
  have hEl := hC.ltE
  have bal : Below w1.heap.size w1 (w1.alloc (.cells #[.slice none 0 0] 54)) := (Below.refl _ _).alloc (Nat.le_refl _) _
  have hW : RlW s w (w1.alloc (.cells #[.slice none 0 0] 54)) w.heap.size w1.heap.size s.size 0 [] [] [] (.slice none 0 0) E cap := by
    refine ⟨RlInv.start s, hC.below bal, ⟨hz1, heap_alloc_new w1 _, StsOwn.nil' _ _, by simp⟩, ?_, Nat.le_refl _, hE, hb1.trans (bal.mono hz1)⟩
    rintro b (rfl | hb | hb)
    · constructor <;> omega
    · simp [Value.ownBlock] at hb
    · simp at hb
  clear bal hC hb1
  go_wp2_with fail
  go_loopw [6] (fun e wr => ∃ (k a : Nat) (ts : List T5) (us : List (Value × Value)) (G : List (List Nat)) (u : Value) (E cap : Nat), e = .int .i64 a ∧ RlW s w wr w.heap.size w1.heap.size k a ts us G u E cap) (fun e _ => s.size - (intOf e).toNat)
  case atStart => exact ⟨_, 0, _, _, _, _, _, _, rfl, hW⟩
  case round =>
    clear hW hE hEl
    obtain ⟨k, a, ts, us, G, u, E, cap, rfl, hW⟩ := hrel
    have ha := hW.inv.at'
    have hlen := hW.inv.len
    have hO := ok_same ha
    go_wp2_with (first | (go_at_call 30; with_reducible refine Calls.mono (entry_any _ E cap s a _ hW.ct ha hs) ?_) | fail)
    rintro r w2 ⟨x, ac, ar, nc, cc, nr, cr, rfl, hK, hY⟩
    have hz2 := hK.size
    have hzr := hW.size
    have hPl := hW.lt.lt
    cases hok : okI s a
    · have hM : okM s a = false := by rw [← hO.1]; exact hok
      obtain ⟨eT, eE⟩ := hW.stop hsm hM
      have hL2 := hW.lt1 hK
      have hB2 := hW.bel1 hK
      have HR : Hid (rlT s = ts ∧ rlE s = a) := ⟨eT, eE⟩
      obtain ⟨ua, uc', rfl⟩ := hL2.own.shape
      clear hW hK hY hO eT eE hM
      go_wp2_with (first | (go_at_call 31; with_reducible refine Calls.mono (tall_any w.heap.size _ _ ts us G _ (hL2.below (by repeat (first | (with_reducible exact Below.refl _ _) | (with_reducible refine Below.drew ?_) | (with_reducible refine Below.alloc ?_ ?hh _; case hh => first | (simp; done) | (simp; omega) | omega) | (with_reducible refine Below.setCell ?_ ?hh _; case hh => first | (simp; done) | (simp; omega) | omega) | refine bstep (by assumption) (by first | (simp; done) | (simp; omega) | omega) ?_)))) ?_; rintro r w3 ⟨rfl, rfl⟩) | fail)
      go_returns
      have bal : Below w2.heap.size w2 (w2.alloc (.cells #[.int .i64 x.k, .string x.s, .slice ac nc cc, .string x.q, .slice ar nr cr] 27)) := (Below.refl _ _).alloc (Nat.le_refl _) _
      exact ⟨⟨_, us, G, by rw [HR.out.2]; rfl, by rw [HR.out.1]; exact (hL2.below bal).own⟩, hB2.trans (bal.mono (by omega))⟩
    · have hOM : okM s a = true := by rw [← hO.1]; exact hok
      obtain ⟨hx, M, g, F, E', cap', hO2, hM, hC2, hE2, hEM⟩ := hY hok
      obtain ⟨ex, eN⟩ := hO.2 hOM
      obtain rfl : x = lX s a := hx.trans ex
      rw [show lE s a = lN s a from eN] at hC2
      obtain ⟨hN1, hN2, _⟩ := okM_at hOM
      have hL2 := hW.lt1 hK
      obtain ⟨hS2, hOw2⟩ := hO2.stpF
      have hin := hW.lt.inLt
      have hge : ∀ b ∈ g ++ F, M ≤ b := hO2.weakF.2
      have HAdd : Hid (∀ (wz : World) (b0 : Nat), Below w2.heap.size w2 wz → wz.heap[b0]? = some (.cells #[.int .i64 (lX s a).k, .string (lX s a).s, .slice ac nc cc, .string (lX s a).q, .slice ar nr cr] 27 (0, 0)) → Calls Tryz.prog 32 #[.pointer (some ⟨w1.heap.size, 0, none⟩), .slice (some ⟨b0, 0, none⟩) 1 1] wz fun e w' => e = .returned (.tuple #[]) ∧ ∃ k' us' u', RlW s w w' w.heap.size w1.heap.size k' (lN s a) (ts ++ [lX s a]) us' (G ++ [g ++ F]) u' E' cap') := by
        intro wz b0 hz hx0
        have hOz := hOw2.below hS2.lt hz
        refine (tadd_any w.heap.size w1.heap.size u ac ar nc cc nr cr ts us G (lX s a) (g ++ F) b0 wz (hL2.below hz) hx0 (hS2.below hz) ⟨hOz.1, fun b hb => by have := hge b hb; omega, hOz.2.2⟩ (fun b hb hb2 => by have := hge b hb2; have := (hin b (.inr (.inr hb))).2; omega) (fun b hb hb2 => by have := hge b hb2; have := (hin b (.inr (.inl hb))).2; omega) (fun hb2 => by have := hge _ hb2; have := (hin _ (.inl rfl)).2; omega) (by omega)).mono ?_
        rintro e w3 ⟨rfl, ⟨u', us', hL3, hu3⟩, hb3, hk3⟩
        obtain ⟨k', hW'⟩ := hW.next hOM hK hO2 hM hC2 hE2 hEM hz hL3 hu3 hb3 hk3
        exact ⟨rfl, k', us', u', hW'⟩
      clear hW hK hY hO hx ex eN hO2 hC2 hL2 hS2 hOw2 hin hge hOM
      go_wp2_with (first | (go_at_call 32; with_reducible refine Calls.mono (HAdd.out _ _ (by repeat (first | (with_reducible exact Below.refl _ _) | (with_reducible refine Below.drew ?_) | (with_reducible refine Below.alloc ?_ ?hh _; case hh => first | (simp; done) | (simp; omega) | omega) | (with_reducible refine Below.setCell ?_ ?hh _; case hh => first | (simp; done) | (simp; omega) | omega) | refine bstep (by assumption) (by first | (simp; done) | (simp; omega) | omega) ?_)) (rl_new _ (by simp) _)) ?_) | fail)
      rintro r w3 ⟨rfl, k', us', u', hW'⟩
      have c1 := hW'.ct.cells.2.1
      dsimp only at c1
      have hCl3 := hW'.ct.ltC
      clear HAdd
      go_wp2
      exact ⟨⟨k', lN s a, _, us', _, u', E', cap', rfl, hW'⟩, by simp [intOf]; omega⟩
end Go.Proofs.YtlobjpdkjlmglaaGreat
/- Own text. A bag that is read: the contract of spec.GetBag. -/
namespace Go.Proofs.YtlobjpdkjlmglaaGreat
open Go.RowKit Go.Deep
set_option linter.unusedVariables false
theorem valsJ_late (s : ByteArray) (j : Int) : ∀ (d q : Nat), valsJ s q j < 0 → valsJ s (q + d) j < 0
  | 0, _, h => h
  | d + 1, q, h => by rw [← Nat.add_assoc, valsJ_succ, tJ_neg s _ (valsJ_late s j d q h)]; decide
theorem run_stop (s : ByteArray) (W : Nat) (n : Nat) (i : Int) (cs : List C2) (h : ¬ (i < s.size ∧ cs.length ≤ 400)) : run s W n i cs = some cs := by
  cases n with
  | zero => rfl
  | succ n => rw [run, if_neg h]
set_option maxHeartbeats 4000000 in
set_option maxRecDepth 100000 in
theorem specGetBag_any (s : ByteArray) (w : World) (hs : s.size ≤ 1048576) :
    Calls Tryz.prog 41 #[.string s] w fun e w' => (∃ u us G, e = .returned (.tuple #[.agg #[.int .i64 (aW s), u], .bool (aB s)]) ∧ BagOwn w' w.heap.size u (aC s) us G) ∧ Below w.heap.size w w' := by
  obtain ⟨i0, hi0, hz0, hz1, hz2⟩ := info_parts Tryz.infoCnt
  obtain ⟨i1, hi1, hv0, hv1, hv2⟩ := info_parts Tryz.infoVal
  by_cases hz : s.size = 0
  · have hA := ans_none (s := s) (by unfold ansB; rw [if_pos hz])
    have hnil : s.toList = [] := by rw [ByteArray.toList_eq]; exact List.eq_nil_of_length_eq_zero (by simpa using hz)
    have hs0 : s = ⟨#[]⟩ := by
      apply ByteArray.ext
      exact Array.eq_empty_of_size_eq_zero hz
    rw [hA.1, hA.2.1, hA.2.2]
    clear hA
    subst hs0
    go_enter Tryz.func41, Tryz.ntmps41
    go_wp2_with fail
    refine bodyPost_ret (v := .tuple #[.agg #[.int .i64 0, .slice none 0 0], .bool false]) (by simp [results, Tryz.results41, go_sem, *]) rfl ⟨⟨_, [], [], rfl, BagOwn.nil _ _⟩, by repeat (first | (with_reducible exact Below.refl _ _) | (with_reducible refine Below.drew ?_) | (with_reducible refine Below.alloc ?_ ?hh _; case hh => first | (simp; done) | (simp; omega) | omega) | (with_reducible refine Below.setCell ?_ ?hh _; case hh => first | (simp; done) | (simp; omega) | omega) | refine bstep (by assumption) (by first | (simp; done) | (simp; omega) | omega) ?_)⟩
  have hpos : 0 < s.size := by omega
  have hposI : (0 : Int) < s.size := by omega
  have hne : s.toList.isEmpty = false := by
    rw [ByteArray.toList_eq]
    have : s.data.toList.length ≠ 0 := by simpa using hz
    cases h : s.data.toList with
    | nil => rw [h] at this; simp at this
    | cons a l => rfl
  have hW : bAt s 0 ≤ 255 := by have := bAt_lt s 0; omega
  have e64 : wrap64 (s[0].toNat : Int) = (bAt s 0 : Nat) := by rw [wrap64_byte, bAt_eq s 0 hpos]
  have hA : ansB s = resS s := by unfold ansB; rw [if_neg hz, res_same s hpos]
  by_cases h12 : bAt s 0 ≤ 12
  rotate_left
  · have h12I : (12 : Int) < (bAt s 0 : Nat) := by omega
    have HN : Hid (ansB s = none) := by
      show ansB s = none
      rw [hA]; unfold resS; rw [if_neg h12]
    clear hA h12
    go_enter Tryz.func41, Tryz.ntmps41
    go_wp2_with fail
    refine bodyPost_ret (v := .tuple #[.agg #[.int .i64 0, .slice none 0 0], .bool false]) (by simp [results, Tryz.results41, go_sem, *]) rfl ⟨⟨_, [], [], by rw [(ans_none HN.out).1, (ans_none HN.out).2.2], by rw [(ans_none HN.out).2.1]; exact BagOwn.nil _ _⟩, by repeat (first | (with_reducible exact Below.refl _ _) | (with_reducible refine Below.drew ?_) | (with_reducible refine Below.alloc ?_ ?hh _; case hh => first | (simp; done) | (simp; omega) | omega) | (with_reducible refine Below.setCell ?_ ?hh _; case hh => first | (simp; done) | (simp; omega) | omega) | refine bstep (by assumption) (by first | (simp; done) | (simp; omega) | omega) ?_)⟩
  have h12I : decide ((12 : Int) < (bAt s 0 : Nat)) = false := by simp; omega
  have HRS : Hid (ansB s = match run s (bAt s 0) (s.size + 1) 1 [] with | none => none | some cs => if putB (bAt s 0) cs = s then some cs else none) := by
    show ansB s = _
    rw [hA]; unfold resS; rw [if_pos h12]
    generalize run s (bAt s 0) (s.size + 1) 1 [] = r
    cases r <;> rfl
  clear hA
  go_enter Tryz.func41, Tryz.ntmps41
  go_wp2_with fail
  go_loopw [5] (fun at' wr => ∃ (n i : Nat) (cs : List C2) (y : Value) (us : List Value) (G : List (List Nat)), at' = .int .i64 i ∧ i ≤ s.size ∧ s.size + 1 ≤ n + i ∧ cs.length ≤ 401 ∧ run s (bAt s 0) (s.size + 1) 1 [] = run s (bAt s 0) n i cs ∧ CsWf cs ∧
      wr.cell? ⟨w.heap.size + 1, 0, none⟩ = some (.int .i64 (bAt s 0)) ∧ wr.cell? ⟨w.heap.size + 1, 1, none⟩ = some y ∧ (∀ o, wr.frozen? ⟨w.heap.size + 1, o, none⟩ = false) ∧
      wr.cell? ⟨w.heap.size, 0, none⟩ = some (.int .i64 0) ∧ wr.cell? ⟨w.heap.size, 1, none⟩ = some (.slice none 0 0) ∧ (∀ o, wr.frozen? ⟨w.heap.size, o, none⟩ = false) ∧
      BagOwn wr (w.heap.size + 1 + 1) y cs us G ∧ Below w.heap.size w wr ∧ w.heap.size + 1 + 1 ≤ wr.heap.size) (fun at' _ => s.size + 1 - (intOf at').toNat)
  case atStart =>
    refine ⟨s.size + 1, 1, [], .slice none 0 0, [], [], rfl, by omega, by omega, by simp, rfl, by simp [CsWf], by go_simp, by go_simp, fun o => by go_simp, by go_simp, by go_simp, fun o => by go_simp, BagOwn.nil _ _, by repeat (first | (with_reducible exact Below.refl _ _) | (with_reducible refine Below.drew ?_) | (with_reducible refine Below.alloc ?_ ?hh _; case hh => first | (simp; done) | (simp; omega) | omega) | (with_reducible refine Below.setCell ?_ ?hh _; case hh => first | (simp; done) | (simp; omega) | omega) | refine bstep (by assumption) (by first | (simp; done) | (simp; omega) | omega) ?_), by simp⟩
  case round =>
    clear e64 hne h12I
    obtain ⟨n, i, cs, y, us, G, rfl, hi, hf, hcl, hrun0, hcw, p0, p1, pf, r0, r1, rf, hB, hb, hzb⟩ := hrel
    have HR : Hid (run s (bAt s 0) (s.size + 1) 1 [] = run s (bAt s 0) n i cs) := hrun0
    clear hrun0
    obtain ⟨wo, hwo⟩ : ∃ x, x = wr := ⟨_, rfl⟩
    subst hwo
    obtain ⟨ay, cy, rfl⟩ := hB.shape
    have e0 : w.heap.size + 1 < wo.heap.size := by omega
    have e1 : w.heap.size < wo.heap.size := by omega
    have hcI : (cs.length : Int) ≤ 401 := by omega
    by_cases hgo : i < s.size ∧ cs.length ≤ 400
    · obtain ⟨hlt, h400⟩ := hgo
      have hltI : (i : Int) < s.size := by omega
      have h400I : decide ((cs.length : Int) ≤ 400) = true := by simp; omega
      obtain ⟨n, rfl⟩ : ∃ n', n = n' + 1 := ⟨n - 1, by omega⟩
      obtain ⟨k1, n1, x1, j, hT⟩ : ∃ k n x j, getT s i = (k, n, x, j) := ⟨_, _, _, _, rfl⟩
      have HJ : Hid (tJ s i = j) := by show tJ s i = j; unfold tJ; rw [hT]
      have HN1 : Hid ((tV s i).n = n1) := by show (tV s i).n = n1; unfold tV; rw [hT]
      go_wp2_with fail
      refine Calls.mono (specGet_v hT wo hs) ?_
      rintro e w2 ⟨rfl, hb2⟩
      have hzw := hb2.size
      have hfz := (bcell hb2).2
      have hcz := (bcell hb2).1
      have u0 : w2.cell? ⟨w.heap.size, 0, none⟩ = some (.int .i64 0) := (hcz _ _ (by omega)).trans r0
      have u1 : w2.cell? ⟨w.heap.size, 1, none⟩ = some (.slice none 0 0) := (hcz _ _ (by omega)).trans r1
      have uf : ∀ o, w2.frozen? ⟨w.heap.size, o, none⟩ = false := fun o => (hfz _ _ (by omega)).trans (rf o)
      have q0 : w2.cell? ⟨w.heap.size + 1, 0, none⟩ = some (.int .i64 (bAt s 0)) := (hcz _ _ (by omega)).trans p0
      have q1 : w2.cell? ⟨w.heap.size + 1, 1, none⟩ = some (.slice ay cs.length cy) := (hcz _ _ (by omega)).trans p1
      have qf : ∀ o, w2.frozen? ⟨w.heap.size + 1, o, none⟩ = false := fun o => (hfz _ _ (by omega)).trans (pf o)
      have hbw2 : Below w.heap.size w w2 := hb.trans (hb2.mono hb.size)
      have hB2 := hB.below hb2
      have n3 : w.heap.size < w2.heap.size := by omega
      have n4 : w.heap.size + 1 < w2.heap.size := by omega
      have n5 : w.heap.size < w2.heap.size + 1 := by omega
      have n6 : w.heap.size + 1 < w2.heap.size + 1 := by omega
      clear hfz hcz p0 p1 pf r0 r1 rf hT hB
      go_wp2_with fail
      go_loopw [5, 9] (fun at' kk wr => ∃ (q : Nat) (y : Value), q ≤ bAt s 0 ∧ kk = .int .i64 q ∧ at' = .int .i64 (valsJ s q j) ∧ wr.ownsRow (w2.heap.size + 1 + 1) 123 3 y q (rc (valsV s q j)) ∧
          wr.cell? ⟨w2.heap.size + 1, 0, none⟩ = some y ∧ wr.cell? ⟨w2.heap.size + 1, 1, none⟩ = some (.int .i64 n1) ∧ (∀ o, wr.frozen? ⟨w2.heap.size + 1, o, none⟩ = false) ∧ Below w2.heap.size w2 wr ∧ w2.heap.size + 1 + 1 ≤ wr.heap.size) (fun _ kk _ => bAt s 0 - (intOf kk).toNat)
      case atStart =>
        refine ⟨0, .slice none 0 0, Nat.zero_le _, rfl, rfl, ⟨rfl, .inl ⟨rfl, rfl⟩⟩, by go_simp, by go_simp, fun o => by go_simp, by repeat (first | (with_reducible exact Below.refl _ _) | (with_reducible refine Below.drew ?_) | (with_reducible refine Below.alloc ?_ ?hh _; case hh => first | (simp; done) | (simp; omega) | omega) | (with_reducible refine Below.setCell ?_ ?hh _; case hh => first | (simp; done) | (simp; omega) | omega) | refine bstep (by assumption) (by first | (simp; done) | (simp; omega) | omega) ?_), by simp⟩
      case round =>
        obtain ⟨q, y, hq, rfl, rfl, hown, a0, a1, af, hbi, hzi⟩ := hrel
        have hcz := (bcell hbi).1
        have hfz := (bcell hbi).2
        have t0 : wr.cell? ⟨w.heap.size, 0, none⟩ = some (.int .i64 0) := (hcz _ _ (by omega)).trans u0
        have t1 : wr.cell? ⟨w.heap.size, 1, none⟩ = some (.slice none 0 0) := (hcz _ _ (by omega)).trans u1
        have tf : ∀ o, wr.frozen? ⟨w.heap.size, o, none⟩ = false := fun o => (hfz _ _ (by omega)).trans (uf o)
        have z0 : wr.cell? ⟨w.heap.size + 1, 0, none⟩ = some (.int .i64 (bAt s 0)) := (hcz _ _ (by omega)).trans q0
        have z1 : wr.cell? ⟨w.heap.size + 1, 1, none⟩ = some (.slice ay cs.length cy) := (hcz _ _ (by omega)).trans q1
        have zf : ∀ o, wr.frozen? ⟨w.heap.size + 1, o, none⟩ = false := fun o => (hfz _ _ (by omega)).trans (qf o)
        have c0 : w.heap.size < wr.heap.size := by omega
        have c1 : w.heap.size + 1 < wr.heap.size := by omega
        have c2 : w2.heap.size + 1 < wr.heap.size := by omega
        have hq12 : (q : Int) ≤ 12 := by omega
        have hol := ownsRow_lt hown
        clear hfz hcz
        by_cases hin : q < bAt s 0 ∧ 0 ≤ valsJ s q j
        · obtain ⟨hqW, hp0⟩ := hin
          clear u0 u1 uf q0 q1 qf
          obtain ⟨k2, n2, s2, j2, hT2⟩ : ∃ k' n' x' j', getT s (valsJ s q j) = (k', n', x', j') := ⟨_, _, _, _, rfl⟩
          have HV : Hid (rc (valsV s (q + 1) j) = rc (valsV s q j) ++ [.int .i64 k2, .int .i64 n2, .string s2]) := by
            show rc (valsV s (q + 1) j) = _
            rw [valsV_succ, rc_push]
            unfold tV; rw [hT2]
          have HJ2 : Hid (valsJ s (q + 1) j = j2) := by
            show valsJ s (q + 1) j = j2
            rw [valsJ_succ]; unfold tJ; rw [hT2]
          have hqWI : (q : Int) < (bAt s 0 : Nat) := by omega
          have hv8 : y.ownBlock ≠ some (w2.heap.size + 1) := fun e => by have := (hol _ e).1; omega
          go_wp2_with fail
          refine Calls.mono (specGet_v hT2 wr hs) ?_
          rintro e w3 ⟨rfl, hb3⟩
          have hz3 := hb3.size
          have A0 : w3.cell? ⟨w2.heap.size + 1, 0, none⟩ = some y := ((bcell hb3).1 _ _ (by omega)).trans a0
          have A1 : w3.cell? ⟨w2.heap.size + 1, 1, none⟩ = some (.int .i64 n1) := ((bcell hb3).1 _ _ (by omega)).trans a1
          have Af : ∀ o, w3.frozen? ⟨w2.heap.size + 1, o, none⟩ = false := fun o => ((bcell hb3).2 _ _ (by omega)).trans (af o)
          have hown3 := ownsRow_keep hown (fun b hb' => hb3.block b (hol b hb').2)
          have hbi3 : Below w2.heap.size w2 w3 := hbi.trans (hb3.mono hbi.size)
          have d1 : w2.heap.size + 1 < w3.heap.size := by omega
          have d2 : w2.heap.size + 1 < w3.heap.size + 1 := by omega
          clear hown a0 a1 af t0 t1 tf z0 z1 zf hT2
          go_wp2_with (at_builtin; refine wpList_append_own _ rfl _ _ 114 rfl (w2.heap.size + 1 + 1) 123 i1 _ 3 32 Tryz.underlying114 hi1 hv0 hv1 hv2 rfl (by decide) y q (rc (valsV s q j)) rfl ?hown ⟨w3.heap.size + 1, 0, none⟩ 1 1 [.int .i64 k2, .int .i64 n2, .string s2] rfl rfl ?c1 ?c2 ?c3 ?c4 ?c5 ?_)
          case hown =>
            refine ownsRow_keep hown3 fun b hb' => ?_
            have h1 := ownsRow_lt hown3 b hb'
            rw [Below.heap_alloc _ _ _ (by simp; omega), Below.heap_alloc _ _ _ (by omega)]
          case c1 =>
            intro j' u hu
            match j', hu with
            | 0, hu => simp at hu; subst hu; go_simp
            | 1, hu => simp at hu; subst hu; go_simp
            | 2, hu => simp at hu; subst hu; go_simp
          case c2 => intro u hu; simp at hu; rcases hu with rfl | rfl | rfl <;> rfl
          case c3 => unfold maxLen; omega
          case c4 => omega
          case c5 => simp; omega
          intro v5 w5 hown5 hgr5 _
          have hsz5 := hgr5.size
          simp at hsz5
          have B0 : w5.cell? ⟨w2.heap.size + 1, 0, none⟩ = some y := (hgr5.cell_far _ (by simp; try omega) (fun e => hv8 e.symm)).trans (by go_simp)
          have B1 : w5.cell? ⟨w2.heap.size + 1, 1, none⟩ = some (.int .i64 n1) := (hgr5.cell_far _ (by simp; try omega) (fun e => hv8 e.symm)).trans (by go_simp)
          have Bf : ∀ o, w5.frozen? ⟨w2.heap.size + 1, o, none⟩ = false := fun o => (hgr5.frozen_far _ (by simp; try omega) (fun e => hv8 e.symm)).trans (by go_simp)
          have hbel4 : Below w2.heap.size w2 ((w3.alloc (.cells #[.int .i64 k2, .int .i64 n2, .string s2] 123)).alloc (.cells #[.int .i64 k2, .int .i64 n2, .string s2] 123)) := (hbi3.alloc (by omega) _).alloc (by simp; omega) _
          have hbel5 : Below w2.heap.size w2 w5 := hbel4.grown hgr5 (by simp; omega) (fun k' hk' => by have := (hol _ hk').1; omega)
          have hown6 : w5.ownsRow (w2.heap.size + 1 + 1) 123 3 v5 (q + 1) (rc (valsV s (q + 1) j)) := by rw [HV.out]; exact hown5
          have hol5 := ownsRow_lt hown6
          obtain ⟨g5, c5, hv5⟩ : ∃ g c, v5 = .slice (some ⟨g, 0, none⟩) (q + 1) c := by
            rcases hown6.2 with ⟨_, h0⟩ | ⟨g, cap, cur, hv, _⟩
            · omega
            · exact ⟨g, cap, hv⟩
          subst hv5
          have e5 : w2.heap.size + 1 < w5.heap.size := by omega
          clear hown5 hgr5 hown3 hol hbel4 A0 A1 Af
          go_wp2_with fail
          refine ⟨⟨q + 1, .slice (some ⟨g5, 0, none⟩) (q + 1) c5, hqW, by simp, by rw [HJ2.out], ?_, by go_simp, by go_simp, fun o => by go_simp, ?_, by simp; omega⟩, by simp [intOf]; omega⟩
          · refine ownsRow_keep hown6 fun b hb' => ?_
            have h1 := hol5 b hb'
            rw [Below.heap_setCell _ _ _ _ (by show b ≠ w2.heap.size + 1; omega)]
          · exact hbel5.setCell (by show w2.heap.size ≤ w2.heap.size + 1; omega) _
        by_cases hp0 : valsJ s q j < 0
        · have he : endS s (bAt s 0) i < 0 := by
            unfold endS
            rw [HJ.out, show bAt s 0 = q + (bAt s 0 - q) from by omega]
            exact valsJ_late s j _ q hp0
          have HN : Hid (ansB s = none) := by
            show ansB s = none
            rw [HRS.out, HR.out, run, if_pos ⟨hltI, h400⟩, if_pos he]
          have hbX : Below w.heap.size w wr := hbw2.trans (hbi.mono (by omega))
          have hp1 : decide (0 ≤ valsJ s q j) = false := by simp; omega
          clear u0 u1 uf q0 q1 qf hown a0 a1 af hB2 he hin hol
          generalize valsJ s q j = p at *
          have key : ∀ b : Bool, (if b then decide (0 ≤ p) else false) = false := by intro b; cases b <;> simp [hp1]
          by_cases hqW : q < bAt s 0
          · have hqWI : (q : Int) < (bAt s 0 : Nat) := by omega
            go_wp2_with fail
            refine bodyPost_ret (v := .tuple #[.agg #[.int .i64 0, .slice none 0 0], .bool false]) (by simp [results, Tryz.results41, go_sem, *]) rfl ⟨⟨_, [], [], by rw [(ans_none HN.out).1, (ans_none HN.out).2.2], by rw [(ans_none HN.out).2.1]; exact BagOwn.nil _ _⟩, ?_⟩
            repeat (first | (with_reducible exact hbX) | (with_reducible refine Below.setCell ?_ ?hh _; case hh => (first | (simp; done) | (simp; omega))))
          · have hqWI : decide ((q : Int) < (bAt s 0 : Nat)) = false := by simp; omega
            go_wp2_with fail
            refine bodyPost_ret (v := .tuple #[.agg #[.int .i64 0, .slice none 0 0], .bool false]) (by simp [results, Tryz.results41, go_sem, *]) rfl ⟨⟨_, [], [], by rw [(ans_none HN.out).1, (ans_none HN.out).2.2], by rw [(ans_none HN.out).2.1]; exact BagOwn.nil _ _⟩, ?_⟩
            repeat (first | (with_reducible exact hbX) | (with_reducible refine Below.setCell ?_ ?hh _; case hh => (first | (simp; done) | (simp; omega))))
        obtain rfl : q = bAt s 0 := by omega
        have he : 0 ≤ endS s (bAt s 0) i := by unfold endS; rw [HJ.out]; omega
        obtain ⟨e, hee⟩ : ∃ e : Nat, endS s (bAt s 0) i = e := ⟨(endS s (bAt s 0) i).toNat, by omega⟩
        obtain ⟨a', b', ea, eb, hab, hbs, _⟩ := end_round s (bAt s 0) i he
        have hei : i < e := by omega
        have hes : e ≤ s.size := by omega
        have HS : Hid (run s (bAt s 0) (n + 1) i cs = run s (bAt s 0) n e (cs ++ [rowS s (bAt s 0) i])) := by
          show run s (bAt s 0) (n + 1) i cs = _
          rw [run, if_pos ⟨hltI, h400⟩, if_neg (by omega), hee]
        have hval : valsJ s (bAt s 0) j = e := by unfold endS at hee; rw [HJ.out] at hee; exact hee
        have HROW : Hid (rowS s (bAt s 0) i = ⟨valsV s (bAt s 0) j, n1⟩) := by show rowS s (bAt s 0) i = _; unfold rowS; rw [HJ.out, HN1.out]
        have hrw := rowS_wf s (bAt s 0) i
        obtain ⟨g, hRF, hOg⟩ := own_rowF (vs := valsV s (bAt s 0) j) hown
        rw [hval]
        clear ea eb hee he hin hp0 hval hown hol hq
        generalize valsV s (bAt s 0) j = row at *
        obtain ⟨au, cu, hu⟩ : ∃ a c, y = .slice a row.length c := by obtain ⟨a, c, h, _⟩ := hRF; exact ⟨a, c, h⟩
        subst hu
        have hB3 := hB2.keep hbi.size (fun b _ hlt => hbi.block b hlt)
        have hol := ownsRow_lt hB2.own
        have hGl := hB2.lt
        have hv4 : Value.ownBlock (.slice ay cs.length cy) ≠ some (w.heap.size + 1) := fun e => by have := (hol _ e).1; omega
        have hv2 : Value.ownBlock (.slice ay cs.length cy) ≠ some w.heap.size := fun e => by have := (hol _ e).1; omega
        have hb24 : Below wr.heap.size wr (wr.alloc (.cells #[.slice au row.length cu, .int .i64 n1] 116)) := (Below.refl _ _).alloc (Nat.le_refl _) _
        have hB4 := hB3.below hb24
        have hR4 : RowF (wr.alloc (.cells #[.slice au row.length cu, .int .i64 n1] 116)) (.slice au row.length cu) row g := hRF.keep hb24.size fun c hc => hb24.block c (hRF.lt c hc)
        have hO4 : Own (wr.alloc (.cells #[.slice au row.length cu, .int .i64 n1] 116)) (w.heap.size + 1 + 1) g := Own.keep (w := wr) ⟨hOg.1, fun b hb' => by have := hOg.2.1 b hb'; omega, hOg.2.2⟩ fun c hc => hb24.block c (hRF.lt c hc)
        have hnew : ∀ j' u, [Value.slice au row.length cu, Value.int .i64 n1][j']? = some u → (wr.alloc (.cells #[.slice au row.length cu, .int .i64 n1] 116)).cell? ((⟨wr.heap.size, 0, none⟩ : Addr).add j') = some u := by
          intro j' u hu
          match j', hu with
          | 0, hu => simp at hu; subst hu; go_simp
          | 1, hu => simp at hu; subst hu; go_simp
        have hbX : Below w.heap.size w wr := hbw2.trans (hbi.mono (by omega))
        have heI : decide ((e : Int) < 0) = false := by simp
        have hnlt : decide ((bAt s 0 : Int) < (bAt s 0 : Nat)) = false := by simp
        clear u0 u1 uf q0 q1 qf
        go_wp2_with (at_builtin; refine wpList_append_own_at _ rfl _ _ 71 rfl (w.heap.size + 1 + 1) 116 i0 _ 2 32 Tryz.underlying71 hi0 hz0 hz1 hz2 rfl (by decide) (.slice ay cs.length cy) cs.length (cc us cs) rfl hB4.own ⟨wr.heap.size, 0, none⟩ 1 1 [.slice au row.length cu, .int .i64 n1] rfl rfl hnew (by simp [Value.oneCell']) ?c3 ?c4 ?c5 ?_)
        case c3 => unfold maxLen; omega
        case c4 => omega
        case c5 => simp; omega
        intro v5 w5 hown5 hgr5 _ hat5
        have hB5 : BagOwn w5 (w.heap.size + 1 + 1) v5 (cs ++ [⟨row, n1⟩]) (us ++ [.slice au row.length cu]) (G ++ [g]) := hB4.push hR4 hO4 (fun b hb1 hb2' => by have := hGl b hb1; have := hOg.2.1 b hb2'; omega) (fun b hb1 hb2' => by have := (hol b hb1).2; have := hOg.2.1 b hb2'; omega) hown5 hgr5 (fun b hb1 => by
          rcases hat5 with e | e
          · left; rw [← e]; exact hb1
          · right; rw [e] at hb1; cases hb1; first | exact Nat.le_refl _ | simp | (simp; omega))
        have hsz5 := hgr5.size
        simp at hsz5
        have A0 : w5.cell? ⟨w.heap.size + 1, 0, none⟩ = some (.int .i64 (bAt s 0)) := (hgr5.cell_far _ (by simp; try omega) (fun e => hv4 e.symm)).trans (by go_simp)
        have A1 : w5.cell? ⟨w.heap.size + 1, 1, none⟩ = some (.slice ay cs.length cy) := (hgr5.cell_far _ (by simp; try omega) (fun e => hv4 e.symm)).trans (by go_simp)
        have Af : ∀ o, w5.frozen? ⟨w.heap.size + 1, o, none⟩ = false := fun o => (hgr5.frozen_far _ (by simp; try omega) (fun e => hv4 e.symm)).trans (by go_simp)
        have D0 : w5.cell? ⟨w.heap.size, 0, none⟩ = some (.int .i64 0) := (hgr5.cell_far _ (by simp; try omega) (fun e => hv2 e.symm)).trans (by go_simp)
        have D1 : w5.cell? ⟨w.heap.size, 1, none⟩ = some (.slice none 0 0) := (hgr5.cell_far _ (by simp; try omega) (fun e => hv2 e.symm)).trans (by go_simp)
        have Df : ∀ o, w5.frozen? ⟨w.heap.size, o, none⟩ = false := fun o => (hgr5.frozen_far _ (by simp; try omega) (fun e => hv2 e.symm)).trans (by go_simp)
        have hbel5 : Below w.heap.size w w5 := (hbX.trans (hb24.mono (by omega))).grown hgr5 (by simp; omega) (fun k' hk' => by have := (hol _ hk').1; omega)
        obtain ⟨a5, c5, hv5⟩ := hB5.shape
        have hv5' : v5 = .slice a5 (cs.length + 1) c5 := by rw [hv5]; simp
        clear hv5
        subst hv5'
        have m1 : w.heap.size + 1 < w5.heap.size := by omega
        have m2 : w.heap.size < w5.heap.size := by omega
        have hB6 : BagOwn (w5.setCell ⟨w.heap.size + 1, 1, none⟩ (.slice a5 (cs.length + 1) c5)) (w.heap.size + 1 + 1) (.slice a5 (cs.length + 1) c5) (cs ++ [⟨row, n1⟩]) (us ++ [.slice au row.length cu]) (G ++ [g]) := hB5.keep (by simp) fun b hb1 _ => Below.heap_setCell _ _ _ _ (by show b ≠ w.heap.size + 1; omega)
        have hbel6 : Below w.heap.size w (w5.setCell ⟨w.heap.size + 1, 1, none⟩ (.slice a5 (cs.length + 1) c5)) := hbel5.setCell (by show w.heap.size ≤ w.heap.size + 1; omega) _
        clear hown5 hgr5 hB4 hR4 hO4 hB5 hB3 hB2 hRF hOg hat5 hol hGl t0 t1 tf z0 z1 zf a0 a1 af hb24 hnew
        go_wp2_with fail
        refine ⟨⟨n, e, cs ++ [⟨row, n1⟩], .slice a5 (cs.length + 1) c5, us ++ [.slice au row.length cu], G ++ [g], rfl, hes, by omega, by simp; omega, by rw [HR.out, HS.out, HROW.out], ?_, by go_simp, by go_simp, fun o => by go_simp, by go_simp, by go_simp, fun o => by go_simp, hB6, hbel6, by simp; omega⟩, by simp [intOf]; omega⟩
        intro z hz
        rcases List.mem_append.1 hz with hz | hz
        · exact hcw z hz
        · rcases List.mem_singleton.1 hz with rfl
          rw [HROW.out] at hrw
          exact hrw
    by_cases hlt : i < s.size
    · have hltI : (i : Int) < s.size := by omega
      have h400I : decide ((cs.length : Int) ≤ 400) = false := by simp; omega
      have HE : Hid (ansB s = if putB (bAt s 0) cs = s then some cs else none) := by
        show ansB s = _
        rw [HRS.out, HR.out, run_stop _ _ _ _ _ (by omega)]
      obtain ⟨F, hRs, hOs⟩ := hB.rowsF
      go_wp2_with fail
      refine Calls.mono (specPutBag_any (bAt s 0) (.slice ay cs.length cy) cs wo hcw hRs.is) ?_
      rintro e w2 ⟨rfl, hb2⟩
      have hzw := hb2.size
      have hfz := (bcell hb2).2
      have hcz := (bcell hb2).1
      have u0 : w2.cell? ⟨w.heap.size, 0, none⟩ = some (.int .i64 0) := (hcz _ _ (by omega)).trans r0
      have u1 : w2.cell? ⟨w.heap.size, 1, none⟩ = some (.slice none 0 0) := (hcz _ _ (by omega)).trans r1
      have uf : ∀ o, w2.frozen? ⟨w.heap.size, o, none⟩ = false := fun o => (hfz _ _ (by omega)).trans (rf o)
      have q0 : w2.cell? ⟨w.heap.size + 1, 0, none⟩ = some (.int .i64 (bAt s 0)) := (hcz _ _ (by omega)).trans p0
      have q1 : w2.cell? ⟨w.heap.size + 1, 1, none⟩ = some (.slice ay cs.length cy) := (hcz _ _ (by omega)).trans p1
      have hbw2 : Below w.heap.size w w2 := hb.trans (hb2.mono hb.size)
      have n3 : w.heap.size < w2.heap.size := by omega
      have n5 : w.heap.size + 1 < w2.heap.size := by omega
      have hB2 := hB.below hb2
      clear hfz hcz p0 p1 pf r0 r1 rf hB hRs hOs
      by_cases hok : putB (bAt s 0) cs = s
      · have HN : Hid (ansB s = some cs) := by show ansB s = some cs; rw [HE.out, if_pos hok]
        rw [hok]
        clear hok
        go_wp2_with fail
        refine bodyPost_ret (v := .tuple #[.agg #[.int .i64 (bAt s 0), .slice ay cs.length cy], .bool true]) (by simp [results, Tryz.results41, go_sem, *]) rfl ⟨⟨_, us, G, by rw [(ans_some HN.out).1, (ans_some HN.out).2.2], ?_⟩, ?_⟩
        · rw [(ans_some HN.out).2.1]
          refine BagOwn.weak (N := w.heap.size + 1 + 1) (hB2.keep (by simp) fun b hb1 _ => ?_) (by omega)
          repeat rw [Below.heap_setCell _ _ _ _ (by show b ≠ w.heap.size; omega)]
        · repeat (first | (with_reducible exact hbw2) | (with_reducible refine Below.setCell ?_ ?hh _; case hh => (first | (simp; done) | (simp; omega))))
      · have HN : Hid (ansB s = none) := by show ansB s = none; rw [HE.out, if_neg hok]
        have hokb : ((putB (bAt s 0) cs).toList == s.toList) = false := beq_eq_false_iff_ne.2 fun e => hok (by rw [ByteArray.toList_eq, ByteArray.toList_eq] at e; exact ByteArray.ext (Array.toList_inj.1 e))
        clear hB2
        go_wp2_with fail
        refine bodyPost_ret (v := .tuple #[.agg #[.int .i64 0, .slice none 0 0], .bool false]) (by simp [results, Tryz.results41, go_sem, *]) rfl ⟨⟨_, [], [], by rw [(ans_none HN.out).1, (ans_none HN.out).2.2], by rw [(ans_none HN.out).2.1]; exact BagOwn.nil _ _⟩, ?_⟩
        repeat (first | (with_reducible exact hbw2) | (with_reducible refine Below.setCell ?_ ?hh _; case hh => (first | (simp; done) | (simp; omega))))
    · have hltI : decide ((i : Int) < s.size) = false := by simp; omega
      have HE : Hid (ansB s = if putB (bAt s 0) cs = s then some cs else none) := by
        show ansB s = _
        rw [HRS.out, HR.out, run_stop _ _ _ _ _ (by omega)]
      obtain ⟨F, hRs, hOs⟩ := hB.rowsF
      go_wp2_with fail
      refine Calls.mono (specPutBag_any (bAt s 0) (.slice ay cs.length cy) cs wo hcw hRs.is) ?_
      rintro e w2 ⟨rfl, hb2⟩
      have hzw := hb2.size
      have hfz := (bcell hb2).2
      have hcz := (bcell hb2).1
      have u0 : w2.cell? ⟨w.heap.size, 0, none⟩ = some (.int .i64 0) := (hcz _ _ (by omega)).trans r0
      have u1 : w2.cell? ⟨w.heap.size, 1, none⟩ = some (.slice none 0 0) := (hcz _ _ (by omega)).trans r1
      have uf : ∀ o, w2.frozen? ⟨w.heap.size, o, none⟩ = false := fun o => (hfz _ _ (by omega)).trans (rf o)
      have q0 : w2.cell? ⟨w.heap.size + 1, 0, none⟩ = some (.int .i64 (bAt s 0)) := (hcz _ _ (by omega)).trans p0
      have q1 : w2.cell? ⟨w.heap.size + 1, 1, none⟩ = some (.slice ay cs.length cy) := (hcz _ _ (by omega)).trans p1
      have hbw2 : Below w.heap.size w w2 := hb.trans (hb2.mono hb.size)
      have n3 : w.heap.size < w2.heap.size := by omega
      have n5 : w.heap.size + 1 < w2.heap.size := by omega
      have hB2 := hB.below hb2
      clear hfz hcz p0 p1 pf r0 r1 rf hB hRs hOs
      by_cases hok : putB (bAt s 0) cs = s
      · have HN : Hid (ansB s = some cs) := by show ansB s = some cs; rw [HE.out, if_pos hok]
        rw [hok]
        clear hok
        go_wp2_with fail
        refine bodyPost_ret (v := .tuple #[.agg #[.int .i64 (bAt s 0), .slice ay cs.length cy], .bool true]) (by simp [results, Tryz.results41, go_sem, *]) rfl ⟨⟨_, us, G, by rw [(ans_some HN.out).1, (ans_some HN.out).2.2], ?_⟩, ?_⟩
        · rw [(ans_some HN.out).2.1]
          refine BagOwn.weak (N := w.heap.size + 1 + 1) (hB2.keep (by simp) fun b hb1 _ => ?_) (by omega)
          repeat rw [Below.heap_setCell _ _ _ _ (by show b ≠ w.heap.size; omega)]
        · repeat (first | (with_reducible exact hbw2) | (with_reducible refine Below.setCell ?_ ?hh _; case hh => (first | (simp; done) | (simp; omega))))
      · have HN : Hid (ansB s = none) := by show ansB s = none; rw [HE.out, if_neg hok]
        have hokb : ((putB (bAt s 0) cs).toList == s.toList) = false := beq_eq_false_iff_ne.2 fun e => hok (by rw [ByteArray.toList_eq, ByteArray.toList_eq] at e; exact ByteArray.ext (Array.toList_inj.1 e))
        clear hB2
        go_wp2_with fail
        refine bodyPost_ret (v := .tuple #[.agg #[.int .i64 0, .slice none 0 0], .bool false]) (by simp [results, Tryz.results41, go_sem, *]) rfl ⟨⟨_, [], [], by rw [(ans_none HN.out).1, (ans_none HN.out).2.2], by rw [(ans_none HN.out).2.1]; exact BagOwn.nil _ _⟩, ?_⟩
        repeat (first | (with_reducible exact hbw2) | (with_reducible refine Below.setCell ?_ ?hh _; case hh => (first | (simp; done) | (simp; omega))))
end Go.Proofs.YtlobjpdkjlmglaaGreat
/- Own text. The contract of spec.SchemasOk. -/
namespace Go.Proofs.YtlobjpdkjlmglaaGreat
open Go.RowKit
set_option linter.unusedVariables false
theorem okCols_no {cs : List ByteArray} (h : inB cs.length 1 12 = false) : okCols cs = false := by simp [okCols, h]
theorem okCols_cols {cs : List ByteArray} (h : inB cs.length 1 12 = true) : okCols cs = colsB [] cs := by simp [okCols, h]
set_option maxHeartbeats 8000000 in
set_option maxRecDepth 100000 in
theorem specSchemasOk_any (v : Value) (rs : List S2) (w : World) (hw : HsWf rs) (hr : SchsIs w v rs) :
    Calls Tryz.prog 52 #[v] w fun e w' => e = .returned (.bool (okSch rs)) ∧ Below w.heap.size w w' := by
  obtain ⟨a, c, b, o, rfl, hl, hc, ha⟩ := hr.pick
  unfold maxLen at hc
  clear hr
  go_enter Tryz.func52, Tryz.ntmps52
  go_wp2
  go_loopw [3] (fun i wr => ∃ (k : Nat) (q : Int), k ≤ rs.length ∧ q = k ∧ i = .int .i64 q ∧ Below w.heap.size w wr ∧ okHs none rs = okHs (prevH rs k) (rs.drop k)) (fun i _ => rs.length - (intOf i).toNat)
  case atStart => exact ⟨0, 0, Nat.zero_le _, rfl, rfl, by go_grown, by simp [prevH]⟩
  case round =>
    obtain ⟨k, q, hk, hq, rfl, hb, heq⟩ := hrel
    have HE : Hid (okHs none rs = okHs (prevH rs k) (rs.drop k)) := heq
    have hzb := hb.size
    clear heq
    obtain ⟨wo, hwo⟩ : ∃ y, y = wr := ⟨_, rfl⟩
    subst hwo
    by_cases hlt : k < rs.length
    · obtain ⟨rfl, hblt, hL⟩ := ha k hlt
      obtain ⟨x, u, g, hx, c0, c1, hR, hbr⟩ := hL.at hblt hb hlt
      obtain ⟨ur, cr, rfl, hlc, hcm⟩ := hR.shape
      unfold maxLen at hcm
      obtain ⟨hxs, hxw⟩ := hw x (List.mem_of_getElem? hx)
      have HS : Hid (okHs (prevH rs k) (rs.drop k) = (nameB x.s && okCols x.cs && okPrevH (prevH rs k) x && okHs (prevH rs (k + 1)) (rs.drop (k + 1)))) := okHs_step hx
      by_cases hnm : nameB x.s = true
      rotate_left
      · have hf : nameB x.s = false := by simpa using hnm
        clear ha hw hL hx
        subst hq
        go_wp2_with fail
        refine wp_region_held_drew (S := (fun w' => w'.cell? ⟨wo.heap.size, 0, none⟩ = some (.string x.s) ∧ w'.cell? ⟨wo.heap.size, 1, none⟩ = some (.slice ur x.cs.length cr))) (by kernel_rfl) ?_ (fun hHeld => ?_)
        · (try dsimp only); refine ⟨?_, ?_⟩ <;> first | (go_simp; done) | (exact cell_later (by assumption) (by go_simp))
        refine takeYes (i := 0) (d := 16) (v := ?_) rfl rfl (by kernel_rfl) (by kernel_rfl) (by kernel_rfl) (fun _ _ _ h => h) (by rfl) (by assumption) ?_ ?_
        rotate_left
        · intro w' hSw; (try dsimp only at hSw); go_simp; try exact rfl
        try simp only [List.setIfInBounds_toArray, List.set_cons_zero, List.set_cons_succ]
        refine takeYes (i := 1) (d := 17) (v := ?_) rfl rfl (by kernel_rfl) (by kernel_rfl) (by kernel_rfl) (fun _ _ _ h => h) (by rfl) (by assumption) ?_ ?_
        rotate_left
        · intro w' hSw; (try dsimp only at hSw); go_simp; try exact rfl
        try simp only [List.setIfInBounds_toArray, List.set_cons_zero, List.set_cons_succ]
        refine wpAnyH_ready (rs := [2]) (by kernel_rfl) (by simp) ?_
        refine AllReadyH.cons rfl (fun K hK => ?_) AllReadyH.nil
        go_simp
        go_at_call 53
        refine (specName_any x.s _ hxs).mono ?_
        rintro e w1 ⟨rfl, rfl⟩
        try go_wp2_with fail
        refine hK.out _ _ ?_ (fun hHeld2 => ?_)
        · (try dsimp only); refine ⟨?_, ?_⟩ <;> first | (go_simp; done) | (exact cell_later (by assumption) (by go_simp))
        clear hK
        refine takeYes (i := 3) (d := 19) (v := ?_) rfl rfl (by kernel_rfl) (by kernel_rfl) (by kernel_rfl) (fun _ _ _ h => h) (by rfl) (by assumption) ?_ ?_
        rotate_left
        · intro w' hSw; (try dsimp only at hSw); go_simp; try exact rfl
        try simp only [List.setIfInBounds_toArray, List.set_cons_zero, List.set_cons_succ]
        refine takeYes (i := 4) (d := 20) (v := ?_) rfl rfl (by kernel_rfl) (by kernel_rfl) (by kernel_rfl) (fun _ _ _ h => h) (by rfl) (by assumption) ?_ ?_
        rotate_left
        · intro w' hSw; (try dsimp only at hSw); go_simp; try exact rfl
        try simp only [List.setIfInBounds_toArray, List.set_cons_zero, List.set_cons_succ]
        refine takeNo (i := 5) (d := 21) rfl rfl (by kernel_rfl) (by kernel_rfl) (by kernel_rfl) (fun _ _ _ h => h) (by rfl) (by assumption) ?_
        try simp only [List.setIfInBounds_toArray, List.set_cons_zero, List.set_cons_succ]
        refine takeNo (i := 6) (d := 22) rfl rfl (by kernel_rfl) (by kernel_rfl) (by kernel_rfl) (fun _ _ _ h => h) (by rfl) (by assumption) ?_
        try simp only [List.setIfInBounds_toArray, List.set_cons_zero, List.set_cons_succ]
        refine takeNo (i := 7) (d := 23) rfl rfl (by kernel_rfl) (by kernel_rfl) (by kernel_rfl) (fun _ _ _ h => h) (by rfl) (by assumption) ?_
        try simp only [List.setIfInBounds_toArray, List.set_cons_zero, List.set_cons_succ]
        refine takeNo (i := 8) (d := 24) rfl rfl (by kernel_rfl) (by kernel_rfl) (by kernel_rfl) (fun _ _ _ h => h) (by rfl) (by assumption) ?_
        try simp only [List.setIfInBounds_toArray, List.set_cons_zero, List.set_cons_succ]
        refine takeNo (i := 9) (d := 25) rfl rfl (by kernel_rfl) (by kernel_rfl) (by kernel_rfl) (fun _ _ _ h => h) (by rfl) (by assumption) ?_
        try simp only [List.setIfInBounds_toArray, List.set_cons_zero, List.set_cons_succ]
        refine takeNo (i := 10) (d := 26) rfl rfl (by kernel_rfl) (by kernel_rfl) (by kernel_rfl) (fun _ _ _ h => h) (by rfl) (by assumption) ?_
        try simp only [List.setIfInBounds_toArray, List.set_cons_zero, List.set_cons_succ]
        refine takeNo (i := 11) (d := 27) rfl rfl (by kernel_rfl) (by kernel_rfl) (by kernel_rfl) (fun _ _ _ h => h) (by rfl) (by assumption) ?_
        try simp only [List.setIfInBounds_toArray, List.set_cons_zero, List.set_cons_succ]
        refine takeNo (i := 12) (d := 28) rfl rfl (by kernel_rfl) (by kernel_rfl) (by kernel_rfl) (fun _ _ _ h => h) (by rfl) (by assumption) ?_
        try simp only [List.setIfInBounds_toArray, List.set_cons_zero, List.set_cons_succ]
        refine takeNo (i := 13) (d := 29) rfl rfl (by kernel_rfl) (by kernel_rfl) (by kernel_rfl) (fun _ _ _ h => h) (by rfl) (by assumption) ?_
        try simp only [List.setIfInBounds_toArray, List.set_cons_zero, List.set_cons_succ]
        refine takeNo (i := 14) (d := 30) rfl rfl (by kernel_rfl) (by kernel_rfl) (by kernel_rfl) (fun _ _ _ h => h) (by rfl) (by assumption) ?_
        try simp only [List.setIfInBounds_toArray, List.set_cons_zero, List.set_cons_succ]
        refine takeNo (i := 15) (d := 31) rfl rfl (by kernel_rfl) (by kernel_rfl) (by kernel_rfl) (fun _ _ _ h => h) (by rfl) (by assumption) ?_
        try simp only [List.setIfInBounds_toArray, List.set_cons_zero, List.set_cons_succ]
        refine takeNo (i := 16) (d := 32) rfl rfl (by kernel_rfl) (by kernel_rfl) (by kernel_rfl) (fun _ _ _ h => h) (by rfl) (by assumption) ?_
        try simp only [List.setIfInBounds_toArray, List.set_cons_zero, List.set_cons_succ]
        refine takeNo (i := 17) (d := 33) rfl rfl (by kernel_rfl) (by kernel_rfl) (by kernel_rfl) (fun _ _ _ h => h) (by rfl) (by assumption) ?_
        try simp only [List.setIfInBounds_toArray, List.set_cons_zero, List.set_cons_succ]
        refine takeYes (i := 18) (d := 34) (v := ?_) rfl rfl (by kernel_rfl) (by kernel_rfl) (by kernel_rfl) (fun _ _ _ h => h) (by rfl) (by assumption) ?_ ?_
        rotate_left
        · intro w' hSw; (try dsimp only at hSw); go_simp; try exact rfl
        try simp only [List.setIfInBounds_toArray, List.set_cons_zero, List.set_cons_succ]
        refine takeYes (i := 19) (d := 35) (v := ?_) rfl rfl (by kernel_rfl) (by kernel_rfl) (by kernel_rfl) (fun _ _ _ h => h) (by rfl) (by assumption) ?_ ?_
        rotate_left
        · intro w' hSw; (try dsimp only at hSw); go_simp; try exact rfl
        try simp only [List.setIfInBounds_toArray, List.set_cons_zero, List.set_cons_succ]
        refine takeNo (i := 20) (d := 36) rfl rfl (by kernel_rfl) (by kernel_rfl) (by kernel_rfl) (fun _ _ _ h => h) (by rfl) (by assumption) ?_
        try simp only [List.setIfInBounds_toArray, List.set_cons_zero, List.set_cons_succ]
        refine takeNo (i := 21) (d := 37) rfl rfl (by kernel_rfl) (by kernel_rfl) (by kernel_rfl) (fun _ _ _ h => h) (by rfl) (by assumption) ?_
        try simp only [List.setIfInBounds_toArray, List.set_cons_zero, List.set_cons_succ]
        refine takeNo (i := 22) (d := 38) rfl rfl (by kernel_rfl) (by kernel_rfl) (by kernel_rfl) (fun _ _ _ h => h) (by rfl) (by assumption) ?_
        try simp only [List.setIfInBounds_toArray, List.set_cons_zero, List.set_cons_succ]
        refine wpAnyH_ready (rs := [23]) (by kernel_rfl) (by simp) ?_
        refine AllReadyH.cons rfl (fun K hK => ?_) AllReadyH.nil
        go_simp
        refine hK.out _ _ ?_ (fun hHeld23 => ?_)
        · (try dsimp only); refine ⟨?_, ?_⟩ <;> first | (go_simp; done) | (exact cell_later (by assumption) (by go_simp))
        clear hK
        refine takeNo (i := 24) (d := 40) rfl rfl (by kernel_rfl) (by kernel_rfl) (by kernel_rfl) (fun _ _ _ h => h) (by rfl) (by assumption) ?_
        try simp only [List.setIfInBounds_toArray, List.set_cons_zero, List.set_cons_succ]
        refine takeYes (i := 25) (d := 41) (v := ?_) rfl rfl (by kernel_rfl) (by kernel_rfl) (by kernel_rfl) (fun _ _ _ h => h) (by rfl) (by assumption) ?_ ?_
        rotate_left
        · intro w' hSw; (try dsimp only at hSw); go_simp; try exact rfl
        try simp only [List.setIfInBounds_toArray, List.set_cons_zero, List.set_cons_succ]
        refine wpAnyH_done (by kernel_rfl) ?_ _
        go_wp2
        go_returns
        refine ⟨ret_bool ?_, by repeat (first | exact Below.refl _ _ | refine Below.drew ?_ | refine Below.alloc ?_ (by first | (simp; done) | (simp; omega) | omega) _ | refine Below.setCell ?_ (by first | (simp; done) | (simp; omega) | omega) _ | refine bstep (by assumption) (by first | (simp; done) | (simp; omega) | omega) ?_)⟩
        unfold okSch
        rw [HE.out, HS.out, hf]
        simp
      rcases Nat.eq_zero_or_pos k with hk0 | hk0
      · subst hk0
        obtain rfl : q = 0 := by simpa using hq
        rw [Nat.zero_mul, Nat.add_zero] at c0 c1
        clear ha hw hL hx hq
        cases hin : inB x.cs.length 1 12 with
        | false =>
          go_wp2_with fail
          refine wp_region_held_drew (S := (fun w' => w'.cell? ⟨wo.heap.size, 0, none⟩ = some (.string x.s) ∧ w'.cell? ⟨wo.heap.size, 1, none⟩ = some (.slice ur x.cs.length cr))) (by kernel_rfl) ?_ (fun hHeld => ?_)
          · (try dsimp only); refine ⟨?_, ?_⟩ <;> first | (go_simp; done) | (exact cell_later (by assumption) (by go_simp))
          refine takeYes (i := 0) (d := 16) (v := ?_) rfl rfl (by kernel_rfl) (by kernel_rfl) (by kernel_rfl) (fun _ _ _ h => h) (by rfl) (by assumption) ?_ ?_
          rotate_left
          · intro w' hSw; (try dsimp only at hSw); go_simp; try exact rfl
          try simp only [List.setIfInBounds_toArray, List.set_cons_zero, List.set_cons_succ]
          refine takeYes (i := 1) (d := 17) (v := ?_) rfl rfl (by kernel_rfl) (by kernel_rfl) (by kernel_rfl) (fun _ _ _ h => h) (by rfl) (by assumption) ?_ ?_
          rotate_left
          · intro w' hSw; (try dsimp only at hSw); go_simp; try exact rfl
          try simp only [List.setIfInBounds_toArray, List.set_cons_zero, List.set_cons_succ]
          refine wpAnyH_ready (rs := [2]) (by kernel_rfl) (by simp) ?_
          refine AllReadyH.cons rfl (fun K hK => ?_) AllReadyH.nil
          go_simp
          go_at_call 53
          refine (specName_any x.s _ hxs).mono ?_
          rintro e w1 ⟨rfl, rfl⟩
          try go_wp2_with fail
          refine hK.out _ _ ?_ (fun hHeld2 => ?_)
          · (try dsimp only); refine ⟨?_, ?_⟩ <;> first | (go_simp; done) | (exact cell_later (by assumption) (by go_simp))
          clear hK
          refine takeYes (i := 3) (d := 19) (v := ?_) rfl rfl (by kernel_rfl) (by kernel_rfl) (by kernel_rfl) (fun _ _ _ h => h) (by rfl) (by assumption) ?_ ?_
          rotate_left
          · intro w' hSw; (try dsimp only at hSw); go_simp; try exact rfl
          try simp only [List.setIfInBounds_toArray, List.set_cons_zero, List.set_cons_succ]
          refine takeYes (i := 4) (d := 20) (v := ?_) rfl rfl (by kernel_rfl) (by kernel_rfl) (by kernel_rfl) (fun _ _ _ h => h) (by rfl) (by assumption) ?_ ?_
          rotate_left
          · intro w' hSw; (try dsimp only at hSw); go_simp; try exact rfl
          try simp only [List.setIfInBounds_toArray, List.set_cons_zero, List.set_cons_succ]
          refine takeYes (i := 5) (d := 21) (v := ?_) rfl rfl (by kernel_rfl) (by kernel_rfl) (by kernel_rfl) (fun _ _ _ h => h) (by rfl) (by assumption) ?_ ?_
          rotate_left
          · intro w' hSw; (try dsimp only at hSw); go_simp; try exact rfl
          try simp only [List.setIfInBounds_toArray, List.set_cons_zero, List.set_cons_succ]
          refine takeYes (i := 6) (d := 22) (v := ?_) rfl rfl (by kernel_rfl) (by kernel_rfl) (by kernel_rfl) (fun _ _ _ h => h) (by rfl) (by assumption) ?_ ?_
          rotate_left
          · intro w' hSw; (try dsimp only at hSw); go_simp; try exact rfl
          try simp only [List.setIfInBounds_toArray, List.set_cons_zero, List.set_cons_succ]
          refine takeYes (i := 7) (d := 23) (v := ?_) rfl rfl (by kernel_rfl) (by kernel_rfl) (by kernel_rfl) (fun _ _ _ h => h) (by rfl) (by assumption) ?_ ?_
          rotate_left
          · intro w' hSw; (try dsimp only at hSw); go_simp; try exact rfl
          try simp only [List.setIfInBounds_toArray, List.set_cons_zero, List.set_cons_succ]
          refine takeNo (i := 8) (d := 24) rfl rfl (by kernel_rfl) (by kernel_rfl) (by kernel_rfl) (fun _ _ _ h => h) (by rfl) (by assumption) ?_
          try simp only [List.setIfInBounds_toArray, List.set_cons_zero, List.set_cons_succ]
          refine takeNo (i := 9) (d := 25) rfl rfl (by kernel_rfl) (by kernel_rfl) (by kernel_rfl) (fun _ _ _ h => h) (by rfl) (by assumption) ?_
          try simp only [List.setIfInBounds_toArray, List.set_cons_zero, List.set_cons_succ]
          refine takeNo (i := 10) (d := 26) rfl rfl (by kernel_rfl) (by kernel_rfl) (by kernel_rfl) (fun _ _ _ h => h) (by rfl) (by assumption) ?_
          try simp only [List.setIfInBounds_toArray, List.set_cons_zero, List.set_cons_succ]
          refine takeNo (i := 11) (d := 27) rfl rfl (by kernel_rfl) (by kernel_rfl) (by kernel_rfl) (fun _ _ _ h => h) (by rfl) (by assumption) ?_
          try simp only [List.setIfInBounds_toArray, List.set_cons_zero, List.set_cons_succ]
          refine takeNo (i := 12) (d := 28) rfl rfl (by kernel_rfl) (by kernel_rfl) (by kernel_rfl) (fun _ _ _ h => h) (by rfl) (by assumption) ?_
          try simp only [List.setIfInBounds_toArray, List.set_cons_zero, List.set_cons_succ]
          refine takeNo (i := 13) (d := 29) rfl rfl (by kernel_rfl) (by kernel_rfl) (by kernel_rfl) (fun _ _ _ h => h) (by rfl) (by assumption) ?_
          try simp only [List.setIfInBounds_toArray, List.set_cons_zero, List.set_cons_succ]
          refine takeNo (i := 14) (d := 30) rfl rfl (by kernel_rfl) (by kernel_rfl) (by kernel_rfl) (fun _ _ _ h => h) (by rfl) (by assumption) ?_
          try simp only [List.setIfInBounds_toArray, List.set_cons_zero, List.set_cons_succ]
          refine takeNo (i := 15) (d := 31) rfl rfl (by kernel_rfl) (by kernel_rfl) (by kernel_rfl) (fun _ _ _ h => h) (by rfl) (by assumption) ?_
          try simp only [List.setIfInBounds_toArray, List.set_cons_zero, List.set_cons_succ]
          refine takeNo (i := 16) (d := 32) rfl rfl (by kernel_rfl) (by kernel_rfl) (by kernel_rfl) (fun _ _ _ h => h) (by rfl) (by assumption) ?_
          try simp only [List.setIfInBounds_toArray, List.set_cons_zero, List.set_cons_succ]
          refine takeYes (i := 17) (d := 33) (v := ?_) rfl rfl (by kernel_rfl) (by kernel_rfl) (by kernel_rfl) (fun _ _ _ h => h) (by rfl) (by assumption) ?_ ?_
          rotate_left
          · intro w' hSw; (try dsimp only at hSw); go_simp; try exact rfl
          try simp only [List.setIfInBounds_toArray, List.set_cons_zero, List.set_cons_succ]
          refine takeYes (i := 18) (d := 34) (v := ?_) rfl rfl (by kernel_rfl) (by kernel_rfl) (by kernel_rfl) (fun _ _ _ h => h) (by rfl) (by assumption) ?_ ?_
          rotate_left
          · intro w' hSw; (try dsimp only at hSw); go_simp; try exact rfl
          try simp only [List.setIfInBounds_toArray, List.set_cons_zero, List.set_cons_succ]
          refine takeYes (i := 19) (d := 35) (v := ?_) rfl rfl (by kernel_rfl) (by kernel_rfl) (by kernel_rfl) (fun _ _ _ h => h) (by rfl) (by assumption) ?_ ?_
          rotate_left
          · intro w' hSw; (try dsimp only at hSw); go_simp; try exact rfl
          try simp only [List.setIfInBounds_toArray, List.set_cons_zero, List.set_cons_succ]
          refine takeYes (i := 20) (d := 36) (v := ?_) rfl rfl (by kernel_rfl) (by kernel_rfl) (by kernel_rfl) (fun _ _ _ h => h) (by rfl) (by assumption) ?_ ?_
          rotate_left
          · intro w' hSw; (try dsimp only at hSw); go_simp; try exact rfl
          try simp only [List.setIfInBounds_toArray, List.set_cons_zero, List.set_cons_succ]
          refine takeYes (i := 21) (d := 37) (v := ?_) rfl rfl (by kernel_rfl) (by kernel_rfl) (by kernel_rfl) (fun _ _ _ h => h) (by rfl) (by assumption) ?_ ?_
          rotate_left
          · intro w' hSw; (try dsimp only at hSw); go_simp; try exact rfl
          try simp only [List.setIfInBounds_toArray, List.set_cons_zero, List.set_cons_succ]
          refine takeYes (i := 22) (d := 38) (v := ?_) rfl rfl (by kernel_rfl) (by kernel_rfl) (by kernel_rfl) (fun _ _ _ h => h) (by rfl) (by assumption) ?_ ?_
          rotate_left
          · intro w' hSw; (try dsimp only at hSw); go_simp; try exact rfl
          try simp only [List.setIfInBounds_toArray, List.set_cons_zero, List.set_cons_succ]
          refine wpAnyH_ready (rs := [23]) (by kernel_rfl) (by simp) ?_
          refine AllReadyH.cons rfl (fun K hK => ?_) AllReadyH.nil
          go_simp
          go_at_call 55
          refine (l01InN_any _ _ _ _).mono ?_
          rintro e w1 ⟨rfl, rfl⟩
          try go_wp2_with fail
          refine hK.out _ _ ?_ (fun hHeld23 => ?_)
          · (try dsimp only); refine ⟨?_, ?_⟩ <;> first | (go_simp; done) | (exact cell_later (by assumption) (by go_simp))
          clear hK
          refine takeYes (i := 24) (d := 40) (v := ?_) rfl rfl (by kernel_rfl) (by kernel_rfl) (by kernel_rfl) (fun _ _ _ h => h) (by rfl) (by assumption) ?_ ?_
          rotate_left
          · intro w' hSw; (try dsimp only at hSw); go_simp; try exact rfl
          try simp only [List.setIfInBounds_toArray, List.set_cons_zero, List.set_cons_succ]
          refine takeYes (i := 25) (d := 41) (v := ?_) rfl rfl (by kernel_rfl) (by kernel_rfl) (by kernel_rfl) (fun _ _ _ h => h) (by rfl) (by assumption) ?_ ?_
          rotate_left
          · intro w' hSw; (try dsimp only at hSw); go_simp; try exact rfl
          try simp only [List.setIfInBounds_toArray, List.set_cons_zero, List.set_cons_succ]
          refine wpAnyH_done (by kernel_rfl) ?_ _
          go_wp2
          go_returns
          refine ⟨ret_bool ?_, by repeat (first | exact Below.refl _ _ | refine Below.drew ?_ | refine Below.alloc ?_ (by first | (simp; done) | (simp; omega) | omega) _ | refine Below.setCell ?_ (by first | (simp; done) | (simp; omega) | omega) _ | refine bstep (by assumption) (by first | (simp; done) | (simp; omega) | omega) ?_)⟩
          unfold okSch
          rw [HE.out, HS.out, okCols_no hin]
          simp
        | true =>
          go_wp2_with fail
          refine wp_region_held_drew (S := (fun w' => w'.cell? ⟨wo.heap.size, 0, none⟩ = some (.string x.s) ∧ w'.cell? ⟨wo.heap.size, 1, none⟩ = some (.slice ur x.cs.length cr))) (by kernel_rfl) ?_ (fun hHeld => ?_)
          · (try dsimp only); refine ⟨?_, ?_⟩ <;> first | (go_simp; done) | (exact cell_later (by assumption) (by go_simp))
          refine takeYes (i := 0) (d := 16) (v := ?_) rfl rfl (by kernel_rfl) (by kernel_rfl) (by kernel_rfl) (fun _ _ _ h => h) (by rfl) (by assumption) ?_ ?_
          rotate_left
          · intro w' hSw; (try dsimp only at hSw); go_simp; try exact rfl
          try simp only [List.setIfInBounds_toArray, List.set_cons_zero, List.set_cons_succ]
          refine takeYes (i := 1) (d := 17) (v := ?_) rfl rfl (by kernel_rfl) (by kernel_rfl) (by kernel_rfl) (fun _ _ _ h => h) (by rfl) (by assumption) ?_ ?_
          rotate_left
          · intro w' hSw; (try dsimp only at hSw); go_simp; try exact rfl
          try simp only [List.setIfInBounds_toArray, List.set_cons_zero, List.set_cons_succ]
          refine wpAnyH_ready (rs := [2]) (by kernel_rfl) (by simp) ?_
          refine AllReadyH.cons rfl (fun K hK => ?_) AllReadyH.nil
          go_simp
          go_at_call 53
          refine (specName_any x.s _ hxs).mono ?_
          rintro e w1 ⟨rfl, rfl⟩
          try go_wp2_with fail
          refine hK.out _ _ ?_ (fun hHeld2 => ?_)
          · (try dsimp only); refine ⟨?_, ?_⟩ <;> first | (go_simp; done) | (exact cell_later (by assumption) (by go_simp))
          clear hK
          refine takeYes (i := 3) (d := 19) (v := ?_) rfl rfl (by kernel_rfl) (by kernel_rfl) (by kernel_rfl) (fun _ _ _ h => h) (by rfl) (by assumption) ?_ ?_
          rotate_left
          · intro w' hSw; (try dsimp only at hSw); go_simp; try exact rfl
          try simp only [List.setIfInBounds_toArray, List.set_cons_zero, List.set_cons_succ]
          refine takeYes (i := 4) (d := 20) (v := ?_) rfl rfl (by kernel_rfl) (by kernel_rfl) (by kernel_rfl) (fun _ _ _ h => h) (by rfl) (by assumption) ?_ ?_
          rotate_left
          · intro w' hSw; (try dsimp only at hSw); go_simp; try exact rfl
          try simp only [List.setIfInBounds_toArray, List.set_cons_zero, List.set_cons_succ]
          refine takeYes (i := 5) (d := 21) (v := ?_) rfl rfl (by kernel_rfl) (by kernel_rfl) (by kernel_rfl) (fun _ _ _ h => h) (by rfl) (by assumption) ?_ ?_
          rotate_left
          · intro w' hSw; (try dsimp only at hSw); go_simp; try exact rfl
          try simp only [List.setIfInBounds_toArray, List.set_cons_zero, List.set_cons_succ]
          refine takeYes (i := 6) (d := 22) (v := ?_) rfl rfl (by kernel_rfl) (by kernel_rfl) (by kernel_rfl) (fun _ _ _ h => h) (by rfl) (by assumption) ?_ ?_
          rotate_left
          · intro w' hSw; (try dsimp only at hSw); go_simp; try exact rfl
          try simp only [List.setIfInBounds_toArray, List.set_cons_zero, List.set_cons_succ]
          refine takeYes (i := 7) (d := 23) (v := ?_) rfl rfl (by kernel_rfl) (by kernel_rfl) (by kernel_rfl) (fun _ _ _ h => h) (by rfl) (by assumption) ?_ ?_
          rotate_left
          · intro w' hSw; (try dsimp only at hSw); go_simp; try exact rfl
          try simp only [List.setIfInBounds_toArray, List.set_cons_zero, List.set_cons_succ]
          refine takeNo (i := 8) (d := 24) rfl rfl (by kernel_rfl) (by kernel_rfl) (by kernel_rfl) (fun _ _ _ h => h) (by rfl) (by assumption) ?_
          try simp only [List.setIfInBounds_toArray, List.set_cons_zero, List.set_cons_succ]
          refine takeNo (i := 9) (d := 25) rfl rfl (by kernel_rfl) (by kernel_rfl) (by kernel_rfl) (fun _ _ _ h => h) (by rfl) (by assumption) ?_
          try simp only [List.setIfInBounds_toArray, List.set_cons_zero, List.set_cons_succ]
          refine takeNo (i := 10) (d := 26) rfl rfl (by kernel_rfl) (by kernel_rfl) (by kernel_rfl) (fun _ _ _ h => h) (by rfl) (by assumption) ?_
          try simp only [List.setIfInBounds_toArray, List.set_cons_zero, List.set_cons_succ]
          refine takeNo (i := 11) (d := 27) rfl rfl (by kernel_rfl) (by kernel_rfl) (by kernel_rfl) (fun _ _ _ h => h) (by rfl) (by assumption) ?_
          try simp only [List.setIfInBounds_toArray, List.set_cons_zero, List.set_cons_succ]
          refine takeNo (i := 12) (d := 28) rfl rfl (by kernel_rfl) (by kernel_rfl) (by kernel_rfl) (fun _ _ _ h => h) (by rfl) (by assumption) ?_
          try simp only [List.setIfInBounds_toArray, List.set_cons_zero, List.set_cons_succ]
          refine takeNo (i := 13) (d := 29) rfl rfl (by kernel_rfl) (by kernel_rfl) (by kernel_rfl) (fun _ _ _ h => h) (by rfl) (by assumption) ?_
          try simp only [List.setIfInBounds_toArray, List.set_cons_zero, List.set_cons_succ]
          refine takeNo (i := 14) (d := 30) rfl rfl (by kernel_rfl) (by kernel_rfl) (by kernel_rfl) (fun _ _ _ h => h) (by rfl) (by assumption) ?_
          try simp only [List.setIfInBounds_toArray, List.set_cons_zero, List.set_cons_succ]
          refine takeNo (i := 15) (d := 31) rfl rfl (by kernel_rfl) (by kernel_rfl) (by kernel_rfl) (fun _ _ _ h => h) (by rfl) (by assumption) ?_
          try simp only [List.setIfInBounds_toArray, List.set_cons_zero, List.set_cons_succ]
          refine takeNo (i := 16) (d := 32) rfl rfl (by kernel_rfl) (by kernel_rfl) (by kernel_rfl) (fun _ _ _ h => h) (by rfl) (by assumption) ?_
          try simp only [List.setIfInBounds_toArray, List.set_cons_zero, List.set_cons_succ]
          refine takeYes (i := 17) (d := 33) (v := ?_) rfl rfl (by kernel_rfl) (by kernel_rfl) (by kernel_rfl) (fun _ _ _ h => h) (by rfl) (by assumption) ?_ ?_
          rotate_left
          · intro w' hSw; (try dsimp only at hSw); go_simp; try exact rfl
          try simp only [List.setIfInBounds_toArray, List.set_cons_zero, List.set_cons_succ]
          refine takeYes (i := 18) (d := 34) (v := ?_) rfl rfl (by kernel_rfl) (by kernel_rfl) (by kernel_rfl) (fun _ _ _ h => h) (by rfl) (by assumption) ?_ ?_
          rotate_left
          · intro w' hSw; (try dsimp only at hSw); go_simp; try exact rfl
          try simp only [List.setIfInBounds_toArray, List.set_cons_zero, List.set_cons_succ]
          refine takeYes (i := 19) (d := 35) (v := ?_) rfl rfl (by kernel_rfl) (by kernel_rfl) (by kernel_rfl) (fun _ _ _ h => h) (by rfl) (by assumption) ?_ ?_
          rotate_left
          · intro w' hSw; (try dsimp only at hSw); go_simp; try exact rfl
          try simp only [List.setIfInBounds_toArray, List.set_cons_zero, List.set_cons_succ]
          refine takeYes (i := 20) (d := 36) (v := ?_) rfl rfl (by kernel_rfl) (by kernel_rfl) (by kernel_rfl) (fun _ _ _ h => h) (by rfl) (by assumption) ?_ ?_
          rotate_left
          · intro w' hSw; (try dsimp only at hSw); go_simp; try exact rfl
          try simp only [List.setIfInBounds_toArray, List.set_cons_zero, List.set_cons_succ]
          refine takeYes (i := 21) (d := 37) (v := ?_) rfl rfl (by kernel_rfl) (by kernel_rfl) (by kernel_rfl) (fun _ _ _ h => h) (by rfl) (by assumption) ?_ ?_
          rotate_left
          · intro w' hSw; (try dsimp only at hSw); go_simp; try exact rfl
          try simp only [List.setIfInBounds_toArray, List.set_cons_zero, List.set_cons_succ]
          refine takeYes (i := 22) (d := 38) (v := ?_) rfl rfl (by kernel_rfl) (by kernel_rfl) (by kernel_rfl) (fun _ _ _ h => h) (by rfl) (by assumption) ?_ ?_
          rotate_left
          · intro w' hSw; (try dsimp only at hSw); go_simp; try exact rfl
          try simp only [List.setIfInBounds_toArray, List.set_cons_zero, List.set_cons_succ]
          refine wpAnyH_ready (rs := [23]) (by kernel_rfl) (by simp) ?_
          refine AllReadyH.cons rfl (fun K hK => ?_) AllReadyH.nil
          go_simp
          go_at_call 55
          refine (l01InN_any _ _ _ _).mono ?_
          rintro e w1 ⟨rfl, rfl⟩
          try go_wp2_with fail
          refine hK.out _ _ ?_ (fun hHeld23 => ?_)
          · (try dsimp only); refine ⟨?_, ?_⟩ <;> first | (go_simp; done) | (exact cell_later (by assumption) (by go_simp))
          clear hK
          refine takeYes (i := 24) (d := 40) (v := ?_) rfl rfl (by kernel_rfl) (by kernel_rfl) (by kernel_rfl) (fun _ _ _ h => h) (by rfl) (by assumption) ?_ ?_
          rotate_left
          · intro w' hSw; (try dsimp only at hSw); go_simp; try exact rfl
          try simp only [List.setIfInBounds_toArray, List.set_cons_zero, List.set_cons_succ]
          refine takeYes (i := 25) (d := 41) (v := ?_) rfl rfl (by kernel_rfl) (by kernel_rfl) (by kernel_rfl) (fun _ _ _ h => h) (by rfl) (by assumption) ?_ ?_
          rotate_left
          · intro w' hSw; (try dsimp only at hSw); go_simp; try exact rfl
          try simp only [List.setIfInBounds_toArray, List.set_cons_zero, List.set_cons_succ]
          refine wpAnyH_done (by kernel_rfl) ?_ _
          go_wp2_with fail
          have hb5 : Below wo.heap.size wo (wo.alloc (.cells #[.string x.s, .slice ur x.cs.length cr] 93)).drew := by repeat (first | (with_reducible exact Below.refl _ _) | (with_reducible refine Below.drew ?_) | (with_reducible refine Below.alloc ?_ ?hh _; case hh => first | (simp; done) | (simp; omega) | omega) | (with_reducible refine Below.setCell ?_ ?hh _; case hh => first | (simp; done) | (simp; omega) | omega) | refine bstep (by assumption) (by first | (simp; done) | (simp; omega) | omega) ?_)
          have q1 : ((wo.alloc (.cells #[.string x.s, .slice ur x.cs.length cr] 93)).drew).cell? ⟨wo.heap.size, 1, none⟩ = some (.slice ur x.cs.length cr) := hHeld23.2
          have hs5 : wo.heap.size < ((wo.alloc (.cells #[.string x.s, .slice ur x.cs.length cr] 93)).drew).heap.size := by simp
          clear hHeld hHeld2 hHeld23
          generalize (wo.alloc (.cells #[.string x.s, .slice ur x.cs.length cr] 93)).drew = w5 at hb5 q1 hs5 ⊢
          have hR5 := hR.below hb5
          have hbw5 : Below w.heap.size w w5 := hb.trans (hb5.mono hzb)
          go_loopw [5] (fun i wi => ∃ n : Nat, n ≤ x.cs.length ∧ i = .int .i64 n ∧ Below w5.heap.size w5 wi ∧ colsB [] x.cs = colsB (x.cs.take n) (x.cs.drop n)) (fun i _ => x.cs.length - (intOf i).toNat)
          case atStart => exact ⟨0, Nat.zero_le _, rfl, Below.refl _ _, by simp⟩
          case round =>
            obtain ⟨n, hn, rfl, hbi, heq2⟩ := hrel
            have HE2 : Hid (colsB [] x.cs = colsB (x.cs.take n) (x.cs.drop n)) := heq2
            clear heq2
            have hzi := hbi.size
            have qi : wr.cell? ⟨wo.heap.size, 1, none⟩ = some (.slice ur x.cs.length cr) := (hbi.cell (p := ⟨wo.heap.size, 1, none⟩) hs5).trans q1
            have hsi : wo.heap.size < wr.heap.size := by omega
            have hbwi : Below w.heap.size w wr := hbw5.trans (hbi.mono hbw5.size)
            by_cases hnl : n < x.cs.length
            · have hRi := hR5.below hbi
              obtain ⟨m, hm⟩ : ∃ m, x.cs[n]? = some m := ⟨x.cs[n], by simp [hnl]⟩
              obtain ⟨g', hcut⟩ := hRi.cut hn
              obtain ⟨a', c', bc, oc, e, _, _, _, h4⟩ := hRi.pick
              obtain ⟨rfl, _, rfl⟩ : ur = a' ∧ x.cs.length = x.cs.length ∧ cr = c' := by injection e with e1 e2 e3; exact ⟨e1, e2, e3⟩
              obtain ⟨rfl, hbc, _, hcell⟩ := h4 n hnl
              have hcm1 := hcell n m hm
              have hms := hxw m (List.mem_of_getElem? hm)
              have HS2 : Hid (colsB (x.cs.take n) (x.cs.drop n) = (nameB m && !hasS (x.cs.take n) m && colsB (x.cs.take (n + 1)) (x.cs.drop (n + 1)))) := colsB_step hm
              have HC : Hid (okCols x.cs = colsB [] x.cs) := okCols_cols hin
              have hncr : n ≤ cr := by omega
              clear h4 hcell hm hRi hR5 hR hxw q1 hin e
              by_cases hnm2 : nameB m = true
              rotate_left
              · have hf2 : nameB m = false := by simpa using hnm2
                have HF2 : Hid (nameB m = false) := hf2
                go_wp2_with fail
                refine wp_region_held_drew (S := (fun w' => w'.cell? ⟨wo.heap.size, 1, none⟩ = some (.slice (some ⟨bc, oc, none⟩) x.cs.length cr) ∧ w'.cell? ⟨bc, oc + n, none⟩ = some (.string m))) (by kernel_rfl) ?_ (fun hHeld => ?_)
                · (try dsimp only); refine ⟨?_, ?_⟩ <;> first | (go_simp; done) | (exact cell_later (by assumption) (by go_simp))
                refine takeYes (i := 0) (d := 49) (v := ?_) rfl rfl (by kernel_rfl) (by kernel_rfl) (by kernel_rfl) (fun _ _ _ h => h) (by rfl) (by assumption) ?_ ?_
                rotate_left
                · intro w' hSw; (try dsimp only at hSw); go_simp; try exact rfl
                try simp only [List.setIfInBounds_toArray, List.set_cons_zero, List.set_cons_succ]
                refine takeYes (i := 1) (d := 50) (v := ?_) rfl rfl (by kernel_rfl) (by kernel_rfl) (by kernel_rfl) (fun _ _ _ h => h) (by rfl) (by assumption) ?_ ?_
                rotate_left
                · intro w' hSw; (try dsimp only at hSw); go_simp; try exact rfl
                try simp only [List.setIfInBounds_toArray, List.set_cons_zero, List.set_cons_succ]
                refine takeYes (i := 2) (d := 51) (v := ?_) rfl rfl (by kernel_rfl) (by kernel_rfl) (by kernel_rfl) (fun _ _ _ h => h) (by rfl) (by assumption) ?_ ?_
                rotate_left
                · intro w' hSw; (try dsimp only at hSw); go_simp; try exact rfl
                try simp only [List.setIfInBounds_toArray, List.set_cons_zero, List.set_cons_succ]
                refine takeYes (i := 3) (d := 52) (v := ?_) rfl rfl (by kernel_rfl) (by kernel_rfl) (by kernel_rfl) (fun _ _ _ h => h) (by rfl) (by assumption) ?_ ?_
                rotate_left
                · intro w' hSw; (try dsimp only at hSw); go_simp; try exact rfl
                try simp only [List.setIfInBounds_toArray, List.set_cons_zero, List.set_cons_succ]
                refine takeYes (i := 4) (d := 53) (v := ?_) rfl rfl (by kernel_rfl) (by kernel_rfl) (by kernel_rfl) (fun _ _ _ h => h) (by rfl) (by assumption) ?_ ?_
                rotate_left
                · intro w' hSw; (try dsimp only at hSw); go_simp; try exact rfl
                try simp only [List.setIfInBounds_toArray, List.set_cons_zero, List.set_cons_succ]
                refine wpAnyH_ready (rs := [5]) (by kernel_rfl) (by simp) ?_
                refine AllReadyH.cons rfl (fun K hK => ?_) AllReadyH.nil
                go_simp
                go_at_call 53
                refine (specName_any m _ hms).mono ?_
                rintro e w1 ⟨rfl, rfl⟩
                try go_wp2_with fail
                refine hK.out _ _ ?_ (fun hHeld5 => ?_)
                · (try dsimp only); refine ⟨?_, ?_⟩ <;> first | (go_simp; done) | (exact cell_later (by assumption) (by go_simp))
                clear hK
                refine takeYes (i := 6) (d := 55) (v := ?_) rfl rfl (by kernel_rfl) (by kernel_rfl) (by kernel_rfl) (fun _ _ _ h => h) (by rfl) (by assumption) ?_ ?_
                rotate_left
                · intro w' hSw; (try dsimp only at hSw); go_simp; try exact rfl
                try simp only [List.setIfInBounds_toArray, List.set_cons_zero, List.set_cons_succ]
                refine takeYes (i := 7) (d := 56) (v := ?_) rfl rfl (by kernel_rfl) (by kernel_rfl) (by kernel_rfl) (fun _ _ _ h => h) (by rfl) (by assumption) ?_ ?_
                rotate_left
                · intro w' hSw; (try dsimp only at hSw); go_simp; try exact rfl
                try simp only [List.setIfInBounds_toArray, List.set_cons_zero, List.set_cons_succ]
                refine takeNo (i := 8) (d := 57) rfl rfl (by kernel_rfl) (by kernel_rfl) (by kernel_rfl) (fun _ _ _ h => h) (by rfl) (by assumption) ?_
                try simp only [List.setIfInBounds_toArray, List.set_cons_zero, List.set_cons_succ]
                refine takeNo (i := 9) (d := 58) rfl rfl (by kernel_rfl) (by kernel_rfl) (by kernel_rfl) (fun _ _ _ h => h) (by rfl) (by assumption) ?_
                try simp only [List.setIfInBounds_toArray, List.set_cons_zero, List.set_cons_succ]
                refine takeNo (i := 10) (d := 59) rfl rfl (by kernel_rfl) (by kernel_rfl) (by kernel_rfl) (fun _ _ _ h => h) (by rfl) (by assumption) ?_
                try simp only [List.setIfInBounds_toArray, List.set_cons_zero, List.set_cons_succ]
                refine takeNo (i := 11) (d := 60) rfl rfl (by kernel_rfl) (by kernel_rfl) (by kernel_rfl) (fun _ _ _ h => h) (by rfl) (by assumption) ?_
                try simp only [List.setIfInBounds_toArray, List.set_cons_zero, List.set_cons_succ]
                refine takeNo (i := 12) (d := 61) rfl rfl (by kernel_rfl) (by kernel_rfl) (by kernel_rfl) (fun _ _ _ h => h) (by rfl) (by assumption) ?_
                try simp only [List.setIfInBounds_toArray, List.set_cons_zero, List.set_cons_succ]
                refine takeNo (i := 13) (d := 62) rfl rfl (by kernel_rfl) (by kernel_rfl) (by kernel_rfl) (fun _ _ _ h => h) (by rfl) (by assumption) ?_
                try simp only [List.setIfInBounds_toArray, List.set_cons_zero, List.set_cons_succ]
                refine takeNo (i := 14) (d := 63) rfl rfl (by kernel_rfl) (by kernel_rfl) (by kernel_rfl) (fun _ _ _ h => h) (by rfl) (by assumption) ?_
                try simp only [List.setIfInBounds_toArray, List.set_cons_zero, List.set_cons_succ]
                refine takeNo (i := 15) (d := 64) rfl rfl (by kernel_rfl) (by kernel_rfl) (by kernel_rfl) (fun _ _ _ h => h) (by rfl) (by assumption) ?_
                try simp only [List.setIfInBounds_toArray, List.set_cons_zero, List.set_cons_succ]
                refine takeNo (i := 16) (d := 65) rfl rfl (by kernel_rfl) (by kernel_rfl) (by kernel_rfl) (fun _ _ _ h => h) (by rfl) (by assumption) ?_
                try simp only [List.setIfInBounds_toArray, List.set_cons_zero, List.set_cons_succ]
                refine wpAnyH_ready (rs := [17]) (by kernel_rfl) (by simp) ?_
                refine AllReadyH.cons rfl (fun K hK => ?_) AllReadyH.nil
                go_simp
                refine hK.out _ _ ?_ (fun hHeld17 => ?_)
                · (try dsimp only); refine ⟨?_, ?_⟩ <;> first | (go_simp; done) | (exact cell_later (by assumption) (by go_simp))
                clear hK
                refine takeYes (i := 18) (d := 67) (v := ?_) rfl rfl (by kernel_rfl) (by kernel_rfl) (by kernel_rfl) (fun _ _ _ h => h) (by rfl) (by assumption) ?_ ?_
                rotate_left
                · intro w' hSw; (try dsimp only at hSw); go_simp; try exact rfl
                try simp only [List.setIfInBounds_toArray, List.set_cons_zero, List.set_cons_succ]
                refine wpAnyH_done (by kernel_rfl) ?_ _
                go_wp2
                go_returns
                refine ⟨ret_bool ?_, by repeat (first | exact Below.refl _ _ | refine Below.drew ?_ | refine Below.alloc ?_ (by first | (simp; done) | (simp; omega) | omega) _ | refine Below.setCell ?_ (by first | (simp; done) | (simp; omega) | omega) _ | refine bstep (by assumption) (by first | (simp; done) | (simp; omega) | omega) ?_)⟩
                unfold okSch
                rw [HE.out, HS.out, HC.out, HE2.out, HS2.out, HF2.out]
                simp
              have HN2 : Hid (nameB m = true) := hnm2
              obtain ⟨hs, HH⟩ : ∃ hs, Hid (hasS (x.cs.take n) m = hs) := ⟨_, rfl⟩
              cases hs with
              | true =>
                go_wp2_with fail
                refine wp_region_held_drew (S := (fun w' => w'.cell? ⟨wo.heap.size, 1, none⟩ = some (.slice (some ⟨bc, oc, none⟩) x.cs.length cr) ∧ w'.cell? ⟨bc, oc + n, none⟩ = some (.string m))) (by kernel_rfl) ?_ (fun hHeld => ?_)
                · (try dsimp only); refine ⟨?_, ?_⟩ <;> first | (go_simp; done) | (exact cell_later (by assumption) (by go_simp))
                refine takeYes (i := 0) (d := 49) (v := ?_) rfl rfl (by kernel_rfl) (by kernel_rfl) (by kernel_rfl) (fun _ _ _ h => h) (by rfl) (by assumption) ?_ ?_
                rotate_left
                · intro w' hSw; (try dsimp only at hSw); go_simp; try exact rfl
                try simp only [List.setIfInBounds_toArray, List.set_cons_zero, List.set_cons_succ]
                refine takeYes (i := 1) (d := 50) (v := ?_) rfl rfl (by kernel_rfl) (by kernel_rfl) (by kernel_rfl) (fun _ _ _ h => h) (by rfl) (by assumption) ?_ ?_
                rotate_left
                · intro w' hSw; (try dsimp only at hSw); go_simp; try exact rfl
                try simp only [List.setIfInBounds_toArray, List.set_cons_zero, List.set_cons_succ]
                refine takeYes (i := 2) (d := 51) (v := ?_) rfl rfl (by kernel_rfl) (by kernel_rfl) (by kernel_rfl) (fun _ _ _ h => h) (by rfl) (by assumption) ?_ ?_
                rotate_left
                · intro w' hSw; (try dsimp only at hSw); go_simp; try exact rfl
                try simp only [List.setIfInBounds_toArray, List.set_cons_zero, List.set_cons_succ]
                refine takeYes (i := 3) (d := 52) (v := ?_) rfl rfl (by kernel_rfl) (by kernel_rfl) (by kernel_rfl) (fun _ _ _ h => h) (by rfl) (by assumption) ?_ ?_
                rotate_left
                · intro w' hSw; (try dsimp only at hSw); go_simp; try exact rfl
                try simp only [List.setIfInBounds_toArray, List.set_cons_zero, List.set_cons_succ]
                refine takeYes (i := 4) (d := 53) (v := ?_) rfl rfl (by kernel_rfl) (by kernel_rfl) (by kernel_rfl) (fun _ _ _ h => h) (by rfl) (by assumption) ?_ ?_
                rotate_left
                · intro w' hSw; (try dsimp only at hSw); go_simp; try exact rfl
                try simp only [List.setIfInBounds_toArray, List.set_cons_zero, List.set_cons_succ]
                refine wpAnyH_ready (rs := [5]) (by kernel_rfl) (by simp) ?_
                refine AllReadyH.cons rfl (fun K hK => ?_) AllReadyH.nil
                go_simp
                go_at_call 53
                refine (specName_any m _ hms).mono ?_
                rintro e w1 ⟨rfl, rfl⟩
                try go_wp2_with fail
                refine hK.out _ _ ?_ (fun hHeld5 => ?_)
                · (try dsimp only); refine ⟨?_, ?_⟩ <;> first | (go_simp; done) | (exact cell_later (by assumption) (by go_simp))
                clear hK
                refine takeYes (i := 6) (d := 55) (v := ?_) rfl rfl (by kernel_rfl) (by kernel_rfl) (by kernel_rfl) (fun _ _ _ h => h) (by rfl) (by assumption) ?_ ?_
                rotate_left
                · intro w' hSw; (try dsimp only at hSw); go_simp; try exact rfl
                try simp only [List.setIfInBounds_toArray, List.set_cons_zero, List.set_cons_succ]
                refine takeYes (i := 7) (d := 56) (v := ?_) rfl rfl (by kernel_rfl) (by kernel_rfl) (by kernel_rfl) (fun _ _ _ h => h) (by rfl) (by assumption) ?_ ?_
                rotate_left
                · intro w' hSw; (try dsimp only at hSw); go_simp; try exact rfl
                try simp only [List.setIfInBounds_toArray, List.set_cons_zero, List.set_cons_succ]
                refine takeYes (i := 8) (d := 57) (v := ?_) rfl rfl (by kernel_rfl) (by kernel_rfl) (by kernel_rfl) (fun _ _ _ h => h) (by rfl) (by assumption) ?_ ?_
                rotate_left
                · intro w' hSw; (try dsimp only at hSw); go_simp; try exact rfl
                try simp only [List.setIfInBounds_toArray, List.set_cons_zero, List.set_cons_succ]
                refine takeYes (i := 9) (d := 58) (v := ?_) rfl rfl (by kernel_rfl) (by kernel_rfl) (by kernel_rfl) (fun _ _ _ h => h) (by rfl) (by assumption) ?_ ?_
                rotate_left
                · intro w' hSw; (try dsimp only at hSw); go_simp; try exact rfl
                try simp only [List.setIfInBounds_toArray, List.set_cons_zero, List.set_cons_succ]
                refine takeYes (i := 10) (d := 59) (v := ?_) rfl rfl (by kernel_rfl) (by kernel_rfl) (by kernel_rfl) (fun _ _ _ h => h) (by rfl) (by assumption) ?_ ?_
                rotate_left
                · intro w' hSw; (try dsimp only at hSw); go_simp; try exact rfl
                try simp only [List.setIfInBounds_toArray, List.set_cons_zero, List.set_cons_succ]
                refine takeYes (i := 11) (d := 60) (v := ?_) rfl rfl (by kernel_rfl) (by kernel_rfl) (by kernel_rfl) (fun _ _ _ h => h) (by rfl) (by assumption) ?_ ?_
                rotate_left
                · intro w' hSw; (try dsimp only at hSw); go_simp; try exact rfl
                try simp only [List.setIfInBounds_toArray, List.set_cons_zero, List.set_cons_succ]
                refine takeYes (i := 12) (d := 61) (v := ?_) rfl rfl (by kernel_rfl) (by kernel_rfl) (by kernel_rfl) (fun _ _ _ h => h) (by rfl) (by assumption) ?_ ?_
                rotate_left
                · intro w' hSw; (try dsimp only at hSw); go_simp; try exact rfl
                try simp only [List.setIfInBounds_toArray, List.set_cons_zero, List.set_cons_succ]
                refine takeYes (i := 13) (d := 62) (v := ?_) rfl rfl (by kernel_rfl) (by kernel_rfl) (by kernel_rfl) (fun _ _ _ h => h) (by rfl) (by assumption) ?_ ?_
                rotate_left
                · intro w' hSw; (try dsimp only at hSw); go_simp; try exact rfl
                try simp only [List.setIfInBounds_toArray, List.set_cons_zero, List.set_cons_succ]
                refine takeYes (i := 14) (d := 63) (v := ?_) rfl rfl (by kernel_rfl) (by kernel_rfl) (by kernel_rfl) (fun _ _ _ h => h) (by rfl) (by assumption) ?_ ?_
                rotate_left
                · intro w' hSw; (try dsimp only at hSw); go_simp; try exact rfl
                try simp only [List.setIfInBounds_toArray, List.set_cons_zero, List.set_cons_succ]
                refine takeYes (i := 15) (d := 64) (v := ?_) rfl rfl (by kernel_rfl) (by kernel_rfl) (by kernel_rfl) (fun _ _ _ h => h) (by rfl) (by assumption) ?_ ?_
                rotate_left
                · intro w' hSw; (try dsimp only at hSw); go_simp; try exact rfl
                try simp only [List.setIfInBounds_toArray, List.set_cons_zero, List.set_cons_succ]
                refine takeYes (i := 16) (d := 65) (v := ?_) rfl rfl (by kernel_rfl) (by kernel_rfl) (by kernel_rfl) (fun _ _ _ h => h) (by rfl) (by assumption) ?_ ?_
                rotate_left
                · intro w' hSw; (try dsimp only at hSw); go_simp; try exact rfl
                try simp only [List.setIfInBounds_toArray, List.set_cons_zero, List.set_cons_succ]
                refine wpAnyH_ready (rs := [17]) (by kernel_rfl) (by simp) ?_
                refine AllReadyH.cons rfl (fun K hK => ?_) AllReadyH.nil
                go_simp
                go_at_call 88
                refine Calls.mono (l03HasF_any _ _ g' m _ (hcut.below (by repeat (first | exact Below.refl _ _ | refine Below.drew ?_ | refine Below.alloc ?_ (by first | (simp; done) | (simp; omega) | omega) _ | refine Below.setCell ?_ (by first | (simp; done) | (simp; omega) | omega) _ | refine bstep (by assumption) (by first | (simp; done) | (simp; omega) | omega) ?_)))) ?_
                rw [HH.out]
                rintro e w1 ⟨rfl, rfl⟩
                try go_wp2_with fail
                refine hK.out _ _ ?_ (fun hHeld17 => ?_)
                · (try dsimp only); refine ⟨?_, ?_⟩ <;> first | (go_simp; done) | (exact cell_later (by assumption) (by go_simp))
                clear hK
                refine takeYes (i := 18) (d := 67) (v := ?_) rfl rfl (by kernel_rfl) (by kernel_rfl) (by kernel_rfl) (fun _ _ _ h => h) (by rfl) (by assumption) ?_ ?_
                rotate_left
                · intro w' hSw; (try dsimp only at hSw); go_simp; try exact rfl
                try simp only [List.setIfInBounds_toArray, List.set_cons_zero, List.set_cons_succ]
                refine wpAnyH_done (by kernel_rfl) ?_ _
                go_wp2
                go_returns
                refine ⟨ret_bool ?_, by repeat (first | exact Below.refl _ _ | refine Below.drew ?_ | refine Below.alloc ?_ (by first | (simp; done) | (simp; omega) | omega) _ | refine Below.setCell ?_ (by first | (simp; done) | (simp; omega) | omega) _ | refine bstep (by assumption) (by first | (simp; done) | (simp; omega) | omega) ?_)⟩
                unfold okSch
                rw [HE.out, HS.out, HC.out, HE2.out, HS2.out, HN2.out, HH.out]
                simp
              | false =>
                go_wp2_with fail
                refine wp_region_held_drew (S := (fun w' => w'.cell? ⟨wo.heap.size, 1, none⟩ = some (.slice (some ⟨bc, oc, none⟩) x.cs.length cr) ∧ w'.cell? ⟨bc, oc + n, none⟩ = some (.string m))) (by kernel_rfl) ?_ (fun hHeld => ?_)
                · (try dsimp only); refine ⟨?_, ?_⟩ <;> first | (go_simp; done) | (exact cell_later (by assumption) (by go_simp))
                refine takeYes (i := 0) (d := 49) (v := ?_) rfl rfl (by kernel_rfl) (by kernel_rfl) (by kernel_rfl) (fun _ _ _ h => h) (by rfl) (by assumption) ?_ ?_
                rotate_left
                · intro w' hSw; (try dsimp only at hSw); go_simp; try exact rfl
                try simp only [List.setIfInBounds_toArray, List.set_cons_zero, List.set_cons_succ]
                refine takeYes (i := 1) (d := 50) (v := ?_) rfl rfl (by kernel_rfl) (by kernel_rfl) (by kernel_rfl) (fun _ _ _ h => h) (by rfl) (by assumption) ?_ ?_
                rotate_left
                · intro w' hSw; (try dsimp only at hSw); go_simp; try exact rfl
                try simp only [List.setIfInBounds_toArray, List.set_cons_zero, List.set_cons_succ]
                refine takeYes (i := 2) (d := 51) (v := ?_) rfl rfl (by kernel_rfl) (by kernel_rfl) (by kernel_rfl) (fun _ _ _ h => h) (by rfl) (by assumption) ?_ ?_
                rotate_left
                · intro w' hSw; (try dsimp only at hSw); go_simp; try exact rfl
                try simp only [List.setIfInBounds_toArray, List.set_cons_zero, List.set_cons_succ]
                refine takeYes (i := 3) (d := 52) (v := ?_) rfl rfl (by kernel_rfl) (by kernel_rfl) (by kernel_rfl) (fun _ _ _ h => h) (by rfl) (by assumption) ?_ ?_
                rotate_left
                · intro w' hSw; (try dsimp only at hSw); go_simp; try exact rfl
                try simp only [List.setIfInBounds_toArray, List.set_cons_zero, List.set_cons_succ]
                refine takeYes (i := 4) (d := 53) (v := ?_) rfl rfl (by kernel_rfl) (by kernel_rfl) (by kernel_rfl) (fun _ _ _ h => h) (by rfl) (by assumption) ?_ ?_
                rotate_left
                · intro w' hSw; (try dsimp only at hSw); go_simp; try exact rfl
                try simp only [List.setIfInBounds_toArray, List.set_cons_zero, List.set_cons_succ]
                refine wpAnyH_ready (rs := [5]) (by kernel_rfl) (by simp) ?_
                refine AllReadyH.cons rfl (fun K hK => ?_) AllReadyH.nil
                go_simp
                go_at_call 53
                refine (specName_any m _ hms).mono ?_
                rintro e w1 ⟨rfl, rfl⟩
                try go_wp2_with fail
                refine hK.out _ _ ?_ (fun hHeld5 => ?_)
                · (try dsimp only); refine ⟨?_, ?_⟩ <;> first | (go_simp; done) | (exact cell_later (by assumption) (by go_simp))
                clear hK
                refine takeYes (i := 6) (d := 55) (v := ?_) rfl rfl (by kernel_rfl) (by kernel_rfl) (by kernel_rfl) (fun _ _ _ h => h) (by rfl) (by assumption) ?_ ?_
                rotate_left
                · intro w' hSw; (try dsimp only at hSw); go_simp; try exact rfl
                try simp only [List.setIfInBounds_toArray, List.set_cons_zero, List.set_cons_succ]
                refine takeYes (i := 7) (d := 56) (v := ?_) rfl rfl (by kernel_rfl) (by kernel_rfl) (by kernel_rfl) (fun _ _ _ h => h) (by rfl) (by assumption) ?_ ?_
                rotate_left
                · intro w' hSw; (try dsimp only at hSw); go_simp; try exact rfl
                try simp only [List.setIfInBounds_toArray, List.set_cons_zero, List.set_cons_succ]
                refine takeYes (i := 8) (d := 57) (v := ?_) rfl rfl (by kernel_rfl) (by kernel_rfl) (by kernel_rfl) (fun _ _ _ h => h) (by rfl) (by assumption) ?_ ?_
                rotate_left
                · intro w' hSw; (try dsimp only at hSw); go_simp; try exact rfl
                try simp only [List.setIfInBounds_toArray, List.set_cons_zero, List.set_cons_succ]
                refine takeYes (i := 9) (d := 58) (v := ?_) rfl rfl (by kernel_rfl) (by kernel_rfl) (by kernel_rfl) (fun _ _ _ h => h) (by rfl) (by assumption) ?_ ?_
                rotate_left
                · intro w' hSw; (try dsimp only at hSw); go_simp; try exact rfl
                try simp only [List.setIfInBounds_toArray, List.set_cons_zero, List.set_cons_succ]
                refine takeYes (i := 10) (d := 59) (v := ?_) rfl rfl (by kernel_rfl) (by kernel_rfl) (by kernel_rfl) (fun _ _ _ h => h) (by rfl) (by assumption) ?_ ?_
                rotate_left
                · intro w' hSw; (try dsimp only at hSw); go_simp; try exact rfl
                try simp only [List.setIfInBounds_toArray, List.set_cons_zero, List.set_cons_succ]
                refine takeYes (i := 11) (d := 60) (v := ?_) rfl rfl (by kernel_rfl) (by kernel_rfl) (by kernel_rfl) (fun _ _ _ h => h) (by rfl) (by assumption) ?_ ?_
                rotate_left
                · intro w' hSw; (try dsimp only at hSw); go_simp; try exact rfl
                try simp only [List.setIfInBounds_toArray, List.set_cons_zero, List.set_cons_succ]
                refine takeYes (i := 12) (d := 61) (v := ?_) rfl rfl (by kernel_rfl) (by kernel_rfl) (by kernel_rfl) (fun _ _ _ h => h) (by rfl) (by assumption) ?_ ?_
                rotate_left
                · intro w' hSw; (try dsimp only at hSw); go_simp; try exact rfl
                try simp only [List.setIfInBounds_toArray, List.set_cons_zero, List.set_cons_succ]
                refine takeYes (i := 13) (d := 62) (v := ?_) rfl rfl (by kernel_rfl) (by kernel_rfl) (by kernel_rfl) (fun _ _ _ h => h) (by rfl) (by assumption) ?_ ?_
                rotate_left
                · intro w' hSw; (try dsimp only at hSw); go_simp; try exact rfl
                try simp only [List.setIfInBounds_toArray, List.set_cons_zero, List.set_cons_succ]
                refine takeYes (i := 14) (d := 63) (v := ?_) rfl rfl (by kernel_rfl) (by kernel_rfl) (by kernel_rfl) (fun _ _ _ h => h) (by rfl) (by assumption) ?_ ?_
                rotate_left
                · intro w' hSw; (try dsimp only at hSw); go_simp; try exact rfl
                try simp only [List.setIfInBounds_toArray, List.set_cons_zero, List.set_cons_succ]
                refine takeYes (i := 15) (d := 64) (v := ?_) rfl rfl (by kernel_rfl) (by kernel_rfl) (by kernel_rfl) (fun _ _ _ h => h) (by rfl) (by assumption) ?_ ?_
                rotate_left
                · intro w' hSw; (try dsimp only at hSw); go_simp; try exact rfl
                try simp only [List.setIfInBounds_toArray, List.set_cons_zero, List.set_cons_succ]
                refine takeYes (i := 16) (d := 65) (v := ?_) rfl rfl (by kernel_rfl) (by kernel_rfl) (by kernel_rfl) (fun _ _ _ h => h) (by rfl) (by assumption) ?_ ?_
                rotate_left
                · intro w' hSw; (try dsimp only at hSw); go_simp; try exact rfl
                try simp only [List.setIfInBounds_toArray, List.set_cons_zero, List.set_cons_succ]
                refine wpAnyH_ready (rs := [17]) (by kernel_rfl) (by simp) ?_
                refine AllReadyH.cons rfl (fun K hK => ?_) AllReadyH.nil
                go_simp
                go_at_call 88
                refine Calls.mono (l03HasF_any _ _ g' m _ (hcut.below (by repeat (first | exact Below.refl _ _ | refine Below.drew ?_ | refine Below.alloc ?_ (by first | (simp; done) | (simp; omega) | omega) _ | refine Below.setCell ?_ (by first | (simp; done) | (simp; omega) | omega) _ | refine bstep (by assumption) (by first | (simp; done) | (simp; omega) | omega) ?_)))) ?_
                rw [HH.out]
                rintro e w1 ⟨rfl, rfl⟩
                try go_wp2_with fail
                refine hK.out _ _ ?_ (fun hHeld17 => ?_)
                · (try dsimp only); refine ⟨?_, ?_⟩ <;> first | (go_simp; done) | (exact cell_later (by assumption) (by go_simp))
                clear hK
                refine takeYes (i := 18) (d := 67) (v := ?_) rfl rfl (by kernel_rfl) (by kernel_rfl) (by kernel_rfl) (fun _ _ _ h => h) (by rfl) (by assumption) ?_ ?_
                rotate_left
                · intro w' hSw; (try dsimp only at hSw); go_simp; try exact rfl
                try simp only [List.setIfInBounds_toArray, List.set_cons_zero, List.set_cons_succ]
                refine wpAnyH_done (by kernel_rfl) ?_ _
                go_wp2
                refine ⟨⟨n + 1, hnl, by simp, by (repeat (first | exact hbi | refine Below.drew ?_)), ?_⟩, by simp [intOf]; omega⟩
                rw [HE2.out, HS2.out, HN2.out, HH.out]
                simp
            · have HC : Hid (okCols x.cs = true) := by
                show okCols x.cs = true
                rw [okCols_cols hin, HE2.out, List.drop_eq_nil_of_le (by omega)]; rfl
              clear hR5 hR hxw hin q1
              go_wp2_with fail
              refine ⟨⟨1, 1, hlt, rfl, by simp, by (repeat (first | exact hbwi | refine Below.drew ?_)), ?_⟩, by simp [intOf]; omega⟩
              rw [HE.out, HS.out, hnm, HC.out, prevH_zero]
              simp [okPrevH]
      · obtain ⟨j, rfl⟩ : ∃ j, k = j + 1 := ⟨k - 1, by omega⟩
        obtain rfl : q = (j : Int) + 1 := by omega
        obtain ⟨y, t, gy, hy, d0, d1, hT, _⟩ := hL.at hblt hb (show j < rs.length by omega)
        have HP : Hid (prevH rs (j + 1) = some y) := prevH_succ hy
        have HQ : Hid (okPrevH (prevH rs (j + 1)) x = Op.bytesLess y.s.toList x.s.toList) := by rw [HP.out]; rfl
        have hw1 : IntKind.i64.wrap (j : Int) = j := by rw [IntKind.wrap_i64]; omega
        have hw2 : IntKind.i64.wrap ((j : Int) + 1 - 1) = j := by rw [IntKind.wrap_i64]; omega
        have hi0 : (0 : Int) ≤ j := by omega
        have hi1 : (j : Int) < rs.length := by omega
        have hi2 : (0 : Int) < (j : Int) + 1 := by omega
        clear ha hw hL hx hy hq d1 hT
        cases hcmp : Op.bytesLess y.s.toList x.s.toList with
        | false =>
          have hor : (Op.bytesLess x.s.toList y.s.toList || x.s.toList == y.s.toList) = true := by
            cases h1 : Op.bytesLess x.s.toList y.s.toList with
            | true => rfl
            | false =>
              cases h2 : x.s.toList == y.s.toList with
              | true => rfl
              | false => have := bless_total h1 (by simpa using h2); rw [hcmp] at this; cases this
          go_wp2_with fail
          refine wp_region_held_drew (S := (fun w' => w'.cell? ⟨wo.heap.size, 0, none⟩ = some (.string x.s) ∧ w'.cell? ⟨wo.heap.size, 1, none⟩ = some (.slice ur x.cs.length cr) ∧ w'.cell? ⟨b, o + j * 2, none⟩ = some (.string y.s))) (by kernel_rfl) ?_ (fun hHeld => ?_)
          · (try dsimp only); refine ⟨?_, ?_, ?_⟩ <;> first | (go_simp; done) | (exact cell_later (by assumption) (by go_simp))
          refine takeYes (i := 0) (d := 16) (v := ?_) rfl rfl (by kernel_rfl) (by kernel_rfl) (by kernel_rfl) (fun _ _ _ h => h) (by rfl) (by assumption) ?_ ?_
          rotate_left
          · intro w' hSw; (try dsimp only at hSw); go_simp; try exact rfl
          try simp only [List.setIfInBounds_toArray, List.set_cons_zero, List.set_cons_succ]
          refine takeYes (i := 1) (d := 17) (v := ?_) rfl rfl (by kernel_rfl) (by kernel_rfl) (by kernel_rfl) (fun _ _ _ h => h) (by rfl) (by assumption) ?_ ?_
          rotate_left
          · intro w' hSw; (try dsimp only at hSw); go_simp; try exact rfl
          try simp only [List.setIfInBounds_toArray, List.set_cons_zero, List.set_cons_succ]
          refine wpAnyH_ready (rs := [2]) (by kernel_rfl) (by simp) ?_
          refine AllReadyH.cons rfl (fun K hK => ?_) AllReadyH.nil
          go_simp
          go_at_call 53
          refine (specName_any x.s _ hxs).mono ?_
          rintro e w1 ⟨rfl, rfl⟩
          try go_wp2_with fail
          refine hK.out _ _ ?_ (fun hHeld2 => ?_)
          · (try dsimp only); refine ⟨?_, ?_, ?_⟩ <;> first | (go_simp; done) | (exact cell_later (by assumption) (by go_simp))
          clear hK
          refine takeYes (i := 3) (d := 19) (v := ?_) rfl rfl (by kernel_rfl) (by kernel_rfl) (by kernel_rfl) (fun _ _ _ h => h) (by rfl) (by assumption) ?_ ?_
          rotate_left
          · intro w' hSw; (try dsimp only at hSw); go_simp; try exact rfl
          try simp only [List.setIfInBounds_toArray, List.set_cons_zero, List.set_cons_succ]
          refine takeYes (i := 4) (d := 20) (v := ?_) rfl rfl (by kernel_rfl) (by kernel_rfl) (by kernel_rfl) (fun _ _ _ h => h) (by rfl) (by assumption) ?_ ?_
          rotate_left
          · intro w' hSw; (try dsimp only at hSw); go_simp; try exact rfl
          try simp only [List.setIfInBounds_toArray, List.set_cons_zero, List.set_cons_succ]
          refine takeYes (i := 5) (d := 21) (v := ?_) rfl rfl (by kernel_rfl) (by kernel_rfl) (by kernel_rfl) (fun _ _ _ h => h) (by rfl) (by assumption) ?_ ?_
          rotate_left
          · intro w' hSw; (try dsimp only at hSw); go_simp; try exact rfl
          try simp only [List.setIfInBounds_toArray, List.set_cons_zero, List.set_cons_succ]
          refine takeYes (i := 6) (d := 22) (v := ?_) rfl rfl (by kernel_rfl) (by kernel_rfl) (by kernel_rfl) (fun _ _ _ h => h) (by rfl) (by assumption) ?_ ?_
          rotate_left
          · intro w' hSw; (try dsimp only at hSw); go_simp; try exact rfl
          try simp only [List.setIfInBounds_toArray, List.set_cons_zero, List.set_cons_succ]
          refine takeYes (i := 7) (d := 23) (v := ?_) rfl rfl (by kernel_rfl) (by kernel_rfl) (by kernel_rfl) (fun _ _ _ h => h) (by rfl) (by assumption) ?_ ?_
          rotate_left
          · intro w' hSw; (try dsimp only at hSw); go_simp; try exact rfl
          try simp only [List.setIfInBounds_toArray, List.set_cons_zero, List.set_cons_succ]
          refine takeYes (i := 8) (d := 24) (v := ?_) rfl rfl (by kernel_rfl) (by kernel_rfl) (by kernel_rfl) (fun _ _ _ h => h) (by rfl) (by assumption) ?_ ?_
          rotate_left
          · intro w' hSw; (try dsimp only at hSw); go_simp; try exact rfl
          try simp only [List.setIfInBounds_toArray, List.set_cons_zero, List.set_cons_succ]
          refine takeYes (i := 9) (d := 25) (v := ?_) rfl rfl (by kernel_rfl) (by kernel_rfl) (by kernel_rfl) (fun _ _ _ h => h) (by rfl) (by assumption) ?_ ?_
          rotate_left
          · intro w' hSw; (try dsimp only at hSw); go_simp; try exact rfl
          try simp only [List.setIfInBounds_toArray, List.set_cons_zero, List.set_cons_succ]
          refine takeYes (i := 10) (d := 26) (v := ?_) rfl rfl (by kernel_rfl) (by kernel_rfl) (by kernel_rfl) (fun _ _ _ h => h) (by rfl) (by assumption) ?_ ?_
          rotate_left
          · intro w' hSw; (try dsimp only at hSw); go_simp; try exact rfl
          try simp only [List.setIfInBounds_toArray, List.set_cons_zero, List.set_cons_succ]
          refine takeYes (i := 11) (d := 27) (v := ?_) rfl rfl (by kernel_rfl) (by kernel_rfl) (by kernel_rfl) (fun _ _ _ h => h) (by rfl) (by assumption) ?_ ?_
          rotate_left
          · intro w' hSw; (try dsimp only at hSw); go_simp; try exact rfl
          try simp only [List.setIfInBounds_toArray, List.set_cons_zero, List.set_cons_succ]
          refine takeYes (i := 12) (d := 28) (v := ?_) rfl rfl (by kernel_rfl) (by kernel_rfl) (by kernel_rfl) (fun _ _ _ h => h) (by rfl) (by assumption) ?_ ?_
          rotate_left
          · intro w' hSw; (try dsimp only at hSw); go_simp; try exact rfl
          try simp only [List.setIfInBounds_toArray, List.set_cons_zero, List.set_cons_succ]
          refine takeYes (i := 13) (d := 29) (v := ?_) rfl rfl (by kernel_rfl) (by kernel_rfl) (by kernel_rfl) (fun _ _ _ h => h) (by rfl) (by assumption) ?_ ?_
          rotate_left
          · intro w' hSw; (try dsimp only at hSw); go_simp; try exact rfl
          try simp only [List.setIfInBounds_toArray, List.set_cons_zero, List.set_cons_succ]
          refine takeYes (i := 14) (d := 30) (v := ?_) rfl rfl (by kernel_rfl) (by kernel_rfl) (by kernel_rfl) (fun _ _ _ h => h) (by rfl) (by assumption) ?_ ?_
          rotate_left
          · intro w' hSw; (try dsimp only at hSw); go_simp; try exact rfl
          try simp only [List.setIfInBounds_toArray, List.set_cons_zero, List.set_cons_succ]
          refine takeYes (i := 15) (d := 31) (v := ?_) rfl rfl (by kernel_rfl) (by kernel_rfl) (by kernel_rfl) (fun _ _ _ h => h) (by rfl) (by assumption) ?_ ?_
          rotate_left
          · intro w' hSw; (try dsimp only at hSw); go_simp; try exact rfl
          try simp only [List.setIfInBounds_toArray, List.set_cons_zero, List.set_cons_succ]
          refine takeYes (i := 16) (d := 32) (v := ?_) rfl rfl (by kernel_rfl) (by kernel_rfl) (by kernel_rfl) (fun _ _ _ h => h) (by rfl) (by assumption) ?_ ?_
          rotate_left
          · intro w' hSw; (try dsimp only at hSw); go_simp; try exact rfl
          try simp only [List.setIfInBounds_toArray, List.set_cons_zero, List.set_cons_succ]
          refine takeYes (i := 17) (d := 33) (v := ?_) rfl rfl (by kernel_rfl) (by kernel_rfl) (by kernel_rfl) (fun _ _ _ h => h) (by rfl) (by assumption) ?_ ?_
          rotate_left
          · intro w' hSw; (try dsimp only at hSw); go_simp; try exact rfl
          try simp only [List.setIfInBounds_toArray, List.set_cons_zero, List.set_cons_succ]
          refine takeYes (i := 18) (d := 34) (v := ?_) rfl rfl (by kernel_rfl) (by kernel_rfl) (by kernel_rfl) (fun _ _ _ h => h) (by rfl) (by assumption) ?_ ?_
          rotate_left
          · intro w' hSw; (try dsimp only at hSw); go_simp; try exact rfl
          try simp only [List.setIfInBounds_toArray, List.set_cons_zero, List.set_cons_succ]
          refine takeYes (i := 19) (d := 35) (v := ?_) rfl rfl (by kernel_rfl) (by kernel_rfl) (by kernel_rfl) (fun _ _ _ h => h) (by rfl) (by assumption) ?_ ?_
          rotate_left
          · intro w' hSw; (try dsimp only at hSw); go_simp; try exact rfl
          try simp only [List.setIfInBounds_toArray, List.set_cons_zero, List.set_cons_succ]
          refine takeNo (i := 20) (d := 36) rfl rfl (by kernel_rfl) (by kernel_rfl) (by kernel_rfl) (fun _ _ _ h => h) (by rfl) (by assumption) ?_
          try simp only [List.setIfInBounds_toArray, List.set_cons_zero, List.set_cons_succ]
          refine takeNo (i := 21) (d := 37) rfl rfl (by kernel_rfl) (by kernel_rfl) (by kernel_rfl) (fun _ _ _ h => h) (by rfl) (by assumption) ?_
          try simp only [List.setIfInBounds_toArray, List.set_cons_zero, List.set_cons_succ]
          refine takeNo (i := 22) (d := 38) rfl rfl (by kernel_rfl) (by kernel_rfl) (by kernel_rfl) (fun _ _ _ h => h) (by rfl) (by assumption) ?_
          try simp only [List.setIfInBounds_toArray, List.set_cons_zero, List.set_cons_succ]
          refine wpAnyH_ready (rs := [23]) (by kernel_rfl) (by simp) ?_
          refine AllReadyH.cons rfl (fun K hK => ?_) AllReadyH.nil
          go_simp
          refine hK.out _ _ ?_ (fun hHeld23 => ?_)
          · (try dsimp only); refine ⟨?_, ?_, ?_⟩ <;> first | (go_simp; done) | (exact cell_later (by assumption) (by go_simp))
          clear hK
          refine takeNo (i := 24) (d := 40) rfl rfl (by kernel_rfl) (by kernel_rfl) (by kernel_rfl) (fun _ _ _ h => h) (by rfl) (by assumption) ?_
          try simp only [List.setIfInBounds_toArray, List.set_cons_zero, List.set_cons_succ]
          refine takeYes (i := 25) (d := 41) (v := ?_) rfl rfl (by kernel_rfl) (by kernel_rfl) (by kernel_rfl) (fun _ _ _ h => h) (by rfl) (by assumption) ?_ ?_
          rotate_left
          · intro w' hSw; (try dsimp only at hSw); go_simp; try exact rfl
          try simp only [List.setIfInBounds_toArray, List.set_cons_zero, List.set_cons_succ]
          refine wpAnyH_done (by kernel_rfl) ?_ _
          go_wp2
          go_returns
          refine ⟨ret_bool ?_, by repeat (first | exact Below.refl _ _ | refine Below.drew ?_ | refine Below.alloc ?_ (by first | (simp; done) | (simp; omega) | omega) _ | refine Below.setCell ?_ (by first | (simp; done) | (simp; omega) | omega) _ | refine bstep (by assumption) (by first | (simp; done) | (simp; omega) | omega) ?_)⟩
          unfold okSch
          rw [HE.out, HS.out, HQ.out, hcmp]
          simp
        | true =>
          have hno : Op.bytesLess x.s.toList y.s.toList = false := bless_asymm hcmp
          have hne : (x.s.toList == y.s.toList) = false := by
            cases h2 : x.s.toList == y.s.toList with
            | false => rfl
            | true => rw [beq_iff_eq] at h2; rw [h2, bless_irrefl] at hcmp; cases hcmp
          cases hin : inB x.cs.length 1 12 with
          | false =>
            go_wp2_with fail
            refine wp_region_held_drew (S := (fun w' => w'.cell? ⟨wo.heap.size, 0, none⟩ = some (.string x.s) ∧ w'.cell? ⟨wo.heap.size, 1, none⟩ = some (.slice ur x.cs.length cr) ∧ w'.cell? ⟨b, o + j * 2, none⟩ = some (.string y.s))) (by kernel_rfl) ?_ (fun hHeld => ?_)
            · (try dsimp only); refine ⟨?_, ?_, ?_⟩ <;> first | (go_simp; done) | (exact cell_later (by assumption) (by go_simp))
            refine takeYes (i := 0) (d := 16) (v := ?_) rfl rfl (by kernel_rfl) (by kernel_rfl) (by kernel_rfl) (fun _ _ _ h => h) (by rfl) (by assumption) ?_ ?_
            rotate_left
            · intro w' hSw; (try dsimp only at hSw); go_simp; try exact rfl
            try simp only [List.setIfInBounds_toArray, List.set_cons_zero, List.set_cons_succ]
            refine takeYes (i := 1) (d := 17) (v := ?_) rfl rfl (by kernel_rfl) (by kernel_rfl) (by kernel_rfl) (fun _ _ _ h => h) (by rfl) (by assumption) ?_ ?_
            rotate_left
            · intro w' hSw; (try dsimp only at hSw); go_simp; try exact rfl
            try simp only [List.setIfInBounds_toArray, List.set_cons_zero, List.set_cons_succ]
            refine wpAnyH_ready (rs := [2]) (by kernel_rfl) (by simp) ?_
            refine AllReadyH.cons rfl (fun K hK => ?_) AllReadyH.nil
            go_simp
            go_at_call 53
            refine (specName_any x.s _ hxs).mono ?_
            rintro e w1 ⟨rfl, rfl⟩
            try go_wp2_with fail
            refine hK.out _ _ ?_ (fun hHeld2 => ?_)
            · (try dsimp only); refine ⟨?_, ?_, ?_⟩ <;> first | (go_simp; done) | (exact cell_later (by assumption) (by go_simp))
            clear hK
            refine takeYes (i := 3) (d := 19) (v := ?_) rfl rfl (by kernel_rfl) (by kernel_rfl) (by kernel_rfl) (fun _ _ _ h => h) (by rfl) (by assumption) ?_ ?_
            rotate_left
            · intro w' hSw; (try dsimp only at hSw); go_simp; try exact rfl
            try simp only [List.setIfInBounds_toArray, List.set_cons_zero, List.set_cons_succ]
            refine takeYes (i := 4) (d := 20) (v := ?_) rfl rfl (by kernel_rfl) (by kernel_rfl) (by kernel_rfl) (fun _ _ _ h => h) (by rfl) (by assumption) ?_ ?_
            rotate_left
            · intro w' hSw; (try dsimp only at hSw); go_simp; try exact rfl
            try simp only [List.setIfInBounds_toArray, List.set_cons_zero, List.set_cons_succ]
            refine takeYes (i := 5) (d := 21) (v := ?_) rfl rfl (by kernel_rfl) (by kernel_rfl) (by kernel_rfl) (fun _ _ _ h => h) (by rfl) (by assumption) ?_ ?_
            rotate_left
            · intro w' hSw; (try dsimp only at hSw); go_simp; try exact rfl
            try simp only [List.setIfInBounds_toArray, List.set_cons_zero, List.set_cons_succ]
            refine takeYes (i := 6) (d := 22) (v := ?_) rfl rfl (by kernel_rfl) (by kernel_rfl) (by kernel_rfl) (fun _ _ _ h => h) (by rfl) (by assumption) ?_ ?_
            rotate_left
            · intro w' hSw; (try dsimp only at hSw); go_simp; try exact rfl
            try simp only [List.setIfInBounds_toArray, List.set_cons_zero, List.set_cons_succ]
            refine takeYes (i := 7) (d := 23) (v := ?_) rfl rfl (by kernel_rfl) (by kernel_rfl) (by kernel_rfl) (fun _ _ _ h => h) (by rfl) (by assumption) ?_ ?_
            rotate_left
            · intro w' hSw; (try dsimp only at hSw); go_simp; try exact rfl
            try simp only [List.setIfInBounds_toArray, List.set_cons_zero, List.set_cons_succ]
            refine takeYes (i := 8) (d := 24) (v := ?_) rfl rfl (by kernel_rfl) (by kernel_rfl) (by kernel_rfl) (fun _ _ _ h => h) (by rfl) (by assumption) ?_ ?_
            rotate_left
            · intro w' hSw; (try dsimp only at hSw); go_simp; try exact rfl
            try simp only [List.setIfInBounds_toArray, List.set_cons_zero, List.set_cons_succ]
            refine takeYes (i := 9) (d := 25) (v := ?_) rfl rfl (by kernel_rfl) (by kernel_rfl) (by kernel_rfl) (fun _ _ _ h => h) (by rfl) (by assumption) ?_ ?_
            rotate_left
            · intro w' hSw; (try dsimp only at hSw); go_simp; try exact rfl
            try simp only [List.setIfInBounds_toArray, List.set_cons_zero, List.set_cons_succ]
            refine takeYes (i := 10) (d := 26) (v := ?_) rfl rfl (by kernel_rfl) (by kernel_rfl) (by kernel_rfl) (fun _ _ _ h => h) (by rfl) (by assumption) ?_ ?_
            rotate_left
            · intro w' hSw; (try dsimp only at hSw); go_simp; try exact rfl
            try simp only [List.setIfInBounds_toArray, List.set_cons_zero, List.set_cons_succ]
            refine takeYes (i := 11) (d := 27) (v := ?_) rfl rfl (by kernel_rfl) (by kernel_rfl) (by kernel_rfl) (fun _ _ _ h => h) (by rfl) (by assumption) ?_ ?_
            rotate_left
            · intro w' hSw; (try dsimp only at hSw); go_simp; try exact rfl
            try simp only [List.setIfInBounds_toArray, List.set_cons_zero, List.set_cons_succ]
            refine takeYes (i := 12) (d := 28) (v := ?_) rfl rfl (by kernel_rfl) (by kernel_rfl) (by kernel_rfl) (fun _ _ _ h => h) (by rfl) (by assumption) ?_ ?_
            rotate_left
            · intro w' hSw; (try dsimp only at hSw); go_simp; try exact rfl
            try simp only [List.setIfInBounds_toArray, List.set_cons_zero, List.set_cons_succ]
            refine takeYes (i := 13) (d := 29) (v := ?_) rfl rfl (by kernel_rfl) (by kernel_rfl) (by kernel_rfl) (fun _ _ _ h => h) (by rfl) (by assumption) ?_ ?_
            rotate_left
            · intro w' hSw; (try dsimp only at hSw); go_simp; try exact rfl
            try simp only [List.setIfInBounds_toArray, List.set_cons_zero, List.set_cons_succ]
            refine takeYes (i := 14) (d := 30) (v := ?_) rfl rfl (by kernel_rfl) (by kernel_rfl) (by kernel_rfl) (fun _ _ _ h => h) (by rfl) (by assumption) ?_ ?_
            rotate_left
            · intro w' hSw; (try dsimp only at hSw); go_simp; try exact rfl
            try simp only [List.setIfInBounds_toArray, List.set_cons_zero, List.set_cons_succ]
            refine takeYes (i := 15) (d := 31) (v := ?_) rfl rfl (by kernel_rfl) (by kernel_rfl) (by kernel_rfl) (fun _ _ _ h => h) (by rfl) (by assumption) ?_ ?_
            rotate_left
            · intro w' hSw; (try dsimp only at hSw); go_simp; try exact rfl
            try simp only [List.setIfInBounds_toArray, List.set_cons_zero, List.set_cons_succ]
            refine takeYes (i := 16) (d := 32) (v := ?_) rfl rfl (by kernel_rfl) (by kernel_rfl) (by kernel_rfl) (fun _ _ _ h => h) (by rfl) (by assumption) ?_ ?_
            rotate_left
            · intro w' hSw; (try dsimp only at hSw); go_simp; try exact rfl
            try simp only [List.setIfInBounds_toArray, List.set_cons_zero, List.set_cons_succ]
            refine takeYes (i := 17) (d := 33) (v := ?_) rfl rfl (by kernel_rfl) (by kernel_rfl) (by kernel_rfl) (fun _ _ _ h => h) (by rfl) (by assumption) ?_ ?_
            rotate_left
            · intro w' hSw; (try dsimp only at hSw); go_simp; try exact rfl
            try simp only [List.setIfInBounds_toArray, List.set_cons_zero, List.set_cons_succ]
            refine takeYes (i := 18) (d := 34) (v := ?_) rfl rfl (by kernel_rfl) (by kernel_rfl) (by kernel_rfl) (fun _ _ _ h => h) (by rfl) (by assumption) ?_ ?_
            rotate_left
            · intro w' hSw; (try dsimp only at hSw); go_simp; try exact rfl
            try simp only [List.setIfInBounds_toArray, List.set_cons_zero, List.set_cons_succ]
            refine takeYes (i := 19) (d := 35) (v := ?_) rfl rfl (by kernel_rfl) (by kernel_rfl) (by kernel_rfl) (fun _ _ _ h => h) (by rfl) (by assumption) ?_ ?_
            rotate_left
            · intro w' hSw; (try dsimp only at hSw); go_simp; try exact rfl
            try simp only [List.setIfInBounds_toArray, List.set_cons_zero, List.set_cons_succ]
            refine takeYes (i := 20) (d := 36) (v := ?_) rfl rfl (by kernel_rfl) (by kernel_rfl) (by kernel_rfl) (fun _ _ _ h => h) (by rfl) (by assumption) ?_ ?_
            rotate_left
            · intro w' hSw; (try dsimp only at hSw); go_simp; try exact rfl
            try simp only [List.setIfInBounds_toArray, List.set_cons_zero, List.set_cons_succ]
            refine takeYes (i := 21) (d := 37) (v := ?_) rfl rfl (by kernel_rfl) (by kernel_rfl) (by kernel_rfl) (fun _ _ _ h => h) (by rfl) (by assumption) ?_ ?_
            rotate_left
            · intro w' hSw; (try dsimp only at hSw); go_simp; try exact rfl
            try simp only [List.setIfInBounds_toArray, List.set_cons_zero, List.set_cons_succ]
            refine takeYes (i := 22) (d := 38) (v := ?_) rfl rfl (by kernel_rfl) (by kernel_rfl) (by kernel_rfl) (fun _ _ _ h => h) (by rfl) (by assumption) ?_ ?_
            rotate_left
            · intro w' hSw; (try dsimp only at hSw); go_simp; try exact rfl
            try simp only [List.setIfInBounds_toArray, List.set_cons_zero, List.set_cons_succ]
            refine wpAnyH_ready (rs := [23]) (by kernel_rfl) (by simp) ?_
            refine AllReadyH.cons rfl (fun K hK => ?_) AllReadyH.nil
            go_simp
            go_at_call 55
            refine (l01InN_any _ _ _ _).mono ?_
            rintro e w1 ⟨rfl, rfl⟩
            try go_wp2_with fail
            refine hK.out _ _ ?_ (fun hHeld23 => ?_)
            · (try dsimp only); refine ⟨?_, ?_, ?_⟩ <;> first | (go_simp; done) | (exact cell_later (by assumption) (by go_simp))
            clear hK
            refine takeYes (i := 24) (d := 40) (v := ?_) rfl rfl (by kernel_rfl) (by kernel_rfl) (by kernel_rfl) (fun _ _ _ h => h) (by rfl) (by assumption) ?_ ?_
            rotate_left
            · intro w' hSw; (try dsimp only at hSw); go_simp; try exact rfl
            try simp only [List.setIfInBounds_toArray, List.set_cons_zero, List.set_cons_succ]
            refine takeYes (i := 25) (d := 41) (v := ?_) rfl rfl (by kernel_rfl) (by kernel_rfl) (by kernel_rfl) (fun _ _ _ h => h) (by rfl) (by assumption) ?_ ?_
            rotate_left
            · intro w' hSw; (try dsimp only at hSw); go_simp; try exact rfl
            try simp only [List.setIfInBounds_toArray, List.set_cons_zero, List.set_cons_succ]
            refine wpAnyH_done (by kernel_rfl) ?_ _
            go_wp2
            go_returns
            refine ⟨ret_bool ?_, by repeat (first | exact Below.refl _ _ | refine Below.drew ?_ | refine Below.alloc ?_ (by first | (simp; done) | (simp; omega) | omega) _ | refine Below.setCell ?_ (by first | (simp; done) | (simp; omega) | omega) _ | refine bstep (by assumption) (by first | (simp; done) | (simp; omega) | omega) ?_)⟩
            unfold okSch
            rw [HE.out, HS.out, okCols_no hin]
            simp
          | true =>
            go_wp2_with fail
            refine wp_region_held_drew (S := (fun w' => w'.cell? ⟨wo.heap.size, 0, none⟩ = some (.string x.s) ∧ w'.cell? ⟨wo.heap.size, 1, none⟩ = some (.slice ur x.cs.length cr) ∧ w'.cell? ⟨b, o + j * 2, none⟩ = some (.string y.s))) (by kernel_rfl) ?_ (fun hHeld => ?_)
            · (try dsimp only); refine ⟨?_, ?_, ?_⟩ <;> first | (go_simp; done) | (exact cell_later (by assumption) (by go_simp))
            refine takeYes (i := 0) (d := 16) (v := ?_) rfl rfl (by kernel_rfl) (by kernel_rfl) (by kernel_rfl) (fun _ _ _ h => h) (by rfl) (by assumption) ?_ ?_
            rotate_left
            · intro w' hSw; (try dsimp only at hSw); go_simp; try exact rfl
            try simp only [List.setIfInBounds_toArray, List.set_cons_zero, List.set_cons_succ]
            refine takeYes (i := 1) (d := 17) (v := ?_) rfl rfl (by kernel_rfl) (by kernel_rfl) (by kernel_rfl) (fun _ _ _ h => h) (by rfl) (by assumption) ?_ ?_
            rotate_left
            · intro w' hSw; (try dsimp only at hSw); go_simp; try exact rfl
            try simp only [List.setIfInBounds_toArray, List.set_cons_zero, List.set_cons_succ]
            refine wpAnyH_ready (rs := [2]) (by kernel_rfl) (by simp) ?_
            refine AllReadyH.cons rfl (fun K hK => ?_) AllReadyH.nil
            go_simp
            go_at_call 53
            refine (specName_any x.s _ hxs).mono ?_
            rintro e w1 ⟨rfl, rfl⟩
            try go_wp2_with fail
            refine hK.out _ _ ?_ (fun hHeld2 => ?_)
            · (try dsimp only); refine ⟨?_, ?_, ?_⟩ <;> first | (go_simp; done) | (exact cell_later (by assumption) (by go_simp))
            clear hK
            refine takeYes (i := 3) (d := 19) (v := ?_) rfl rfl (by kernel_rfl) (by kernel_rfl) (by kernel_rfl) (fun _ _ _ h => h) (by rfl) (by assumption) ?_ ?_
            rotate_left
            · intro w' hSw; (try dsimp only at hSw); go_simp; try exact rfl
            try simp only [List.setIfInBounds_toArray, List.set_cons_zero, List.set_cons_succ]
            refine takeYes (i := 4) (d := 20) (v := ?_) rfl rfl (by kernel_rfl) (by kernel_rfl) (by kernel_rfl) (fun _ _ _ h => h) (by rfl) (by assumption) ?_ ?_
            rotate_left
            · intro w' hSw; (try dsimp only at hSw); go_simp; try exact rfl
            try simp only [List.setIfInBounds_toArray, List.set_cons_zero, List.set_cons_succ]
            refine takeYes (i := 5) (d := 21) (v := ?_) rfl rfl (by kernel_rfl) (by kernel_rfl) (by kernel_rfl) (fun _ _ _ h => h) (by rfl) (by assumption) ?_ ?_
            rotate_left
            · intro w' hSw; (try dsimp only at hSw); go_simp; try exact rfl
            try simp only [List.setIfInBounds_toArray, List.set_cons_zero, List.set_cons_succ]
            refine takeYes (i := 6) (d := 22) (v := ?_) rfl rfl (by kernel_rfl) (by kernel_rfl) (by kernel_rfl) (fun _ _ _ h => h) (by rfl) (by assumption) ?_ ?_
            rotate_left
            · intro w' hSw; (try dsimp only at hSw); go_simp; try exact rfl
            try simp only [List.setIfInBounds_toArray, List.set_cons_zero, List.set_cons_succ]
            refine takeYes (i := 7) (d := 23) (v := ?_) rfl rfl (by kernel_rfl) (by kernel_rfl) (by kernel_rfl) (fun _ _ _ h => h) (by rfl) (by assumption) ?_ ?_
            rotate_left
            · intro w' hSw; (try dsimp only at hSw); go_simp; try exact rfl
            try simp only [List.setIfInBounds_toArray, List.set_cons_zero, List.set_cons_succ]
            refine takeYes (i := 8) (d := 24) (v := ?_) rfl rfl (by kernel_rfl) (by kernel_rfl) (by kernel_rfl) (fun _ _ _ h => h) (by rfl) (by assumption) ?_ ?_
            rotate_left
            · intro w' hSw; (try dsimp only at hSw); go_simp; try exact rfl
            try simp only [List.setIfInBounds_toArray, List.set_cons_zero, List.set_cons_succ]
            refine takeYes (i := 9) (d := 25) (v := ?_) rfl rfl (by kernel_rfl) (by kernel_rfl) (by kernel_rfl) (fun _ _ _ h => h) (by rfl) (by assumption) ?_ ?_
            rotate_left
            · intro w' hSw; (try dsimp only at hSw); go_simp; try exact rfl
            try simp only [List.setIfInBounds_toArray, List.set_cons_zero, List.set_cons_succ]
            refine takeYes (i := 10) (d := 26) (v := ?_) rfl rfl (by kernel_rfl) (by kernel_rfl) (by kernel_rfl) (fun _ _ _ h => h) (by rfl) (by assumption) ?_ ?_
            rotate_left
            · intro w' hSw; (try dsimp only at hSw); go_simp; try exact rfl
            try simp only [List.setIfInBounds_toArray, List.set_cons_zero, List.set_cons_succ]
            refine takeYes (i := 11) (d := 27) (v := ?_) rfl rfl (by kernel_rfl) (by kernel_rfl) (by kernel_rfl) (fun _ _ _ h => h) (by rfl) (by assumption) ?_ ?_
            rotate_left
            · intro w' hSw; (try dsimp only at hSw); go_simp; try exact rfl
            try simp only [List.setIfInBounds_toArray, List.set_cons_zero, List.set_cons_succ]
            refine takeYes (i := 12) (d := 28) (v := ?_) rfl rfl (by kernel_rfl) (by kernel_rfl) (by kernel_rfl) (fun _ _ _ h => h) (by rfl) (by assumption) ?_ ?_
            rotate_left
            · intro w' hSw; (try dsimp only at hSw); go_simp; try exact rfl
            try simp only [List.setIfInBounds_toArray, List.set_cons_zero, List.set_cons_succ]
            refine takeYes (i := 13) (d := 29) (v := ?_) rfl rfl (by kernel_rfl) (by kernel_rfl) (by kernel_rfl) (fun _ _ _ h => h) (by rfl) (by assumption) ?_ ?_
            rotate_left
            · intro w' hSw; (try dsimp only at hSw); go_simp; try exact rfl
            try simp only [List.setIfInBounds_toArray, List.set_cons_zero, List.set_cons_succ]
            refine takeYes (i := 14) (d := 30) (v := ?_) rfl rfl (by kernel_rfl) (by kernel_rfl) (by kernel_rfl) (fun _ _ _ h => h) (by rfl) (by assumption) ?_ ?_
            rotate_left
            · intro w' hSw; (try dsimp only at hSw); go_simp; try exact rfl
            try simp only [List.setIfInBounds_toArray, List.set_cons_zero, List.set_cons_succ]
            refine takeYes (i := 15) (d := 31) (v := ?_) rfl rfl (by kernel_rfl) (by kernel_rfl) (by kernel_rfl) (fun _ _ _ h => h) (by rfl) (by assumption) ?_ ?_
            rotate_left
            · intro w' hSw; (try dsimp only at hSw); go_simp; try exact rfl
            try simp only [List.setIfInBounds_toArray, List.set_cons_zero, List.set_cons_succ]
            refine takeYes (i := 16) (d := 32) (v := ?_) rfl rfl (by kernel_rfl) (by kernel_rfl) (by kernel_rfl) (fun _ _ _ h => h) (by rfl) (by assumption) ?_ ?_
            rotate_left
            · intro w' hSw; (try dsimp only at hSw); go_simp; try exact rfl
            try simp only [List.setIfInBounds_toArray, List.set_cons_zero, List.set_cons_succ]
            refine takeYes (i := 17) (d := 33) (v := ?_) rfl rfl (by kernel_rfl) (by kernel_rfl) (by kernel_rfl) (fun _ _ _ h => h) (by rfl) (by assumption) ?_ ?_
            rotate_left
            · intro w' hSw; (try dsimp only at hSw); go_simp; try exact rfl
            try simp only [List.setIfInBounds_toArray, List.set_cons_zero, List.set_cons_succ]
            refine takeYes (i := 18) (d := 34) (v := ?_) rfl rfl (by kernel_rfl) (by kernel_rfl) (by kernel_rfl) (fun _ _ _ h => h) (by rfl) (by assumption) ?_ ?_
            rotate_left
            · intro w' hSw; (try dsimp only at hSw); go_simp; try exact rfl
            try simp only [List.setIfInBounds_toArray, List.set_cons_zero, List.set_cons_succ]
            refine takeYes (i := 19) (d := 35) (v := ?_) rfl rfl (by kernel_rfl) (by kernel_rfl) (by kernel_rfl) (fun _ _ _ h => h) (by rfl) (by assumption) ?_ ?_
            rotate_left
            · intro w' hSw; (try dsimp only at hSw); go_simp; try exact rfl
            try simp only [List.setIfInBounds_toArray, List.set_cons_zero, List.set_cons_succ]
            refine takeYes (i := 20) (d := 36) (v := ?_) rfl rfl (by kernel_rfl) (by kernel_rfl) (by kernel_rfl) (fun _ _ _ h => h) (by rfl) (by assumption) ?_ ?_
            rotate_left
            · intro w' hSw; (try dsimp only at hSw); go_simp; try exact rfl
            try simp only [List.setIfInBounds_toArray, List.set_cons_zero, List.set_cons_succ]
            refine takeYes (i := 21) (d := 37) (v := ?_) rfl rfl (by kernel_rfl) (by kernel_rfl) (by kernel_rfl) (fun _ _ _ h => h) (by rfl) (by assumption) ?_ ?_
            rotate_left
            · intro w' hSw; (try dsimp only at hSw); go_simp; try exact rfl
            try simp only [List.setIfInBounds_toArray, List.set_cons_zero, List.set_cons_succ]
            refine takeYes (i := 22) (d := 38) (v := ?_) rfl rfl (by kernel_rfl) (by kernel_rfl) (by kernel_rfl) (fun _ _ _ h => h) (by rfl) (by assumption) ?_ ?_
            rotate_left
            · intro w' hSw; (try dsimp only at hSw); go_simp; try exact rfl
            try simp only [List.setIfInBounds_toArray, List.set_cons_zero, List.set_cons_succ]
            refine wpAnyH_ready (rs := [23]) (by kernel_rfl) (by simp) ?_
            refine AllReadyH.cons rfl (fun K hK => ?_) AllReadyH.nil
            go_simp
            go_at_call 55
            refine (l01InN_any _ _ _ _).mono ?_
            rintro e w1 ⟨rfl, rfl⟩
            try go_wp2_with fail
            refine hK.out _ _ ?_ (fun hHeld23 => ?_)
            · (try dsimp only); refine ⟨?_, ?_, ?_⟩ <;> first | (go_simp; done) | (exact cell_later (by assumption) (by go_simp))
            clear hK
            refine takeYes (i := 24) (d := 40) (v := ?_) rfl rfl (by kernel_rfl) (by kernel_rfl) (by kernel_rfl) (fun _ _ _ h => h) (by rfl) (by assumption) ?_ ?_
            rotate_left
            · intro w' hSw; (try dsimp only at hSw); go_simp; try exact rfl
            try simp only [List.setIfInBounds_toArray, List.set_cons_zero, List.set_cons_succ]
            refine takeYes (i := 25) (d := 41) (v := ?_) rfl rfl (by kernel_rfl) (by kernel_rfl) (by kernel_rfl) (fun _ _ _ h => h) (by rfl) (by assumption) ?_ ?_
            rotate_left
            · intro w' hSw; (try dsimp only at hSw); go_simp; try exact rfl
            try simp only [List.setIfInBounds_toArray, List.set_cons_zero, List.set_cons_succ]
            refine wpAnyH_done (by kernel_rfl) ?_ _
            go_wp2_with fail
            have hb5 : Below wo.heap.size wo (wo.alloc (.cells #[.string x.s, .slice ur x.cs.length cr] 93)).drew := by repeat (first | (with_reducible exact Below.refl _ _) | (with_reducible refine Below.drew ?_) | (with_reducible refine Below.alloc ?_ ?hh _; case hh => first | (simp; done) | (simp; omega) | omega) | (with_reducible refine Below.setCell ?_ ?hh _; case hh => first | (simp; done) | (simp; omega) | omega) | refine bstep (by assumption) (by first | (simp; done) | (simp; omega) | omega) ?_)
            have q1 : ((wo.alloc (.cells #[.string x.s, .slice ur x.cs.length cr] 93)).drew).cell? ⟨wo.heap.size, 1, none⟩ = some (.slice ur x.cs.length cr) := hHeld23.2.1
            have hs5 : wo.heap.size < ((wo.alloc (.cells #[.string x.s, .slice ur x.cs.length cr] 93)).drew).heap.size := by simp
            clear hHeld hHeld2 hHeld23
            generalize (wo.alloc (.cells #[.string x.s, .slice ur x.cs.length cr] 93)).drew = w5 at hb5 q1 hs5 ⊢
            have hR5 := hR.below hb5
            have hbw5 : Below w.heap.size w w5 := hb.trans (hb5.mono hzb)
            go_loopw [5] (fun i wi => ∃ n : Nat, n ≤ x.cs.length ∧ i = .int .i64 n ∧ Below w5.heap.size w5 wi ∧ colsB [] x.cs = colsB (x.cs.take n) (x.cs.drop n)) (fun i _ => x.cs.length - (intOf i).toNat)
            case atStart => exact ⟨0, Nat.zero_le _, rfl, Below.refl _ _, by simp⟩
            case round =>
              obtain ⟨n, hn, rfl, hbi, heq2⟩ := hrel
              have HE2 : Hid (colsB [] x.cs = colsB (x.cs.take n) (x.cs.drop n)) := heq2
              clear heq2
              have hzi := hbi.size
              have qi : wr.cell? ⟨wo.heap.size, 1, none⟩ = some (.slice ur x.cs.length cr) := (hbi.cell (p := ⟨wo.heap.size, 1, none⟩) hs5).trans q1
              have hsi : wo.heap.size < wr.heap.size := by omega
              have hbwi : Below w.heap.size w wr := hbw5.trans (hbi.mono hbw5.size)
              by_cases hnl : n < x.cs.length
              · have hRi := hR5.below hbi
                obtain ⟨m, hm⟩ : ∃ m, x.cs[n]? = some m := ⟨x.cs[n], by simp [hnl]⟩
                obtain ⟨g', hcut⟩ := hRi.cut hn
                obtain ⟨a', c', bc, oc, e, _, _, _, h4⟩ := hRi.pick
                obtain ⟨rfl, _, rfl⟩ : ur = a' ∧ x.cs.length = x.cs.length ∧ cr = c' := by injection e with e1 e2 e3; exact ⟨e1, e2, e3⟩
                obtain ⟨rfl, hbc, _, hcell⟩ := h4 n hnl
                have hcm1 := hcell n m hm
                have hms := hxw m (List.mem_of_getElem? hm)
                have HS2 : Hid (colsB (x.cs.take n) (x.cs.drop n) = (nameB m && !hasS (x.cs.take n) m && colsB (x.cs.take (n + 1)) (x.cs.drop (n + 1)))) := colsB_step hm
                have HC : Hid (okCols x.cs = colsB [] x.cs) := okCols_cols hin
                have hncr : n ≤ cr := by omega
                clear h4 hcell hm hRi hR5 hR hxw q1 hin e
                by_cases hnm2 : nameB m = true
                rotate_left
                · have hf2 : nameB m = false := by simpa using hnm2
                  have HF2 : Hid (nameB m = false) := hf2
                  go_wp2_with fail
                  refine wp_region_held_drew (S := (fun w' => w'.cell? ⟨wo.heap.size, 1, none⟩ = some (.slice (some ⟨bc, oc, none⟩) x.cs.length cr) ∧ w'.cell? ⟨bc, oc + n, none⟩ = some (.string m))) (by kernel_rfl) ?_ (fun hHeld => ?_)
                  · (try dsimp only); refine ⟨?_, ?_⟩ <;> first | (go_simp; done) | (exact cell_later (by assumption) (by go_simp))
                  refine takeYes (i := 0) (d := 49) (v := ?_) rfl rfl (by kernel_rfl) (by kernel_rfl) (by kernel_rfl) (fun _ _ _ h => h) (by rfl) (by assumption) ?_ ?_
                  rotate_left
                  · intro w' hSw; (try dsimp only at hSw); go_simp; try exact rfl
                  try simp only [List.setIfInBounds_toArray, List.set_cons_zero, List.set_cons_succ]
                  refine takeYes (i := 1) (d := 50) (v := ?_) rfl rfl (by kernel_rfl) (by kernel_rfl) (by kernel_rfl) (fun _ _ _ h => h) (by rfl) (by assumption) ?_ ?_
                  rotate_left
                  · intro w' hSw; (try dsimp only at hSw); go_simp; try exact rfl
                  try simp only [List.setIfInBounds_toArray, List.set_cons_zero, List.set_cons_succ]
                  refine takeYes (i := 2) (d := 51) (v := ?_) rfl rfl (by kernel_rfl) (by kernel_rfl) (by kernel_rfl) (fun _ _ _ h => h) (by rfl) (by assumption) ?_ ?_
                  rotate_left
                  · intro w' hSw; (try dsimp only at hSw); go_simp; try exact rfl
                  try simp only [List.setIfInBounds_toArray, List.set_cons_zero, List.set_cons_succ]
                  refine takeYes (i := 3) (d := 52) (v := ?_) rfl rfl (by kernel_rfl) (by kernel_rfl) (by kernel_rfl) (fun _ _ _ h => h) (by rfl) (by assumption) ?_ ?_
                  rotate_left
                  · intro w' hSw; (try dsimp only at hSw); go_simp; try exact rfl
                  try simp only [List.setIfInBounds_toArray, List.set_cons_zero, List.set_cons_succ]
                  refine takeYes (i := 4) (d := 53) (v := ?_) rfl rfl (by kernel_rfl) (by kernel_rfl) (by kernel_rfl) (fun _ _ _ h => h) (by rfl) (by assumption) ?_ ?_
                  rotate_left
                  · intro w' hSw; (try dsimp only at hSw); go_simp; try exact rfl
                  try simp only [List.setIfInBounds_toArray, List.set_cons_zero, List.set_cons_succ]
                  refine wpAnyH_ready (rs := [5]) (by kernel_rfl) (by simp) ?_
                  refine AllReadyH.cons rfl (fun K hK => ?_) AllReadyH.nil
                  go_simp
                  go_at_call 53
                  refine (specName_any m _ hms).mono ?_
                  rintro e w1 ⟨rfl, rfl⟩
                  try go_wp2_with fail
                  refine hK.out _ _ ?_ (fun hHeld5 => ?_)
                  · (try dsimp only); refine ⟨?_, ?_⟩ <;> first | (go_simp; done) | (exact cell_later (by assumption) (by go_simp))
                  clear hK
                  refine takeYes (i := 6) (d := 55) (v := ?_) rfl rfl (by kernel_rfl) (by kernel_rfl) (by kernel_rfl) (fun _ _ _ h => h) (by rfl) (by assumption) ?_ ?_
                  rotate_left
                  · intro w' hSw; (try dsimp only at hSw); go_simp; try exact rfl
                  try simp only [List.setIfInBounds_toArray, List.set_cons_zero, List.set_cons_succ]
                  refine takeYes (i := 7) (d := 56) (v := ?_) rfl rfl (by kernel_rfl) (by kernel_rfl) (by kernel_rfl) (fun _ _ _ h => h) (by rfl) (by assumption) ?_ ?_
                  rotate_left
                  · intro w' hSw; (try dsimp only at hSw); go_simp; try exact rfl
                  try simp only [List.setIfInBounds_toArray, List.set_cons_zero, List.set_cons_succ]
                  refine takeNo (i := 8) (d := 57) rfl rfl (by kernel_rfl) (by kernel_rfl) (by kernel_rfl) (fun _ _ _ h => h) (by rfl) (by assumption) ?_
                  try simp only [List.setIfInBounds_toArray, List.set_cons_zero, List.set_cons_succ]
                  refine takeNo (i := 9) (d := 58) rfl rfl (by kernel_rfl) (by kernel_rfl) (by kernel_rfl) (fun _ _ _ h => h) (by rfl) (by assumption) ?_
                  try simp only [List.setIfInBounds_toArray, List.set_cons_zero, List.set_cons_succ]
                  refine takeNo (i := 10) (d := 59) rfl rfl (by kernel_rfl) (by kernel_rfl) (by kernel_rfl) (fun _ _ _ h => h) (by rfl) (by assumption) ?_
                  try simp only [List.setIfInBounds_toArray, List.set_cons_zero, List.set_cons_succ]
                  refine takeNo (i := 11) (d := 60) rfl rfl (by kernel_rfl) (by kernel_rfl) (by kernel_rfl) (fun _ _ _ h => h) (by rfl) (by assumption) ?_
                  try simp only [List.setIfInBounds_toArray, List.set_cons_zero, List.set_cons_succ]
                  refine takeNo (i := 12) (d := 61) rfl rfl (by kernel_rfl) (by kernel_rfl) (by kernel_rfl) (fun _ _ _ h => h) (by rfl) (by assumption) ?_
                  try simp only [List.setIfInBounds_toArray, List.set_cons_zero, List.set_cons_succ]
                  refine takeNo (i := 13) (d := 62) rfl rfl (by kernel_rfl) (by kernel_rfl) (by kernel_rfl) (fun _ _ _ h => h) (by rfl) (by assumption) ?_
                  try simp only [List.setIfInBounds_toArray, List.set_cons_zero, List.set_cons_succ]
                  refine takeNo (i := 14) (d := 63) rfl rfl (by kernel_rfl) (by kernel_rfl) (by kernel_rfl) (fun _ _ _ h => h) (by rfl) (by assumption) ?_
                  try simp only [List.setIfInBounds_toArray, List.set_cons_zero, List.set_cons_succ]
                  refine takeNo (i := 15) (d := 64) rfl rfl (by kernel_rfl) (by kernel_rfl) (by kernel_rfl) (fun _ _ _ h => h) (by rfl) (by assumption) ?_
                  try simp only [List.setIfInBounds_toArray, List.set_cons_zero, List.set_cons_succ]
                  refine takeNo (i := 16) (d := 65) rfl rfl (by kernel_rfl) (by kernel_rfl) (by kernel_rfl) (fun _ _ _ h => h) (by rfl) (by assumption) ?_
                  try simp only [List.setIfInBounds_toArray, List.set_cons_zero, List.set_cons_succ]
                  refine wpAnyH_ready (rs := [17]) (by kernel_rfl) (by simp) ?_
                  refine AllReadyH.cons rfl (fun K hK => ?_) AllReadyH.nil
                  go_simp
                  refine hK.out _ _ ?_ (fun hHeld17 => ?_)
                  · (try dsimp only); refine ⟨?_, ?_⟩ <;> first | (go_simp; done) | (exact cell_later (by assumption) (by go_simp))
                  clear hK
                  refine takeYes (i := 18) (d := 67) (v := ?_) rfl rfl (by kernel_rfl) (by kernel_rfl) (by kernel_rfl) (fun _ _ _ h => h) (by rfl) (by assumption) ?_ ?_
                  rotate_left
                  · intro w' hSw; (try dsimp only at hSw); go_simp; try exact rfl
                  try simp only [List.setIfInBounds_toArray, List.set_cons_zero, List.set_cons_succ]
                  refine wpAnyH_done (by kernel_rfl) ?_ _
                  go_wp2
                  go_returns
                  refine ⟨ret_bool ?_, by repeat (first | exact Below.refl _ _ | refine Below.drew ?_ | refine Below.alloc ?_ (by first | (simp; done) | (simp; omega) | omega) _ | refine Below.setCell ?_ (by first | (simp; done) | (simp; omega) | omega) _ | refine bstep (by assumption) (by first | (simp; done) | (simp; omega) | omega) ?_)⟩
                  unfold okSch
                  rw [HE.out, HS.out, HC.out, HE2.out, HS2.out, HF2.out]
                  simp
                have HN2 : Hid (nameB m = true) := hnm2
                obtain ⟨hs, HH⟩ : ∃ hs, Hid (hasS (x.cs.take n) m = hs) := ⟨_, rfl⟩
                cases hs with
                | true =>
                  go_wp2_with fail
                  refine wp_region_held_drew (S := (fun w' => w'.cell? ⟨wo.heap.size, 1, none⟩ = some (.slice (some ⟨bc, oc, none⟩) x.cs.length cr) ∧ w'.cell? ⟨bc, oc + n, none⟩ = some (.string m))) (by kernel_rfl) ?_ (fun hHeld => ?_)
                  · (try dsimp only); refine ⟨?_, ?_⟩ <;> first | (go_simp; done) | (exact cell_later (by assumption) (by go_simp))
                  refine takeYes (i := 0) (d := 49) (v := ?_) rfl rfl (by kernel_rfl) (by kernel_rfl) (by kernel_rfl) (fun _ _ _ h => h) (by rfl) (by assumption) ?_ ?_
                  rotate_left
                  · intro w' hSw; (try dsimp only at hSw); go_simp; try exact rfl
                  try simp only [List.setIfInBounds_toArray, List.set_cons_zero, List.set_cons_succ]
                  refine takeYes (i := 1) (d := 50) (v := ?_) rfl rfl (by kernel_rfl) (by kernel_rfl) (by kernel_rfl) (fun _ _ _ h => h) (by rfl) (by assumption) ?_ ?_
                  rotate_left
                  · intro w' hSw; (try dsimp only at hSw); go_simp; try exact rfl
                  try simp only [List.setIfInBounds_toArray, List.set_cons_zero, List.set_cons_succ]
                  refine takeYes (i := 2) (d := 51) (v := ?_) rfl rfl (by kernel_rfl) (by kernel_rfl) (by kernel_rfl) (fun _ _ _ h => h) (by rfl) (by assumption) ?_ ?_
                  rotate_left
                  · intro w' hSw; (try dsimp only at hSw); go_simp; try exact rfl
                  try simp only [List.setIfInBounds_toArray, List.set_cons_zero, List.set_cons_succ]
                  refine takeYes (i := 3) (d := 52) (v := ?_) rfl rfl (by kernel_rfl) (by kernel_rfl) (by kernel_rfl) (fun _ _ _ h => h) (by rfl) (by assumption) ?_ ?_
                  rotate_left
                  · intro w' hSw; (try dsimp only at hSw); go_simp; try exact rfl
                  try simp only [List.setIfInBounds_toArray, List.set_cons_zero, List.set_cons_succ]
                  refine takeYes (i := 4) (d := 53) (v := ?_) rfl rfl (by kernel_rfl) (by kernel_rfl) (by kernel_rfl) (fun _ _ _ h => h) (by rfl) (by assumption) ?_ ?_
                  rotate_left
                  · intro w' hSw; (try dsimp only at hSw); go_simp; try exact rfl
                  try simp only [List.setIfInBounds_toArray, List.set_cons_zero, List.set_cons_succ]
                  refine wpAnyH_ready (rs := [5]) (by kernel_rfl) (by simp) ?_
                  refine AllReadyH.cons rfl (fun K hK => ?_) AllReadyH.nil
                  go_simp
                  go_at_call 53
                  refine (specName_any m _ hms).mono ?_
                  rintro e w1 ⟨rfl, rfl⟩
                  try go_wp2_with fail
                  refine hK.out _ _ ?_ (fun hHeld5 => ?_)
                  · (try dsimp only); refine ⟨?_, ?_⟩ <;> first | (go_simp; done) | (exact cell_later (by assumption) (by go_simp))
                  clear hK
                  refine takeYes (i := 6) (d := 55) (v := ?_) rfl rfl (by kernel_rfl) (by kernel_rfl) (by kernel_rfl) (fun _ _ _ h => h) (by rfl) (by assumption) ?_ ?_
                  rotate_left
                  · intro w' hSw; (try dsimp only at hSw); go_simp; try exact rfl
                  try simp only [List.setIfInBounds_toArray, List.set_cons_zero, List.set_cons_succ]
                  refine takeYes (i := 7) (d := 56) (v := ?_) rfl rfl (by kernel_rfl) (by kernel_rfl) (by kernel_rfl) (fun _ _ _ h => h) (by rfl) (by assumption) ?_ ?_
                  rotate_left
                  · intro w' hSw; (try dsimp only at hSw); go_simp; try exact rfl
                  try simp only [List.setIfInBounds_toArray, List.set_cons_zero, List.set_cons_succ]
                  refine takeYes (i := 8) (d := 57) (v := ?_) rfl rfl (by kernel_rfl) (by kernel_rfl) (by kernel_rfl) (fun _ _ _ h => h) (by rfl) (by assumption) ?_ ?_
                  rotate_left
                  · intro w' hSw; (try dsimp only at hSw); go_simp; try exact rfl
                  try simp only [List.setIfInBounds_toArray, List.set_cons_zero, List.set_cons_succ]
                  refine takeYes (i := 9) (d := 58) (v := ?_) rfl rfl (by kernel_rfl) (by kernel_rfl) (by kernel_rfl) (fun _ _ _ h => h) (by rfl) (by assumption) ?_ ?_
                  rotate_left
                  · intro w' hSw; (try dsimp only at hSw); go_simp; try exact rfl
                  try simp only [List.setIfInBounds_toArray, List.set_cons_zero, List.set_cons_succ]
                  refine takeYes (i := 10) (d := 59) (v := ?_) rfl rfl (by kernel_rfl) (by kernel_rfl) (by kernel_rfl) (fun _ _ _ h => h) (by rfl) (by assumption) ?_ ?_
                  rotate_left
                  · intro w' hSw; (try dsimp only at hSw); go_simp; try exact rfl
                  try simp only [List.setIfInBounds_toArray, List.set_cons_zero, List.set_cons_succ]
                  refine takeYes (i := 11) (d := 60) (v := ?_) rfl rfl (by kernel_rfl) (by kernel_rfl) (by kernel_rfl) (fun _ _ _ h => h) (by rfl) (by assumption) ?_ ?_
                  rotate_left
                  · intro w' hSw; (try dsimp only at hSw); go_simp; try exact rfl
                  try simp only [List.setIfInBounds_toArray, List.set_cons_zero, List.set_cons_succ]
                  refine takeYes (i := 12) (d := 61) (v := ?_) rfl rfl (by kernel_rfl) (by kernel_rfl) (by kernel_rfl) (fun _ _ _ h => h) (by rfl) (by assumption) ?_ ?_
                  rotate_left
                  · intro w' hSw; (try dsimp only at hSw); go_simp; try exact rfl
                  try simp only [List.setIfInBounds_toArray, List.set_cons_zero, List.set_cons_succ]
                  refine takeYes (i := 13) (d := 62) (v := ?_) rfl rfl (by kernel_rfl) (by kernel_rfl) (by kernel_rfl) (fun _ _ _ h => h) (by rfl) (by assumption) ?_ ?_
                  rotate_left
                  · intro w' hSw; (try dsimp only at hSw); go_simp; try exact rfl
                  try simp only [List.setIfInBounds_toArray, List.set_cons_zero, List.set_cons_succ]
                  refine takeYes (i := 14) (d := 63) (v := ?_) rfl rfl (by kernel_rfl) (by kernel_rfl) (by kernel_rfl) (fun _ _ _ h => h) (by rfl) (by assumption) ?_ ?_
                  rotate_left
                  · intro w' hSw; (try dsimp only at hSw); go_simp; try exact rfl
                  try simp only [List.setIfInBounds_toArray, List.set_cons_zero, List.set_cons_succ]
                  refine takeYes (i := 15) (d := 64) (v := ?_) rfl rfl (by kernel_rfl) (by kernel_rfl) (by kernel_rfl) (fun _ _ _ h => h) (by rfl) (by assumption) ?_ ?_
                  rotate_left
                  · intro w' hSw; (try dsimp only at hSw); go_simp; try exact rfl
                  try simp only [List.setIfInBounds_toArray, List.set_cons_zero, List.set_cons_succ]
                  refine takeYes (i := 16) (d := 65) (v := ?_) rfl rfl (by kernel_rfl) (by kernel_rfl) (by kernel_rfl) (fun _ _ _ h => h) (by rfl) (by assumption) ?_ ?_
                  rotate_left
                  · intro w' hSw; (try dsimp only at hSw); go_simp; try exact rfl
                  try simp only [List.setIfInBounds_toArray, List.set_cons_zero, List.set_cons_succ]
                  refine wpAnyH_ready (rs := [17]) (by kernel_rfl) (by simp) ?_
                  refine AllReadyH.cons rfl (fun K hK => ?_) AllReadyH.nil
                  go_simp
                  go_at_call 88
                  refine Calls.mono (l03HasF_any _ _ g' m _ (hcut.below (by repeat (first | exact Below.refl _ _ | refine Below.drew ?_ | refine Below.alloc ?_ (by first | (simp; done) | (simp; omega) | omega) _ | refine Below.setCell ?_ (by first | (simp; done) | (simp; omega) | omega) _ | refine bstep (by assumption) (by first | (simp; done) | (simp; omega) | omega) ?_)))) ?_
                  rw [HH.out]
                  rintro e w1 ⟨rfl, rfl⟩
                  try go_wp2_with fail
                  refine hK.out _ _ ?_ (fun hHeld17 => ?_)
                  · (try dsimp only); refine ⟨?_, ?_⟩ <;> first | (go_simp; done) | (exact cell_later (by assumption) (by go_simp))
                  clear hK
                  refine takeYes (i := 18) (d := 67) (v := ?_) rfl rfl (by kernel_rfl) (by kernel_rfl) (by kernel_rfl) (fun _ _ _ h => h) (by rfl) (by assumption) ?_ ?_
                  rotate_left
                  · intro w' hSw; (try dsimp only at hSw); go_simp; try exact rfl
                  try simp only [List.setIfInBounds_toArray, List.set_cons_zero, List.set_cons_succ]
                  refine wpAnyH_done (by kernel_rfl) ?_ _
                  go_wp2
                  go_returns
                  refine ⟨ret_bool ?_, by repeat (first | exact Below.refl _ _ | refine Below.drew ?_ | refine Below.alloc ?_ (by first | (simp; done) | (simp; omega) | omega) _ | refine Below.setCell ?_ (by first | (simp; done) | (simp; omega) | omega) _ | refine bstep (by assumption) (by first | (simp; done) | (simp; omega) | omega) ?_)⟩
                  unfold okSch
                  rw [HE.out, HS.out, HC.out, HE2.out, HS2.out, HN2.out, HH.out]
                  simp
                | false =>
                  go_wp2_with fail
                  refine wp_region_held_drew (S := (fun w' => w'.cell? ⟨wo.heap.size, 1, none⟩ = some (.slice (some ⟨bc, oc, none⟩) x.cs.length cr) ∧ w'.cell? ⟨bc, oc + n, none⟩ = some (.string m))) (by kernel_rfl) ?_ (fun hHeld => ?_)
                  · (try dsimp only); refine ⟨?_, ?_⟩ <;> first | (go_simp; done) | (exact cell_later (by assumption) (by go_simp))
                  refine takeYes (i := 0) (d := 49) (v := ?_) rfl rfl (by kernel_rfl) (by kernel_rfl) (by kernel_rfl) (fun _ _ _ h => h) (by rfl) (by assumption) ?_ ?_
                  rotate_left
                  · intro w' hSw; (try dsimp only at hSw); go_simp; try exact rfl
                  try simp only [List.setIfInBounds_toArray, List.set_cons_zero, List.set_cons_succ]
                  refine takeYes (i := 1) (d := 50) (v := ?_) rfl rfl (by kernel_rfl) (by kernel_rfl) (by kernel_rfl) (fun _ _ _ h => h) (by rfl) (by assumption) ?_ ?_
                  rotate_left
                  · intro w' hSw; (try dsimp only at hSw); go_simp; try exact rfl
                  try simp only [List.setIfInBounds_toArray, List.set_cons_zero, List.set_cons_succ]
                  refine takeYes (i := 2) (d := 51) (v := ?_) rfl rfl (by kernel_rfl) (by kernel_rfl) (by kernel_rfl) (fun _ _ _ h => h) (by rfl) (by assumption) ?_ ?_
                  rotate_left
                  · intro w' hSw; (try dsimp only at hSw); go_simp; try exact rfl
                  try simp only [List.setIfInBounds_toArray, List.set_cons_zero, List.set_cons_succ]
                  refine takeYes (i := 3) (d := 52) (v := ?_) rfl rfl (by kernel_rfl) (by kernel_rfl) (by kernel_rfl) (fun _ _ _ h => h) (by rfl) (by assumption) ?_ ?_
                  rotate_left
                  · intro w' hSw; (try dsimp only at hSw); go_simp; try exact rfl
                  try simp only [List.setIfInBounds_toArray, List.set_cons_zero, List.set_cons_succ]
                  refine takeYes (i := 4) (d := 53) (v := ?_) rfl rfl (by kernel_rfl) (by kernel_rfl) (by kernel_rfl) (fun _ _ _ h => h) (by rfl) (by assumption) ?_ ?_
                  rotate_left
                  · intro w' hSw; (try dsimp only at hSw); go_simp; try exact rfl
                  try simp only [List.setIfInBounds_toArray, List.set_cons_zero, List.set_cons_succ]
                  refine wpAnyH_ready (rs := [5]) (by kernel_rfl) (by simp) ?_
                  refine AllReadyH.cons rfl (fun K hK => ?_) AllReadyH.nil
                  go_simp
                  go_at_call 53
                  refine (specName_any m _ hms).mono ?_
                  rintro e w1 ⟨rfl, rfl⟩
                  try go_wp2_with fail
                  refine hK.out _ _ ?_ (fun hHeld5 => ?_)
                  · (try dsimp only); refine ⟨?_, ?_⟩ <;> first | (go_simp; done) | (exact cell_later (by assumption) (by go_simp))
                  clear hK
                  refine takeYes (i := 6) (d := 55) (v := ?_) rfl rfl (by kernel_rfl) (by kernel_rfl) (by kernel_rfl) (fun _ _ _ h => h) (by rfl) (by assumption) ?_ ?_
                  rotate_left
                  · intro w' hSw; (try dsimp only at hSw); go_simp; try exact rfl
                  try simp only [List.setIfInBounds_toArray, List.set_cons_zero, List.set_cons_succ]
                  refine takeYes (i := 7) (d := 56) (v := ?_) rfl rfl (by kernel_rfl) (by kernel_rfl) (by kernel_rfl) (fun _ _ _ h => h) (by rfl) (by assumption) ?_ ?_
                  rotate_left
                  · intro w' hSw; (try dsimp only at hSw); go_simp; try exact rfl
                  try simp only [List.setIfInBounds_toArray, List.set_cons_zero, List.set_cons_succ]
                  refine takeYes (i := 8) (d := 57) (v := ?_) rfl rfl (by kernel_rfl) (by kernel_rfl) (by kernel_rfl) (fun _ _ _ h => h) (by rfl) (by assumption) ?_ ?_
                  rotate_left
                  · intro w' hSw; (try dsimp only at hSw); go_simp; try exact rfl
                  try simp only [List.setIfInBounds_toArray, List.set_cons_zero, List.set_cons_succ]
                  refine takeYes (i := 9) (d := 58) (v := ?_) rfl rfl (by kernel_rfl) (by kernel_rfl) (by kernel_rfl) (fun _ _ _ h => h) (by rfl) (by assumption) ?_ ?_
                  rotate_left
                  · intro w' hSw; (try dsimp only at hSw); go_simp; try exact rfl
                  try simp only [List.setIfInBounds_toArray, List.set_cons_zero, List.set_cons_succ]
                  refine takeYes (i := 10) (d := 59) (v := ?_) rfl rfl (by kernel_rfl) (by kernel_rfl) (by kernel_rfl) (fun _ _ _ h => h) (by rfl) (by assumption) ?_ ?_
                  rotate_left
                  · intro w' hSw; (try dsimp only at hSw); go_simp; try exact rfl
                  try simp only [List.setIfInBounds_toArray, List.set_cons_zero, List.set_cons_succ]
                  refine takeYes (i := 11) (d := 60) (v := ?_) rfl rfl (by kernel_rfl) (by kernel_rfl) (by kernel_rfl) (fun _ _ _ h => h) (by rfl) (by assumption) ?_ ?_
                  rotate_left
                  · intro w' hSw; (try dsimp only at hSw); go_simp; try exact rfl
                  try simp only [List.setIfInBounds_toArray, List.set_cons_zero, List.set_cons_succ]
                  refine takeYes (i := 12) (d := 61) (v := ?_) rfl rfl (by kernel_rfl) (by kernel_rfl) (by kernel_rfl) (fun _ _ _ h => h) (by rfl) (by assumption) ?_ ?_
                  rotate_left
                  · intro w' hSw; (try dsimp only at hSw); go_simp; try exact rfl
                  try simp only [List.setIfInBounds_toArray, List.set_cons_zero, List.set_cons_succ]
                  refine takeYes (i := 13) (d := 62) (v := ?_) rfl rfl (by kernel_rfl) (by kernel_rfl) (by kernel_rfl) (fun _ _ _ h => h) (by rfl) (by assumption) ?_ ?_
                  rotate_left
                  · intro w' hSw; (try dsimp only at hSw); go_simp; try exact rfl
                  try simp only [List.setIfInBounds_toArray, List.set_cons_zero, List.set_cons_succ]
                  refine takeYes (i := 14) (d := 63) (v := ?_) rfl rfl (by kernel_rfl) (by kernel_rfl) (by kernel_rfl) (fun _ _ _ h => h) (by rfl) (by assumption) ?_ ?_
                  rotate_left
                  · intro w' hSw; (try dsimp only at hSw); go_simp; try exact rfl
                  try simp only [List.setIfInBounds_toArray, List.set_cons_zero, List.set_cons_succ]
                  refine takeYes (i := 15) (d := 64) (v := ?_) rfl rfl (by kernel_rfl) (by kernel_rfl) (by kernel_rfl) (fun _ _ _ h => h) (by rfl) (by assumption) ?_ ?_
                  rotate_left
                  · intro w' hSw; (try dsimp only at hSw); go_simp; try exact rfl
                  try simp only [List.setIfInBounds_toArray, List.set_cons_zero, List.set_cons_succ]
                  refine takeYes (i := 16) (d := 65) (v := ?_) rfl rfl (by kernel_rfl) (by kernel_rfl) (by kernel_rfl) (fun _ _ _ h => h) (by rfl) (by assumption) ?_ ?_
                  rotate_left
                  · intro w' hSw; (try dsimp only at hSw); go_simp; try exact rfl
                  try simp only [List.setIfInBounds_toArray, List.set_cons_zero, List.set_cons_succ]
                  refine wpAnyH_ready (rs := [17]) (by kernel_rfl) (by simp) ?_
                  refine AllReadyH.cons rfl (fun K hK => ?_) AllReadyH.nil
                  go_simp
                  go_at_call 88
                  refine Calls.mono (l03HasF_any _ _ g' m _ (hcut.below (by repeat (first | exact Below.refl _ _ | refine Below.drew ?_ | refine Below.alloc ?_ (by first | (simp; done) | (simp; omega) | omega) _ | refine Below.setCell ?_ (by first | (simp; done) | (simp; omega) | omega) _ | refine bstep (by assumption) (by first | (simp; done) | (simp; omega) | omega) ?_)))) ?_
                  rw [HH.out]
                  rintro e w1 ⟨rfl, rfl⟩
                  try go_wp2_with fail
                  refine hK.out _ _ ?_ (fun hHeld17 => ?_)
                  · (try dsimp only); refine ⟨?_, ?_⟩ <;> first | (go_simp; done) | (exact cell_later (by assumption) (by go_simp))
                  clear hK
                  refine takeYes (i := 18) (d := 67) (v := ?_) rfl rfl (by kernel_rfl) (by kernel_rfl) (by kernel_rfl) (fun _ _ _ h => h) (by rfl) (by assumption) ?_ ?_
                  rotate_left
                  · intro w' hSw; (try dsimp only at hSw); go_simp; try exact rfl
                  try simp only [List.setIfInBounds_toArray, List.set_cons_zero, List.set_cons_succ]
                  refine wpAnyH_done (by kernel_rfl) ?_ _
                  go_wp2
                  refine ⟨⟨n + 1, hnl, by simp, by (repeat (first | exact hbi | refine Below.drew ?_)), ?_⟩, by simp [intOf]; omega⟩
                  rw [HE2.out, HS2.out, HN2.out, HH.out]
                  simp
              · have HC : Hid (okCols x.cs = true) := by
                  show okCols x.cs = true
                  rw [okCols_cols hin, HE2.out, List.drop_eq_nil_of_le (by omega)]; rfl
                clear hR5 hR hxw hin q1
                go_wp2_with fail
                refine ⟨⟨j + 1 + 1, (j : Int) + 1 + 1, hlt, by omega, by simp, by (repeat (first | exact hbwi | refine Below.drew ?_)), ?_⟩, by simp [intOf]; omega⟩
                rw [HE.out, HS.out, HQ.out, hnm, HC.out, hcmp]
                simp
    · have HN : Hid (okHs none rs = true) := by rw [HE.out, List.drop_eq_nil_of_le (by omega)]; rfl
      clear ha hw
      go_wp2
      go_returns
      refine ⟨ret_bool ?_, hb⟩
      unfold okSch
      rw [HN.out, Bool.and_true]
      first | rfl | (rw [Bool.eq_iff_iff]; simp; omega) | (simp; omega)
end Go.Proofs.YtlobjpdkjlmglaaGreat
