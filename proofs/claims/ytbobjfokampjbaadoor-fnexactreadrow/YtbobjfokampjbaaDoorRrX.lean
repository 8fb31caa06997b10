/- Own text. The contract of the program's cutValue. -/
import Derived.Test.YtbobjfokampjbaaDoorRrK
import Derived.Handy
import Derived.Deep.RegionHeld3
namespace Go.Proofs.YtbobjfokampjbaaDoor
open Go.RowKit
set_option linter.unusedVariables false
theorem idx_c : ∀ l : List UInt8, (Lib.indexByte l 44 = -1 ∧ upC l = l ∧ frC l = []) ∨ (Lib.indexByte l 44 = ((upC l).length : Int))
  | [] => .inl ⟨rfl, rfl, rfl⟩
  | b :: l => by
    by_cases hb : b = 44
    · subst hb
      right
      simp [Lib.indexByte, upC]
    · have hu : upC (b :: l) = b :: upC l := by unfold upC; rw [List.takeWhile_cons]; simp [hb]
      have hf : frC (b :: l) = frC l := fr_step hb
      have hi : Lib.indexByte (b :: l) 44 = if Lib.indexByte l 44 == -1 then -1 else Lib.indexByte l 44 + 1 := by
        rw [Lib.indexByte, if_neg (by simpa using hb)]
      rcases idx_c l with ⟨h1, h2, h3⟩ | h1
      · left
        exact ⟨by rw [hi, h1]; rfl, by rw [hu, h2], by rw [hf, h3]⟩
      · right
        rw [hi, h1, hu, if_neg (by simp)]
        simp
theorem app_cut {l A B : List UInt8} (h : A ++ B = l) : l.take A.length = A ∧ l.drop A.length = B := by subst h; exact ⟨List.take_left, List.drop_left⟩
/-- a value, what is left, and whether it is one. -/
def CvOut (o : Option (V3 × List UInt8)) (w : World) (e : Ending) (w' : World) : Prop := (∃ (v : V3) (R : ByteArray), e = .returned (.tuple #[.agg #[.int .i64 v.k, .int .i64 v.n, .string v.s], .string R, .bool o.isSome]) ∧ ∀ x, o = some x → v = x.1 ∧ R = bs x.2) ∧ Below w.heap.size w w'
theorem CvOut.mk {o : Option (V3 × List UInt8)} {w w' : World} {e : Ending} {v : V3} {R : ByteArray} {b : Bool} (h : o.isSome = b) (he : e = .returned (.tuple #[.agg #[.int .i64 v.k, .int .i64 v.n, .string v.s], .string R, .bool b])) (hx : ∀ x, o = some x → v = x.1 ∧ R = bs x.2) (hb : Below w.heap.size w w') : CvOut o w e w' := by
  subst h
  exact ⟨⟨v, R, he, hx⟩, hb⟩
set_option maxHeartbeats 4000000 in
set_option maxRecDepth 100000 in
theorem cutValue_any (s : ByteArray) (w : World) (hs : s.size ≤ 1048576) (hE : EnvR w) :
    Calls Tryd.prog 11 #[.string s] w fun e w' => CvOut (oneV s.data.toList) w e w' := by
  obtain ⟨o, HO⟩ : ∃ o, Hid (oneV s.data.toList = o) := ⟨_, rfl⟩
  rw [HO.out]
  have hHP := fun wz => Tryd.strings_HasPrefix s ⟨#[39]⟩ wz
  have hbs := bs_of s
  by_cases h39 : ∃ b, s.data.toList = 39 :: b
  · obtain ⟨b, hl⟩ := h39
    have hp1 : Lib.hasPrefix s.data.toList [39] = true := by rw [hl]; rfl
    have hHP2 : ∀ wz, Calls Tryd.prog 19 #[.string s, .string ⟨#[39]⟩] wz fun e w' => e = .returned (.bool true) ∧ w' = wz := fun wz => (hHP wz).mono fun e w' ⟨h1, h2⟩ => ⟨by rw [h1, ← hp1], h2⟩
    have hC := fun wz (hb : Below w.heap.size w wz) => cutQuoted_any s b wz (by rw [← hl]; exact hbs.symm) hs (hE.below hb)
    have ho : o = match qtx b with
      | some p => if p.1.length ≤ 100 then some (⟨3, 0, bs p.1⟩, p.2) else none
      | none => none := by rw [← HO.out, hl]; unfold oneV; dsimp only; rw [if_pos rfl]; cases qtx b <;> rfl
    have HS : Hid (o.isSome = okQ b) := by
      show _ = _
      rw [ho]; unfold okQ
      cases qtx b with
      | none => rfl
      | some p => dsimp only; split <;> simp [*]
    have HX : Hid (∀ x, o = some x → ∀ T R : ByteArray, (okQ b = true → ∀ p, qtx b = some p → T = bs p.1 ∧ R = bs p.2) → (⟨3, 0, T⟩ : V3) = x.1 ∧ R = bs x.2) := by
      intro x hx T R h
      have hs1 : okQ b = true := by rw [← HS.out, hx]; rfl
      rw [ho] at hx
      cases hq : qtx b with
      | none => rw [hq] at hx; cases hx
      | some p =>
        rw [hq] at hx
        obtain ⟨h1, h2⟩ := h hs1 p hq
        dsimp only at hx
        split at hx
        · injection hx with hx
          rw [← hx, h1, h2]; exact ⟨rfl, rfl⟩
        · cases hx
    clear hHP hp1 hl ho HO hbs hE
    go_enter Tryd.func11, Tryd.ntmps11
    go_wp2_with (first | (go_at_call 19; refine Calls.mono (hHP2 _) ?_; rintro r0 w0 ⟨rfl, rfl⟩) | (go_at_call 20; refine Calls.mono (hC _ (by repeat (first | (with_reducible exact Below.refl _ _) | (with_reducible refine Below.drew ?_) | (with_reducible refine Below.alloc ?_ ?hh _; case hh => first | (simp; done) | (simp; omega) | omega) | (with_reducible refine Below.setCell ?_ ?hh _; case hh => first | (simp; done) | (simp; omega) | omega) | refine bstep (by assumption) (by first | (simp; done) | (simp; omega) | omega) ?_))) ?_; rintro r w1 ⟨⟨T, R, rfl, hTR⟩, hb1⟩; have hR1 : w1.heap[w.heap.size]? = some (.cells #[.int .i64 0, .int .i64 0, .string ⟨#[]⟩] 30 (0, 0)) := (hb1.block _ (by simp)).trans (heap_alloc_new w _); obtain ⟨r0, r1, r2, rf⟩ := cells3 hR1; have HR : Hid (w1.heap[w.heap.size]? = some (.cells #[.int .i64 0, .int .i64 0, .string ⟨#[]⟩] 30 (0, 0))) := hR1; have hbw : Below w.heap.size w w1 := (by repeat (first | (with_reducible exact Below.refl _ _) | (with_reducible refine Below.drew ?_) | (with_reducible refine Below.alloc ?_ ?hh _; case hh => first | (simp; done) | (simp; omega) | omega) | (with_reducible refine Below.setCell ?_ ?hh _; case hh => first | (simp; done) | (simp; omega) | omega) | refine bstep (by assumption) (by first | (simp; done) | (simp; omega) | omega) ?_)); have HTR : Hid (okQ b = true → ∀ p, qtx b = some p → T = bs p.1 ∧ R = bs p.2) := hTR; clear hb1 hR1 hTR) | fail)
    obtain ⟨c0, c1, c2, c3⟩ := three_out hbw (Nat.le_refl _) HR.out (.int .i64 3) (.int .i64 0) (.string T)
    clear r0 r1 r2 rf HR
    generalize ((w1.setCell ⟨w.heap.size, 0, none⟩ (.int .i64 3)).setCell ⟨w.heap.size, 1, none⟩ (.int .i64 0)).setCell ⟨w.heap.size, 2, none⟩ (.string T) = wF at c0 c1 c2 c3 ⊢
    refine bodyPost_ret (results_ctt rfl _ _ _ _ ⟨w.heap.size, 0, none⟩ rfl (loadV c0 c1 c2)) rfl (CvOut.mk (v := ⟨3, 0, T⟩) HS.out rfl (fun x hx => HX.out x hx T R HTR.out) c3)
  · have hp1 : Lib.hasPrefix s.data.toList [39] = false := by
      unfold Lib.hasPrefix
      cases hx : s.data.toList with
      | nil => rfl
      | cons c b => simp [List.isPrefixOf]; intro e; exact h39 ⟨b, by rw [hx, ← e]⟩
    have hHP2 : ∀ wz, Calls Tryd.prog 19 #[.string s, .string ⟨#[39]⟩] wz fun e w' => e = .returned (.bool false) ∧ w' = wz := fun wz => (hHP wz).mono fun e w' ⟨h1, h2⟩ => ⟨by rw [h1, ← hp1], h2⟩
    have hI := fun wz => Tryd.strings_Index_one s 44 wz
    have ho : o = (plainW (upC s.data.toList)).map (fun v => (v, frC s.data.toList)) := by
      rw [← HO.out]
      unfold oneV
      cases hx : s.data.toList with
      | nil => rfl
      | cons c b => dsimp only; rw [if_neg (fun e => h39 ⟨b, by rw [hx, e]⟩)]
    have hul : (upC s.data.toList).length ≤ s.size := by have := congrArg List.length (up_fr s.data.toList); rw [List.length_append] at this; simp at this; omega
    have hx1 : (s.extract 0 (upC s.data.toList).length).data.toList = upC s.data.toList := by
      rw [extract_l, List.drop_zero, Nat.sub_zero]
      exact (app_cut (up_fr s.data.toList)).1
    have hx2 : s.extract (upC s.data.toList).length s.size = bs (frC s.data.toList) := by
      apply ByteArray.ext; apply Array.ext'
      have h1 := (app_cut (up_fr s.data.toList)).2
      show (s.extract (upC s.data.toList).length s.size).data.toList = (bs (frC s.data.toList)).data.toList
      rw [extract_l, bs_data, h1, List.take_of_length_le]
      rw [← h1, List.length_drop]; simp
    have hsz : (s.extract 0 (upC s.data.toList).length).size ≤ 1048576 := by rw [ByteArray.size_extract]; omega
    have hV0 := fun wz (hb : Below w.heap.size w wz) => plainValue_any (s.extract 0 (upC s.data.toList).length) wz hsz (hE.below hb)
    rw [hx1] at hV0
    obtain ⟨E, HEd⟩ : ∃ E, Hid ((upC s.data.toList).length = E) := ⟨_, rfl⟩
    have hEz : E ≤ s.size := by rw [← HEd.out]; exact hul
    have hEzI : (E : Int) ≤ (s.size : Int) := by omega
    have hI2 : (∀ wz, Calls Tryd.prog 21 #[.string s, .string ⟨#[44]⟩] wz fun e w' => e = .returned (.int .i64 (-1)) ∧ w' = wz) ∧ (s.size : Int) = (E : Int) ∨ (∀ wz, Calls Tryd.prog 21 #[.string s, .string ⟨#[44]⟩] wz fun e w' => e = .returned (.int .i64 (E : Int)) ∧ w' = wz) := by
      rcases idx_c s.data.toList with ⟨h1, h2, _⟩ | h1
      · left
        refine ⟨fun wz => (hI wz).mono fun e w' ⟨h3, h4⟩ => ⟨by rw [h3, h1], h4⟩, ?_⟩
        rw [← HEd.out, h2]; simp
      · right
        exact fun wz => (hI wz).mono fun e w' ⟨h3, h4⟩ => ⟨by rw [h3, h1, HEd.out], h4⟩
    rw [HEd.out] at hV0 hx2
    have HX2 : Hid (s.extract E s.size = bs (frC s.data.toList)) := hx2
    have hE0 : ¬ ((E : Int) < 0) := by omega
    clear hHP hp1 hI hul hx1 hx2 hsz hE HO hbs h39
    obtain ⟨pw, HPW⟩ : ∃ pw, Hid (plainW (upC s.data.toList) = pw) := ⟨_, rfl⟩
    rw [HPW.out] at hV0
    have HS : Hid (o.isSome = pw.isSome) := by show _ = _; rw [ho, HPW.out]; cases pw <;> rfl
    have HX : Hid (∀ x, o = some x → ∀ v : V3, (∀ y, pw = some y → v = y) → v = x.1 ∧ s.extract E s.size = bs x.2) := by
      intro x hx v hv
      rw [ho, HPW.out] at hx
      cases pw with
      | none => cases hx
      | some y =>
        injection hx with hx
        rw [← hx]; exact ⟨hv y rfl, HX2.out⟩
    clear ho HPW HX2
    rcases hI2 with ⟨hI, hEs⟩ | hI
    · rw [HEd.out] at *
      go_enter Tryd.func11, Tryd.ntmps11
      go_wp2_with (first | (go_at_call 19; refine Calls.mono (hHP2 _) ?_; rintro r0 w0 ⟨rfl, rfl⟩) | (go_at_call 21; refine Calls.mono (hI _) ?_; rintro r0 w0 ⟨rfl, rfl⟩) | (go_at_call 22; refine Calls.mono (hV0 _ (by repeat (first | (with_reducible exact Below.refl _ _) | (with_reducible refine Below.drew ?_) | (with_reducible refine Below.alloc ?_ ?hh _; case hh => first | (simp; done) | (simp; omega) | omega) | (with_reducible refine Below.setCell ?_ ?hh _; case hh => first | (simp; done) | (simp; omega) | omega) | refine bstep (by assumption) (by first | (simp; done) | (simp; omega) | omega) ?_))) ?_; rintro r w1 ⟨⟨v, rfl, hv⟩, hb1⟩; have hR1 : w1.heap[w.heap.size]? = some (.cells #[.int .i64 0, .int .i64 0, .string ⟨#[]⟩] 30 (0, 0)) := (hb1.block _ (by simp)).trans (heap_alloc_new w _); obtain ⟨r0, r1, r2, rf⟩ := cells3 hR1; have HR : Hid (w1.heap[w.heap.size]? = some (.cells #[.int .i64 0, .int .i64 0, .string ⟨#[]⟩] 30 (0, 0))) := hR1; have hbw : Below w.heap.size w w1 := (by repeat (first | (with_reducible exact Below.refl _ _) | (with_reducible refine Below.drew ?_) | (with_reducible refine Below.alloc ?_ ?hh _; case hh => first | (simp; done) | (simp; omega) | omega) | (with_reducible refine Below.setCell ?_ ?hh _; case hh => first | (simp; done) | (simp; omega) | omega) | refine bstep (by assumption) (by first | (simp; done) | (simp; omega) | omega) ?_)); have hlt1 : w.heap.size < w1.heap.size := heapLt hR1; have HV : Hid (∀ x, pw = some x → v = x) := hv; clear hb1 hR1 hv) | fail)
      have hbx : Below w.heap.size w (w1.alloc (.cells #[.int .i64 v.k, .int .i64 v.n, .string v.s] 30)) := hbw.alloc (Nat.le_of_lt hlt1) _
      have HR2 : Hid ((w1.alloc (.cells #[.int .i64 v.k, .int .i64 v.n, .string v.s] 30)).heap[w.heap.size]? = some (.cells #[.int .i64 0, .int .i64 0, .string ⟨#[]⟩] 30 (0, 0))) := (heap_alloc_old w1 _ hlt1).trans HR.out
      have hBB : (w1.alloc (.cells #[.int .i64 v.k, .int .i64 v.n, .string v.s] 30)).heap[w1.heap.size]? = some (.cells #[.int .i64 v.k, .int .i64 v.n, .string v.s] 30 (0, 0)) := heap_alloc_new w1 _
      obtain ⟨b0, b1, b2, _⟩ := cells3 hBB
      clear r0 r1 r2 rf HR hBB hbw
      obtain ⟨r0, r1, r2, rf⟩ := cells3 HR2.out
      generalize w1.alloc (.cells #[.int .i64 v.k, .int .i64 v.n, .string v.s] 30) = wb at *
      have hne : w1.heap.size ≠ w.heap.size := by omega
      have hne2 : w.heap.size ≠ w1.heap.size := by omega
      go_region
      obtain ⟨c0, c1, c2, c3⟩ := three_out hbx (Nat.le_refl _) HR2.out (.int .i64 v.k) (.int .i64 v.n) (.string v.s)
      clear r0 r1 r2 rf HR2 b0 b1 b2
      generalize ((wb.setCell ⟨w.heap.size, 0, none⟩ (.int .i64 v.k)).setCell ⟨w.heap.size, 1, none⟩ (.int .i64 v.n)).setCell ⟨w.heap.size, 2, none⟩ (.string v.s) = wF at c0 c1 c2 c3 ⊢
      have d0 : wF.drew.cell? ⟨w.heap.size, 0, none⟩ = some (.int .i64 v.k) := c0
      have d1 : wF.drew.cell? ⟨w.heap.size, 1, none⟩ = some (.int .i64 v.n) := c1
      have d2 : wF.drew.cell? ⟨w.heap.size, 2, none⟩ = some (.string v.s) := c2
      have d3 : Below w.heap.size w wF.drew := ⟨c3.os, c3.tape, c3.output, c3.size, c3.block⟩
      generalize wF.drew = wG at d0 d1 d2 d3 ⊢
      clear c0 c1 c2 c3
      go_wp2
      refine bodyPost_ret (results_ctt rfl _ _ _ _ ⟨w.heap.size, 0, none⟩ rfl (loadV d0 d1 d2)) rfl (CvOut.mk (v := v) HS.out rfl (fun x hx => HX.out x hx v HV.out) d3)
    · rw [HEd.out] at *
      go_enter Tryd.func11, Tryd.ntmps11
      go_wp2_with (first | (go_at_call 19; refine Calls.mono (hHP2 _) ?_; rintro r0 w0 ⟨rfl, rfl⟩) | (go_at_call 21; refine Calls.mono (hI _) ?_; rintro r0 w0 ⟨rfl, rfl⟩) | (go_at_call 22; refine Calls.mono (hV0 _ (by repeat (first | (with_reducible exact Below.refl _ _) | (with_reducible refine Below.drew ?_) | (with_reducible refine Below.alloc ?_ ?hh _; case hh => first | (simp; done) | (simp; omega) | omega) | (with_reducible refine Below.setCell ?_ ?hh _; case hh => first | (simp; done) | (simp; omega) | omega) | refine bstep (by assumption) (by first | (simp; done) | (simp; omega) | omega) ?_))) ?_; rintro r w1 ⟨⟨v, rfl, hv⟩, hb1⟩; have hR1 : w1.heap[w.heap.size]? = some (.cells #[.int .i64 0, .int .i64 0, .string ⟨#[]⟩] 30 (0, 0)) := (hb1.block _ (by simp)).trans (heap_alloc_new w _); obtain ⟨r0, r1, r2, rf⟩ := cells3 hR1; have HR : Hid (w1.heap[w.heap.size]? = some (.cells #[.int .i64 0, .int .i64 0, .string ⟨#[]⟩] 30 (0, 0))) := hR1; have hbw : Below w.heap.size w w1 := (by repeat (first | (with_reducible exact Below.refl _ _) | (with_reducible refine Below.drew ?_) | (with_reducible refine Below.alloc ?_ ?hh _; case hh => first | (simp; done) | (simp; omega) | omega) | (with_reducible refine Below.setCell ?_ ?hh _; case hh => first | (simp; done) | (simp; omega) | omega) | refine bstep (by assumption) (by first | (simp; done) | (simp; omega) | omega) ?_)); have hlt1 : w.heap.size < w1.heap.size := heapLt hR1; have HV : Hid (∀ x, pw = some x → v = x) := hv; clear hb1 hR1 hv) | fail)
      have hbx : Below w.heap.size w (w1.alloc (.cells #[.int .i64 v.k, .int .i64 v.n, .string v.s] 30)) := hbw.alloc (Nat.le_of_lt hlt1) _
      have HR2 : Hid ((w1.alloc (.cells #[.int .i64 v.k, .int .i64 v.n, .string v.s] 30)).heap[w.heap.size]? = some (.cells #[.int .i64 0, .int .i64 0, .string ⟨#[]⟩] 30 (0, 0))) := (heap_alloc_old w1 _ hlt1).trans HR.out
      have hBB : (w1.alloc (.cells #[.int .i64 v.k, .int .i64 v.n, .string v.s] 30)).heap[w1.heap.size]? = some (.cells #[.int .i64 v.k, .int .i64 v.n, .string v.s] 30 (0, 0)) := heap_alloc_new w1 _
      obtain ⟨b0, b1, b2, _⟩ := cells3 hBB
      clear r0 r1 r2 rf HR hBB hbw
      obtain ⟨r0, r1, r2, rf⟩ := cells3 HR2.out
      generalize w1.alloc (.cells #[.int .i64 v.k, .int .i64 v.n, .string v.s] 30) = wb at *
      have hne : w1.heap.size ≠ w.heap.size := by omega
      have hne2 : w.heap.size ≠ w1.heap.size := by omega
      go_region
      obtain ⟨c0, c1, c2, c3⟩ := three_out hbx (Nat.le_refl _) HR2.out (.int .i64 v.k) (.int .i64 v.n) (.string v.s)
      clear r0 r1 r2 rf HR2 b0 b1 b2
      generalize ((wb.setCell ⟨w.heap.size, 0, none⟩ (.int .i64 v.k)).setCell ⟨w.heap.size, 1, none⟩ (.int .i64 v.n)).setCell ⟨w.heap.size, 2, none⟩ (.string v.s) = wF at c0 c1 c2 c3 ⊢
      have d0 : wF.drew.cell? ⟨w.heap.size, 0, none⟩ = some (.int .i64 v.k) := c0
      have d1 : wF.drew.cell? ⟨w.heap.size, 1, none⟩ = some (.int .i64 v.n) := c1
      have d2 : wF.drew.cell? ⟨w.heap.size, 2, none⟩ = some (.string v.s) := c2
      have d3 : Below w.heap.size w wF.drew := ⟨c3.os, c3.tape, c3.output, c3.size, c3.block⟩
      generalize wF.drew = wG at d0 d1 d2 d3 ⊢
      clear c0 c1 c2 c3
      go_wp2
      refine bodyPost_ret (results_ctt rfl _ _ _ _ ⟨w.heap.size, 0, none⟩ rfl (loadV d0 d1 d2)) rfl (CvOut.mk (v := v) HS.out rfl (fun x hx => HX.out x hx v HV.out) d3)
end Go.Proofs.YtbobjfokampjbaaDoor
