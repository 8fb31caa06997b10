/- Own text. What of the library's variables ReadRow leans on; the contracts of the program's DecText, numberFrom and plainValue. -/
import Derived.Test.YtbobjfokampjbaaDoorRrW
import Derived.Test.YtbobjfokampjbaaDoorShelf
import Derived.Lib.LaidTab
import Derived.Lib.SmallJoins
import Derived.Lib.AppendIntMem
import Derived.Handy
namespace Go.Proofs.YtbobjfokampjbaaDoor
open Go.RowKit
set_option linter.unusedVariables false
structure EnvR (w : World) : Prop where
  tab : Lib.TabIs Tryd.prog w "internal/strconv.uint64pow10" .u64 Lib.pow10Tab
  max : ∃ m, w.cell? ⟨0, 0, none⟩ = some (.int .i64 m)
  syn : ∃ t p, w.var? Tryd.prog "strconv.ErrSyntax" = some #[.iface t p]
  ran : ∃ t p, w.var? Tryd.prog "strconv.ErrRange" = some #[.iface t p]
theorem var_below {w w' : World} {n : String} {g : Nat} {cs : Array Value} (hg : Tryd.prog.globalNamed n = some g) (h : w.var? Tryd.prog n = some cs) (hb : Below w.heap.size w w') : w'.var? Tryd.prog n = some cs := by
  unfold World.var? at h ⊢
  rw [hg] at h ⊢
  have hlt : g < w.heap.size := by
    rcases Nat.lt_or_ge g w.heap.size with h' | h'
    · exact h'
    · rw [Option.bind_some, Array.getElem?_eq_none h'] at h
      cases h
  rw [Option.bind_some] at h ⊢
  rw [hb.block _ hlt]
  exact h
theorem gTabR : Tryd.prog.globalNamed "internal/strconv.uint64pow10" = some 3 := by kernel_rfl
theorem gSyn : Tryd.prog.globalNamed "strconv.ErrSyntax" = some 1 := by kernel_rfl
theorem gRan : Tryd.prog.globalNamed "strconv.ErrRange" = some 2 := by kernel_rfl
theorem EnvR.below {w w' : World} (h : EnvR w) (hb : Below w.heap.size w w') : EnvR w' := by
  obtain ⟨ht, ⟨m, hm⟩, ⟨t1, p1, h1⟩, ⟨t2, p2, h2⟩⟩ := h
  exact ⟨var_below gTabR ht hb, ⟨m, (hb.cell (World.block_lt_of_cell? w _ hm)).trans hm⟩, ⟨t1, p1, var_below gSyn h1 hb⟩, ⟨t2, p2, var_below gRan h2 hb⟩⟩
set_option maxHeartbeats 1000000 in
theorem decR_any (n : Int) (w : World) (h0 : -9223372036854775808 ≤ n) (h1 : n ≤ 9223372036854775807) (hE : EnvR w) :
    Calls Tryd.prog 44 #[.int .i64 n] w fun e w' => e = .returned (.string ⟨(Lib.itoa n).toArray⟩) ∧ Below w.heap.size w w' := by
  have htab := hE.tab
  clear hE
  go_enter Tryd.func44, Tryd.ntmps44
  go_wp2_with fail
  refine (Tryd.strconv_Itoa n h0 h1 _ htab).mono ?_
  rintro e w1 ⟨rfl, k, os, rfl⟩
  go_wp2_with fail
  go_returns
  exact ⟨rfl, Lib.below_grow _ _ (Nat.le_refl _) _ _⟩
/-- a number and whether it is one; new memory alone. -/
def NumB (l : List UInt8) (w : World) (e : Ending) (w' : World) : Prop := (∃ n : Int, e = .returned (.tuple #[.int .i64 n, .bool (okN l)]) ∧ (okN l = true → n = valN l)) ∧ Below w.heap.size w w'
theorem NumB.mk {l : List UInt8} {w w' : World} {e : Ending} {n : Int} {b : Bool} (h : okN l = b) (he : e = .returned (.tuple #[.int .i64 n, .bool b])) (hv : b = true → n = valN l) (hb : Below w.heap.size w w') : NumB l w e w' := by
  subst h
  exact ⟨⟨n, he, hv⟩, hb⟩
set_option maxHeartbeats 2000000 in
set_option maxRecDepth 100000 in
theorem numberFrom_any (s : ByteArray) (w : World) (hs : s.size ≤ 1048576) (hE : EnvR w) :
    Calls Tryd.prog 32 #[.string s] w fun e w' => NumB s.data.toList w e w' := by
  rcases ha : Lib.atoiAll s.data.toList with v | _ | _
  · have hA := Tryd.strconv_Atoi_ok s (by omega) v ha w
    have hA2 : Calls Tryd.prog 43 #[.string s] w fun e w' => e = .returned (.tuple #[.int .i64 v, .nilIface]) ∧ Below w.heap.size w w' := hA.mono fun e w' ⟨h1, h2⟩ => ⟨h1, by
      rcases h2 with rfl | ⟨t, rfl⟩
      · exact Below.refl _ _
      · exact Lib.bytesWorld_below _ _ _⟩
    obtain ⟨h0, h1⟩ := Lib.atoiAll_bounds ha
    have hok : okN s.data.toList = (Lib.itoa v == s.toList) := by unfold okN; rw [ha, tl]
    have hval : Hid (valN s.data.toList = v) := by show _ = _; unfold valN; rw [ha]
    have hD := fun w2 (hb : Below w.heap.size w w2) => decR_any v w2 h0 h1 (hE.below hb)
    obtain ⟨b, hb⟩ : ∃ b, (Lib.itoa v == s.toList) = b := ⟨_, rfl⟩
    have HB : Hid (okN s.data.toList = b) := hok.trans hb
    clear hA ha hE hok
    cases b
    · go_enter Tryd.func32, Tryd.ntmps32
      go_wp2_with (first | (go_at_call 43; refine Calls.mono hA2 ?_; rintro r w1 ⟨rfl, hb1⟩) | (go_at_call 44; refine Calls.mono (hD _ hb1) ?_; rintro r w2 ⟨rfl, hb2⟩) | fail)
      go_returns
      exact NumB.mk HB.out rfl (fun _ => hval.out.symm) (hb1.trans (hb2.mono hb1.size))
    · go_enter Tryd.func32, Tryd.ntmps32
      go_wp2_with (first | (go_at_call 43; refine Calls.mono hA2 ?_; rintro r w1 ⟨rfl, hb1⟩) | (go_at_call 44; refine Calls.mono (hD _ hb1) ?_; rintro r w2 ⟨rfl, hb2⟩) | fail)
      go_returns
      exact NumB.mk HB.out rfl (fun _ => hval.out.symm) (hb1.trans (hb2.mono hb1.size))
  · obtain ⟨tp, p, hv⟩ := hE.syn
    have hA := Tryd.strconv_Atoi_syntax_var s (by omega) ha tp p w hv
    have HB : Hid (okN s.data.toList = false) := by show _ = _; unfold okN; rw [ha]
    clear ha hE hv
    go_enter Tryd.func32, Tryd.ntmps32
    go_wp2_with (first | (go_at_call 43; refine Calls.mono hA ?_; rintro r w1 ⟨N, rfl, _, _, hb1⟩) | fail)
    go_returns
    exact NumB.mk HB.out rfl (fun h => by cases h) hb1
  · obtain ⟨tp, p, hv⟩ := hE.ran
    have hA := Tryd.strconv_Atoi_range_var s (by omega) ha tp p w hv
    have HB : Hid (okN s.data.toList = false) := by show _ = _; unfold okN; rw [ha]
    clear ha hE hv
    go_enter Tryd.func32, Tryd.ntmps32
    go_wp2_with (first | (go_at_call 43; refine Calls.mono hA ?_; rintro r w1 ⟨N, rfl, _, _, hb1⟩) | fail)
    go_returns
    exact NumB.mk HB.out rfl (fun h => by cases h) hb1
set_option maxHeartbeats 1000000 in
theorem boolR_any (b : Bool) (w : World) : Calls Tryd.prog 31 #[.bool b] w fun e w' => e = .returned (.agg #[.int .i64 2, .int .i64 (if b = true then 1 else 0), .string ⟨#[]⟩]) ∧ Below w.heap.size w w' := by
  cases b
  · go_enter Tryd.func31, Tryd.ntmps31
    go_wp2_with fail
    refine bodyPost_ret (results_c rfl _ _ _ _ ⟨w.heap.size, 0, none⟩ rfl (loadV (by go_simp) (by go_simp) (by go_simp))) rfl ⟨rfl, by repeat (first | (with_reducible exact Below.refl _ _) | (with_reducible refine Below.drew ?_) | (with_reducible refine Below.alloc ?_ ?hh _; case hh => first | (simp; done) | (simp; omega) | omega) | (with_reducible refine Below.setCell ?_ ?hh _; case hh => first | (simp; done) | (simp; omega) | omega) | refine bstep (by assumption) (by first | (simp; done) | (simp; omega) | omega) ?_)⟩
  · go_enter Tryd.func31, Tryd.ntmps31
    go_wp2_with fail
    refine bodyPost_ret (results_c rfl _ _ _ _ ⟨w.heap.size, 0, none⟩ rfl (loadV (by go_simp) (by go_simp) (by go_simp))) rfl ⟨rfl, by repeat (first | (with_reducible exact Below.refl _ _) | (with_reducible refine Below.drew ?_) | (with_reducible refine Below.alloc ?_ ?hh _; case hh => first | (simp; done) | (simp; omega) | omega) | (with_reducible refine Below.setCell ?_ ?hh _; case hh => first | (simp; done) | (simp; omega) | omega) | refine bstep (by assumption) (by first | (simp; done) | (simp; omega) | omega) ?_)⟩
set_option maxHeartbeats 4000000 in
set_option maxRecDepth 100000 in
theorem plainValue_any (s : ByteArray) (w : World) (hs : s.size ≤ 1048576) (hE : EnvR w) :
    Calls Tryd.prog 22 #[.string s] w fun e w' => ValOut (plainW s.data.toList) w e w' := by
  obtain ⟨o, HO⟩ : ∃ o, Hid (plainW s.data.toList = o) := ⟨_, rfl⟩
  rw [HO.out]
  by_cases hN : s.data.toList = [110, 117, 108, 108]
  · have h1 : (s.toList == [110, 117, 108, 108]) = true := by rw [tl, hN]; decide
    have hv : Hid (o = some ⟨0, 0, ⟨#[]⟩⟩) := by show _ = _; rw [← HO.out, hN]; rfl
    clear hN HO hE
    go_enter Tryd.func22, Tryd.ntmps22
    go_wp2_with fail
    refine bodyPost_ret (results_ct rfl _ _ _ _ ⟨w.heap.size, 0, none⟩ rfl (loadV (by go_simp) (by go_simp) (by go_simp))) rfl (ValOut.yes hv.out rfl (by repeat (first | (with_reducible exact Below.refl _ _) | (with_reducible refine Below.drew ?_) | (with_reducible refine Below.alloc ?_ ?hh _; case hh => first | (simp; done) | (simp; omega) | omega) | (with_reducible refine Below.setCell ?_ ?hh _; case hh => first | (simp; done) | (simp; omega) | omega) | refine bstep (by assumption) (by first | (simp; done) | (simp; omega) | omega) ?_)))
  have h1 : (s.toList == [110, 117, 108, 108]) = false := by rw [tl, beq_eq_false_iff_ne]; exact hN
  by_cases hT : s.data.toList = [116, 114, 117, 101]
  · have h2 : (s.toList == [116, 114, 117, 101]) = true := by rw [tl, hT]; decide
    have hv : Hid (o = some ⟨2, 1, ⟨#[]⟩⟩) := by show _ = _; rw [← HO.out, hT]; rfl
    clear hN hT HO hE
    go_enter Tryd.func22, Tryd.ntmps22
    go_wp2_with (first | (go_at_call 31; refine Calls.mono (boolR_any true _) ?_; rintro r w1 ⟨rfl, hb1⟩; have hR1 : w1.heap[w.heap.size]? = some (.cells #[.int .i64 0, .int .i64 0, .string ⟨#[]⟩] 30 (0, 0)) := (hb1.block _ (by simp)).trans (heap_alloc_new w _); obtain ⟨r0, r1, r2, rf⟩ := cells3 hR1; have HR : Hid (w1.heap[w.heap.size]? = some (.cells #[.int .i64 0, .int .i64 0, .string ⟨#[]⟩] 30 (0, 0))) := hR1; have hbw : Below w.heap.size w w1 := (by repeat (first | (with_reducible exact Below.refl _ _) | (with_reducible refine Below.drew ?_) | (with_reducible refine Below.alloc ?_ ?hh _; case hh => first | (simp; done) | (simp; omega) | omega) | (with_reducible refine Below.setCell ?_ ?hh _; case hh => first | (simp; done) | (simp; omega) | omega) | refine bstep (by assumption) (by first | (simp; done) | (simp; omega) | omega) ?_)); clear hb1 hR1) | fail)
    obtain ⟨c0, c1, c2, c3⟩ := three_out hbw (Nat.le_refl _) HR.out (.int .i64 2) (.int .i64 1) (.string ⟨#[]⟩)
    clear r0 r1 r2 rf HR
    generalize ((w1.setCell ⟨w.heap.size, 0, none⟩ (.int .i64 2)).setCell ⟨w.heap.size, 1, none⟩ (.int .i64 1)).setCell ⟨w.heap.size, 2, none⟩ (.string ⟨#[]⟩) = wF at c0 c1 c2 c3 ⊢
    refine bodyPost_ret (results_ct rfl _ _ _ _ ⟨w.heap.size, 0, none⟩ rfl (loadV c0 c1 c2)) rfl (ValOut.yes hv.out rfl c3)
  have h2 : (s.toList == [116, 114, 117, 101]) = false := by rw [tl, beq_eq_false_iff_ne]; exact hT
  by_cases hF : s.data.toList = [102, 97, 108, 115, 101]
  · have h3 : (s.toList == [102, 97, 108, 115, 101]) = true := by rw [tl, hF]; decide
    have hv : Hid (o = some ⟨2, 0, ⟨#[]⟩⟩) := by show _ = _; rw [← HO.out, hF]; rfl
    clear hN hT hF HO hE
    go_enter Tryd.func22, Tryd.ntmps22
    go_wp2_with (first | (go_at_call 31; refine Calls.mono (boolR_any false _) ?_; rintro r w1 ⟨rfl, hb1⟩; have hR1 : w1.heap[w.heap.size]? = some (.cells #[.int .i64 0, .int .i64 0, .string ⟨#[]⟩] 30 (0, 0)) := (hb1.block _ (by simp)).trans (heap_alloc_new w _); obtain ⟨r0, r1, r2, rf⟩ := cells3 hR1; have HR : Hid (w1.heap[w.heap.size]? = some (.cells #[.int .i64 0, .int .i64 0, .string ⟨#[]⟩] 30 (0, 0))) := hR1; have hbw : Below w.heap.size w w1 := (by repeat (first | (with_reducible exact Below.refl _ _) | (with_reducible refine Below.drew ?_) | (with_reducible refine Below.alloc ?_ ?hh _; case hh => first | (simp; done) | (simp; omega) | omega) | (with_reducible refine Below.setCell ?_ ?hh _; case hh => first | (simp; done) | (simp; omega) | omega) | refine bstep (by assumption) (by first | (simp; done) | (simp; omega) | omega) ?_)); clear hb1 hR1) | fail)
    obtain ⟨c0, c1, c2, c3⟩ := three_out hbw (Nat.le_refl _) HR.out (.int .i64 2) (.int .i64 0) (.string ⟨#[]⟩)
    clear r0 r1 r2 rf HR
    generalize ((w1.setCell ⟨w.heap.size, 0, none⟩ (.int .i64 2)).setCell ⟨w.heap.size, 1, none⟩ (.int .i64 0)).setCell ⟨w.heap.size, 2, none⟩ (.string ⟨#[]⟩) = wF at c0 c1 c2 c3 ⊢
    refine bodyPost_ret (results_ct rfl _ _ _ _ ⟨w.heap.size, 0, none⟩ rfl (loadV c0 c1 c2)) rfl (ValOut.yes hv.out rfl c3)
  have h3 : (s.toList == [102, 97, 108, 115, 101]) = false := by rw [tl, beq_eq_false_iff_ne]; exact hF
  have hv : Hid (o = if okN s.data.toList = true then some ⟨1, valN s.data.toList, ⟨#[]⟩⟩ else none) := by
    show _ = _
    rw [← HO.out]
    unfold plainW
    rw [if_neg hN, if_neg hT, if_neg hF]
  have hNum0 := fun wz (hb : Below w.heap.size w wz) => numberFrom_any s wz hs (hE.below hb)
  clear HO hN hT hF hE
  cases hb : okN s.data.toList with
  | true =>
    have hNum : ∀ wz, Below w.heap.size w wz → Calls Tryd.prog 32 #[.string s] wz fun e w' => e = .returned (.tuple #[.int .i64 (valN s.data.toList), .bool true]) ∧ Below wz.heap.size wz w' := fun wz hz => (hNum0 wz hz).mono fun e w' ⟨⟨n, h1, h2⟩, h3⟩ => ⟨by rw [h1, hb, h2 hb], h3⟩
    have hv2 : Hid (o = some ⟨1, valN s.data.toList, ⟨#[]⟩⟩) := by show _ = _; rw [hv.out, if_pos hb]
    generalize valN s.data.toList = n at *
    clear hv hb hNum0
    go_enter Tryd.func22, Tryd.ntmps22
    go_wp2_with (first | (go_at_call 32; refine Calls.mono (hNum _ (by repeat (first | (with_reducible exact Below.refl _ _) | (with_reducible refine Below.drew ?_) | (with_reducible refine Below.alloc ?_ ?hh _; case hh => first | (simp; done) | (simp; omega) | omega) | (with_reducible refine Below.setCell ?_ ?hh _; case hh => first | (simp; done) | (simp; omega) | omega) | refine bstep (by assumption) (by first | (simp; done) | (simp; omega) | omega) ?_))) ?_; rintro r w1 ⟨rfl, hb1⟩; have hR1 : w1.heap[w.heap.size]? = some (.cells #[.int .i64 0, .int .i64 0, .string ⟨#[]⟩] 30 (0, 0)) := (hb1.block _ (by simp)).trans (heap_alloc_new w _); obtain ⟨r0, r1, r2, rf⟩ := cells3 hR1; have HR : Hid (w1.heap[w.heap.size]? = some (.cells #[.int .i64 0, .int .i64 0, .string ⟨#[]⟩] 30 (0, 0))) := hR1; have hbw : Below w.heap.size w w1 := (by repeat (first | (with_reducible exact Below.refl _ _) | (with_reducible refine Below.drew ?_) | (with_reducible refine Below.alloc ?_ ?hh _; case hh => first | (simp; done) | (simp; omega) | omega) | (with_reducible refine Below.setCell ?_ ?hh _; case hh => first | (simp; done) | (simp; omega) | omega) | refine bstep (by assumption) (by first | (simp; done) | (simp; omega) | omega) ?_)); clear hb1 hR1) | fail)
    obtain ⟨c0, c1, c2, c3⟩ := three_out hbw (Nat.le_refl _) HR.out (.int .i64 1) (.int .i64 n) (.string ⟨#[]⟩)
    clear r0 r1 r2 rf HR
    generalize ((w1.setCell ⟨w.heap.size, 0, none⟩ (.int .i64 1)).setCell ⟨w.heap.size, 1, none⟩ (.int .i64 n)).setCell ⟨w.heap.size, 2, none⟩ (.string ⟨#[]⟩) = wF at c0 c1 c2 c3 ⊢
    refine bodyPost_ret (results_ct rfl _ _ _ _ ⟨w.heap.size, 0, none⟩ rfl (loadV c0 c1 c2)) rfl (ValOut.yes hv2.out rfl c3)
  | false =>
    have hNum : ∀ wz, Below w.heap.size w wz → Calls Tryd.prog 32 #[.string s] wz fun e w' => (∃ n : Int, e = .returned (.tuple #[.int .i64 n, .bool false])) ∧ Below wz.heap.size wz w' := fun wz hz => (hNum0 wz hz).mono fun e w' ⟨⟨n, h1, h2⟩, h3⟩ => ⟨⟨n, by rw [h1, hb]⟩, h3⟩
    have hv2 : Hid (o = none) := by show _ = _; rw [hv.out, if_neg (by rw [hb]; decide)]
    clear hv hb hNum0
    go_enter Tryd.func22, Tryd.ntmps22
    go_wp2_with (first | (go_at_call 32; refine Calls.mono (hNum _ (by repeat (first | (with_reducible exact Below.refl _ _) | (with_reducible refine Below.drew ?_) | (with_reducible refine Below.alloc ?_ ?hh _; case hh => first | (simp; done) | (simp; omega) | omega) | (with_reducible refine Below.setCell ?_ ?hh _; case hh => first | (simp; done) | (simp; omega) | omega) | refine bstep (by assumption) (by first | (simp; done) | (simp; omega) | omega) ?_))) ?_; rintro r w1 ⟨⟨n, rfl⟩, hb1⟩; have hR1 : w1.heap[w.heap.size]? = some (.cells #[.int .i64 0, .int .i64 0, .string ⟨#[]⟩] 30 (0, 0)) := (hb1.block _ (by simp)).trans (heap_alloc_new w _); obtain ⟨r0, r1, r2, rf⟩ := cells3 hR1; have HR : Hid (w1.heap[w.heap.size]? = some (.cells #[.int .i64 0, .int .i64 0, .string ⟨#[]⟩] 30 (0, 0))) := hR1; have hbw : Below w.heap.size w w1 := (by repeat (first | (with_reducible exact Below.refl _ _) | (with_reducible refine Below.drew ?_) | (with_reducible refine Below.alloc ?_ ?hh _; case hh => first | (simp; done) | (simp; omega) | omega) | (with_reducible refine Below.setCell ?_ ?hh _; case hh => first | (simp; done) | (simp; omega) | omega) | refine bstep (by assumption) (by first | (simp; done) | (simp; omega) | omega) ?_)); clear hb1 hR1) | fail)
    obtain ⟨c0, c1, c2, c3⟩ := three_out hbw (Nat.le_refl _) HR.out (.int .i64 1) (.int .i64 n) (.string ⟨#[]⟩)
    clear r0 r1 r2 rf HR
    generalize ((w1.setCell ⟨w.heap.size, 0, none⟩ (.int .i64 1)).setCell ⟨w.heap.size, 1, none⟩ (.int .i64 n)).setCell ⟨w.heap.size, 2, none⟩ (.string ⟨#[]⟩) = wF at c0 c1 c2 c3 ⊢
    refine bodyPost_ret (results_ct rfl _ _ _ _ ⟨w.heap.size, 0, none⟩ rfl (loadV c0 c1 c2)) rfl (ValOut.no (v := ⟨1, n, ⟨#[]⟩⟩) hv2.out rfl c3)
end Go.Proofs.YtbobjfokampjbaaDoor
