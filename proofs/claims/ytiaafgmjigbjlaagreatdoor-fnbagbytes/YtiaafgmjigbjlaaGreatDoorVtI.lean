/- Own text. The contract of the program's ValueText. -/
import Derived.Test.YtiaafgmjigbjlaaGreatDoorVtP
import Derived.Test.YtiaafgmjigbjlaaGreatDoorVOkImpl
import Derived.Test.YtiaafgmjigbjlaaGreatDoorAsserts
import Derived.Test.YtiaafgmjigbjlaaGreatDoorShelf
import Derived.Lib.AppendIntMem
import Derived.Handy
namespace Go.Proofs.YtiaafgmjigbjlaaGreatDoor
open Go.RowKit
set_option linter.unusedVariables false
attribute [local go_sem] ta_nullForm_nullForm ta_nullForm_intForm ta_nullForm_boolForm ta_nullForm_textForm ta_intForm_nullForm ta_intForm_intForm ta_intForm_boolForm ta_intForm_textForm ta_boolForm_nullForm ta_boolForm_intForm ta_boolForm_boolForm ta_boolForm_textForm ta_textForm_nullForm ta_textForm_intForm ta_textForm_boolForm ta_textForm_textForm ta_nil_nullForm ta_nil_intForm ta_nil_boolForm ta_nil_textForm
theorem ta_text1T (s : ByteArray) (w : World) : (Instr.typeAssert (.iface 101 (.agg #[.string s])) 80 101 false).run Tryz.prog w = .ok (.agg #[.string s]) w := by kernel_rfl
theorem fld_textT (s : ByteArray) (w : World) : (Instr.field 101 (.agg #[.string s]) 0).run Tryz.prog w = .ok (.string s) w := by kernel_rfl
attribute [local go_sem] ta_text1T fld_textT
theorem gTab : Tryz.prog.globalNamed "internal/strconv.uint64pow10" = some 0 := by kernel_rfl
theorem Env.below {w w' : World} (h : Env w) (hb : Below w.heap.size w w') : Env w' := by
  refine ⟨?_, ?_⟩
  · have ht := h.tab
    unfold Lib.TabIs World.var? at ht ⊢
    rw [gTab] at ht ⊢
    have hlt : 0 < w.heap.size := by
      rcases Nat.lt_or_ge 0 w.heap.size with h' | h'
      · exact h'
      · rw [Option.bind_some, Array.getElem?_eq_none h'] at ht
        cases ht
    rw [Option.bind_some] at ht ⊢
    rw [hb.block _ hlt]
    exact ht
  · obtain ⟨m, hm⟩ := h.max
    exact ⟨m, (hb.cell (World.block_lt_of_cell? w _ hm)).trans hm⟩
set_option maxHeartbeats 1000000 in
theorem implDec_env (n : Int) (w : World) (h0 : -9223372036854775808 ≤ n) (h1 : n ≤ 9223372036854775807) (hE : Env w) :
    Calls Tryz.prog 28 #[.int .i64 n] w fun e w' => e = .returned (.string (bs (Lib.itoa n))) ∧ Below w.heap.size w w' := by
  have htab := hE.tab
  clear hE
  go_enter Tryz.func28, Tryz.ntmps28
  go_wp2_with fail
  refine (Tryz.strconv_Itoa n h0 h1 _ htab).mono ?_
  rintro e w1 ⟨rfl, k, os, rfl⟩
  go_wp2_with fail
  go_returns
  exact ⟨rfl, Lib.below_grow _ _ (Nat.le_refl _) _ _⟩
set_option maxHeartbeats 1000000 in
set_option maxRecDepth 100000 in
theorem ft_0 (w : World) : Calls Tryz.prog 64 #[.iface 98 (.agg #[])] w fun e w' => e = .returned (.string (bs [110, 117, 108, 108])) ∧ Below w.heap.size w w' := by
  go_enter Tryz.func64, Tryz.ntmps64
  go_wp2
  go_returns
  exact ⟨rfl, by go_grown⟩
set_option maxHeartbeats 1000000 in
set_option maxRecDepth 100000 in
theorem ft_1 (n : Int) (w : World) (h0 : -9223372036854775808 ≤ n) (h1 : n ≤ 9223372036854775807) (hE : Env w) : Calls Tryz.prog 64 #[.iface 77 (.agg #[.int .i64 n])] w fun e w' => e = .returned (.string (bs (Lib.itoa n))) ∧ Below w.heap.size w w' := by
  have hD := fun w2 (hb : Below w.heap.size w w2) => implDec_env n w2 h0 h1 (hE.below hb)
  clear hE
  go_enter Tryz.func64, Tryz.ntmps64
  go_wp2_with fail
  refine (hD _ ?hb).mono ?_
  case hb => repeat (first | (with_reducible exact Below.refl _ _) | (with_reducible refine Below.drew ?_) | (with_reducible refine Below.alloc ?_ ?hh _; case hh => first | (simp; done) | (simp; omega) | omega) | (with_reducible refine Below.setCell ?_ ?hh _; case hh => first | (simp; done) | (simp; omega) | omega) | refine bstep (by assumption) (by first | (simp; done) | (simp; omega) | omega) ?_)
  rintro e w1 ⟨rfl, hb1⟩
  have bel1 : Below w.heap.size w w1 := by repeat (first | (with_reducible exact Below.refl _ _) | (with_reducible refine Below.drew ?_) | (with_reducible refine Below.alloc ?_ ?hh _; case hh => first | (simp; done) | (simp; omega) | omega) | (with_reducible refine Below.setCell ?_ ?hh _; case hh => first | (simp; done) | (simp; omega) | omega) | refine bstep (by assumption) (by first | (simp; done) | (simp; omega) | omega) ?_)
  clear hb1 hD
  go_wp2_with fail
  go_returns
  exact ⟨rfl, bel1⟩
set_option maxHeartbeats 1000000 in
set_option maxRecDepth 100000 in
theorem ft_2 (n : Int) (w : World) : Calls Tryz.prog 64 #[.iface 99 (.agg #[.int .i64 n])] w fun e w' => e = .returned (.string (bs (if n = 1 then [116, 114, 117, 101] else [102, 97, 108, 115, 101]))) ∧ Below w.heap.size w w' := by
  by_cases hn : n = 1
  · subst hn
    go_enter Tryz.func64, Tryz.ntmps64
    go_wp2
    go_returns
    exact ⟨rfl, by go_grown⟩
  · have hn' : (n == 1) = false := by simpa using hn
    rw [if_neg hn]
    go_enter Tryz.func64, Tryz.ntmps64
    go_wp2
    go_returns
    exact ⟨rfl, by go_grown⟩
set_option maxHeartbeats 1000000 in
set_option maxRecDepth 100000 in
theorem ft_3 (s : ByteArray) (w : World) (hs : s.size ≤ 100) (hE : Env w) : Calls Tryz.prog 64 #[.iface 101 (.agg #[.string s])] w fun e w' => e = .returned (.string (bs (39 :: (quo s.data.toList ++ [39])))) ∧ Below w.heap.size w w' := by
  have hR : ∀ w2, Below w.heap.size w w2 → Calls Tryz.prog 75 #[.string s, .string ⟨#[39]⟩, .string ⟨#[39, 39]⟩] w2 fun e w' => e = .returned (.string (bs (quo s.data.toList))) ∧ Below w2.heap.size w2 w' := by
    intro w2 hb
    obtain ⟨m, hm⟩ := (hE.below hb).max
    have h1 := Tryz.strings_ReplaceAll s ⟨#[39]⟩ ⟨#[39, 39]⟩ m w2 (by omega) hm (by decide) (by
      have := count_le_q s.data.toList
      have h4 : s.data.toList.length = s.size := Array.length_toList
      show s.size + Lib.count s.data.toList [39] * 2 ≤ _
      omega)
    refine h1.mono ?_
    rintro e w3 ⟨rfl, hb3⟩
    exact ⟨by rw [show (⟨#[39]⟩ : ByteArray).data.toList = [39] from rfl, show (⟨#[39, 39]⟩ : ByteArray).data.toList = [39, 39] from rfl, replaceAll_q]; rfl, hb3⟩
  have hq := quo_len s.data.toList
  have hl : s.data.toList.length = s.size := Array.length_toList
  obtain ⟨x, HX⟩ : ∃ x, Hid (x = bs (quo s.data.toList)) := ⟨_, rfl⟩
  have hx : x.size ≤ 200 := by rw [HX.out, bs_size]; omega
  have hxs : ((⟨#[39]⟩ : ByteArray) ++ x).size ≤ 201 := by rw [ByteArray.size_append]; have : (⟨#[39]⟩ : ByteArray).size = 1 := rfl; omega
  have HF : Hid (((⟨#[39]⟩ : ByteArray) ++ x) ++ (⟨#[39]⟩ : ByteArray) = bs (39 :: (quo s.data.toList ++ [39]))) := by
    show _ = _
    rw [HX.out, show (⟨#[39]⟩ : ByteArray) = bs [39] from rfl, bs_app, bs_app]
    simp
  rw [← HX.out] at hR
  clear hE hq hl
  go_enter Tryz.func64, Tryz.ntmps64
  go_wp2_with fail
  refine (hR _ ?hb).mono ?_
  case hb => repeat (first | (with_reducible exact Below.refl _ _) | (with_reducible refine Below.drew ?_) | (with_reducible refine Below.alloc ?_ ?hh _; case hh => first | (simp; done) | (simp; omega) | omega) | (with_reducible refine Below.setCell ?_ ?hh _; case hh => first | (simp; done) | (simp; omega) | omega) | refine bstep (by assumption) (by first | (simp; done) | (simp; omega) | omega) ?_)
  rintro e w1 ⟨rfl, hb1⟩
  have bel1 : Below w.heap.size w w1 := by repeat (first | (with_reducible exact Below.refl _ _) | (with_reducible refine Below.drew ?_) | (with_reducible refine Below.alloc ?_ ?hh _; case hh => first | (simp; done) | (simp; omega) | omega) | (with_reducible refine Below.setCell ?_ ?hh _; case hh => first | (simp; done) | (simp; omega) | omega) | refine bstep (by assumption) (by first | (simp; done) | (simp; omega) | omega) ?_)
  clear hb1 hR
  go_wp2_with fail
  go_returns
  exact ⟨by rw [← HF.out]; rfl, bel1⟩
set_option maxHeartbeats 1000000 in
set_option maxRecDepth 100000 in
theorem implVt_any (k n : Int) (s : ByteArray) (w : World) (hs : s.size ≤ maxLen) (h0 : -9223372036854775808 ≤ n) (h1 : n ≤ 9223372036854775807) (hE : Env w) :
    Calls Tryz.prog 49 #[(.agg #[.int .i64 k, .int .i64 n, .string s])] w fun e w' => e = .returned (.string (bs (vt k n s))) ∧ Below w.heap.size w w' := by
  obtain ⟨r, hr⟩ : ∃ r, Hid (vt k n s = r) := ⟨_, rfl⟩
  rw [hr.out]
  obtain ⟨ok, hok⟩ : ∃ ok, Hid (okB k n s = ok) := ⟨_, rfl⟩
  have hok' := hok.out
  have HE : Hid (Env w) := hE
  clear hE
  go_enter Tryz.func49, Tryz.ntmps49
  go_wp2_with fail
  refine (implValueOk_any _ _ _ _ hs).mono ?_
  rintro e w1 ⟨rfl, hb1⟩
  rw [hok']
  clear hok'
  have hz1 := hb1.size
  simp only [World.size_alloc] at hz1
  have hy1 : w.heap.size < w1.heap.size := by omega
  have qa : w1.cell? ⟨w.heap.size, 0, none⟩ = some (.int .i64 k) := cell_later hb1 (by go_simp)
  have qb : w1.cell? ⟨w.heap.size, 1, none⟩ = some (.int .i64 n) := cell_later hb1 (by go_simp)
  have qc : w1.cell? ⟨w.heap.size, 2, none⟩ = some (.string s) := cell_later hb1 (by go_simp)
  have bel1 : Below w.heap.size w w1 := by repeat (first | (with_reducible exact Below.refl _ _) | (with_reducible refine Below.drew ?_) | (with_reducible refine Below.alloc ?_ ?hh _; case hh => first | (simp; done) | (simp; omega) | omega) | (with_reducible refine Below.setCell ?_ ?hh _; case hh => first | (simp; done) | (simp; omega) | omega) | refine bstep (by assumption) (by first | (simp; done) | (simp; omega) | omega) ?_)
  clear hb1
  cases ok with
  | false =>
    have hp : Hid (r = []) := by show _ = _; rw [← hr.out]; exact vt_no k n s hok.out
    go_wp2_with fail
    go_returns
    exact ⟨by rw [hp.out]; rfl, bel1⟩
  | true =>
    rcases okB_kz k n s hok.out with rfl | rfl | rfl | rfl
    · have hp : Hid (r = [110, 117, 108, 108]) := by show _ = _; rw [← hr.out]; exact vt_0 n s hok.out
      go_wp2_with fail
      refine (formOf_0 _ _ _).mono ?_
      rintro e w2 ⟨rfl, hw2⟩
      have bel2 : Below w.heap.size w w2 := by first | (subst hw2; repeat (first | (with_reducible exact Below.refl _ _) | (with_reducible refine Below.drew ?_) | (with_reducible refine Below.alloc ?_ ?hh _; case hh => first | (simp; done) | (simp; omega) | omega) | (with_reducible refine Below.setCell ?_ ?hh _; case hh => first | (simp; done) | (simp; omega) | omega) | refine bstep (by assumption) (by first | (simp; done) | (simp; omega) | omega) ?_)) | repeat (first | (with_reducible exact Below.refl _ _) | (with_reducible refine Below.drew ?_) | (with_reducible refine Below.alloc ?_ ?hh _; case hh => first | (simp; done) | (simp; omega) | omega) | (with_reducible refine Below.setCell ?_ ?hh _; case hh => first | (simp; done) | (simp; omega) | omega) | refine bstep (by assumption) (by first | (simp; done) | (simp; omega) | omega) ?_)
      clear hw2
      go_wp2_with fail
      refine (ft_0 _).mono ?_
      rintro e w3 ⟨rfl, hb3⟩
      have bel3 : Below w.heap.size w w3 := bel2.trans (hb3.mono bel2.size)
      rw [← hp.out]
      clear hb3
      go_wp2_with fail
      go_returns
      exact ⟨rfl, bel3⟩
    · have hp : Hid (r = Lib.itoa n) := by show _ = _; rw [← hr.out]; exact vt_1 n s hok.out
      go_wp2_with fail
      refine (formOf_1 _ _ _).mono ?_
      rintro e w2 ⟨rfl, hw2⟩
      have bel2 : Below w.heap.size w w2 := by first | (subst hw2; repeat (first | (with_reducible exact Below.refl _ _) | (with_reducible refine Below.drew ?_) | (with_reducible refine Below.alloc ?_ ?hh _; case hh => first | (simp; done) | (simp; omega) | omega) | (with_reducible refine Below.setCell ?_ ?hh _; case hh => first | (simp; done) | (simp; omega) | omega) | refine bstep (by assumption) (by first | (simp; done) | (simp; omega) | omega) ?_)) | repeat (first | (with_reducible exact Below.refl _ _) | (with_reducible refine Below.drew ?_) | (with_reducible refine Below.alloc ?_ ?hh _; case hh => first | (simp; done) | (simp; omega) | omega) | (with_reducible refine Below.setCell ?_ ?hh _; case hh => first | (simp; done) | (simp; omega) | omega) | refine bstep (by assumption) (by first | (simp; done) | (simp; omega) | omega) ?_)
      clear hw2
      go_wp2_with fail
      refine (ft_1 n _ h0 h1 (HE.out.below bel2)).mono ?_
      rintro e w3 ⟨rfl, hb3⟩
      have bel3 : Below w.heap.size w w3 := bel2.trans (hb3.mono bel2.size)
      rw [← hp.out]
      clear hb3
      go_wp2_with fail
      go_returns
      exact ⟨rfl, bel3⟩
    · have hp : Hid (r = if n = 1 then [116, 114, 117, 101] else [102, 97, 108, 115, 101]) := by show _ = _; rw [← hr.out]; exact vt_2 n s hok.out
      go_wp2_with fail
      refine (formOf_2 _ _ _).mono ?_
      rintro e w2 ⟨rfl, hw2⟩
      have bel2 : Below w.heap.size w w2 := by first | (subst hw2; repeat (first | (with_reducible exact Below.refl _ _) | (with_reducible refine Below.drew ?_) | (with_reducible refine Below.alloc ?_ ?hh _; case hh => first | (simp; done) | (simp; omega) | omega) | (with_reducible refine Below.setCell ?_ ?hh _; case hh => first | (simp; done) | (simp; omega) | omega) | refine bstep (by assumption) (by first | (simp; done) | (simp; omega) | omega) ?_)) | repeat (first | (with_reducible exact Below.refl _ _) | (with_reducible refine Below.drew ?_) | (with_reducible refine Below.alloc ?_ ?hh _; case hh => first | (simp; done) | (simp; omega) | omega) | (with_reducible refine Below.setCell ?_ ?hh _; case hh => first | (simp; done) | (simp; omega) | omega) | refine bstep (by assumption) (by first | (simp; done) | (simp; omega) | omega) ?_)
      clear hw2
      go_wp2_with fail
      refine (ft_2 n _).mono ?_
      rintro e w3 ⟨rfl, hb3⟩
      have bel3 : Below w.heap.size w w3 := bel2.trans (hb3.mono bel2.size)
      rw [← hp.out]
      clear hb3
      go_wp2_with fail
      go_returns
      exact ⟨rfl, bel3⟩
    · have hp : Hid (r = 39 :: (quo s.data.toList ++ [39])) := by show _ = _; rw [← hr.out]; exact vt_3 n s hok.out
      go_wp2_with fail
      refine (formOf_3 _ _ _).mono ?_
      rintro e w2 ⟨rfl, hw2⟩
      have bel2 : Below w.heap.size w w2 := by first | (subst hw2; repeat (first | (with_reducible exact Below.refl _ _) | (with_reducible refine Below.drew ?_) | (with_reducible refine Below.alloc ?_ ?hh _; case hh => first | (simp; done) | (simp; omega) | omega) | (with_reducible refine Below.setCell ?_ ?hh _; case hh => first | (simp; done) | (simp; omega) | omega) | refine bstep (by assumption) (by first | (simp; done) | (simp; omega) | omega) ?_)) | repeat (first | (with_reducible exact Below.refl _ _) | (with_reducible refine Below.drew ?_) | (with_reducible refine Below.alloc ?_ ?hh _; case hh => first | (simp; done) | (simp; omega) | omega) | (with_reducible refine Below.setCell ?_ ?hh _; case hh => first | (simp; done) | (simp; omega) | omega) | refine bstep (by assumption) (by first | (simp; done) | (simp; omega) | omega) ?_)
      clear hw2
      go_wp2_with fail
      refine (ft_3 s _ (okB_3z n s hok.out) (HE.out.below bel2)).mono ?_
      rintro e w3 ⟨rfl, hb3⟩
      have bel3 : Below w.heap.size w w3 := bel2.trans (hb3.mono bel2.size)
      rw [← hp.out]
      clear hb3
      go_wp2_with fail
      go_returns
      exact ⟨rfl, bel3⟩
end Go.Proofs.YtiaafgmjigbjlaaGreatDoor
