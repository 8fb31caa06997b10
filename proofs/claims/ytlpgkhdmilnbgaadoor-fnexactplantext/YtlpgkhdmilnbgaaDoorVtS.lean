/- Own text. The contract of the model's ValueText. -/
import Derived.Test.YtlpgkhdmilnbgaaDoorVtP
import Derived.Test.YtlpgkhdmilnbgaaDoorVOkSpec
import Derived.Handy
namespace Go.Proofs.YtlpgkhdmilnbgaaDoor
open Go.RowKit
set_option linter.unusedVariables false
theorem quo_snoc (l : List UInt8) (c : UInt8) : quo (l ++ [c]) = quo l ++ (if c = 39 then [39, 39] else [c]) := by unfold quo; rw [List.flatMap_append]; simp
theorem take_byte (s : ByteArray) (k : Nat) (h : k < s.size) : s.data.toList.take (k + 1) = s.data.toList.take k ++ [s[k]] := by
  have h2 : k < s.data.toList.length := by rw [Array.length_toList]; exact h
  rw [List.take_succ_eq_append_getElem h2]
  rfl
theorem cut_byte (s : ByteArray) (k : Nat) (h : k < s.size) : s.extract k (k + 1) = bs [s[k]] := by
  have h2 : k < s.data.toList.length := by rw [Array.length_toList]; exact h
  apply ByteArray.ext
  apply Array.toList_inj.1
  rw [ByteArray.data_extract, Array.toList_extract, List.extract_eq_take_drop, List.drop_eq_getElem_cons h2, show k + 1 - k = 0 + 1 from by omega, List.take_succ_cons, List.take_zero]
  rfl
set_option maxHeartbeats 1000000 in
set_option maxRecDepth 100000 in
theorem l01Quote_any (s : ByteArray) (w : World) (hs : s.size ≤ 100) :
    Calls Tryd.prog 49 #[.string s] w fun e w' => e = .returned (.string (bs (39 :: (quo s.data.toList ++ [39])))) ∧ Below w.heap.size w w' := by
  have hl : s.data.toList.length = s.size := Array.length_toList
  go_enter Tryd.func49, Tryd.ntmps49
  go_wp2
  go_loopw [3, 4] (fun o i wr => ∃ (k : Nat) (x : ByteArray), k ≤ s.size ∧ i = .int .i64 k ∧ o = .string x ∧ x = bs (39 :: quo (s.data.toList.take k)) ∧ Below w.heap.size w wr) (fun _ i _ => s.size - (intOf i).toNat)
  case atStart => exact ⟨0, _, Nat.zero_le _, rfl, rfl, rfl, by go_grown⟩
  case round =>
    obtain ⟨k, x, hk, rfl, rfl, hx, hb⟩ := hrel
    have hq := quo_len (s.data.toList.take k)
    have hz : x.size ≤ 300 := by rw [hx, bs_size, List.length_cons]; simp at hq; omega
    have HX : Hid (x = bs (39 :: quo (s.data.toList.take k))) := hx
    clear hx hq
    by_cases hlt : k < s.size
    · have hcut := cut_byte s k hlt
      have HN : Hid (s.data.toList.take (k + 1) = s.data.toList.take k ++ [s[k]]) := take_byte s k hlt
      obtain ⟨y, HY⟩ : ∃ y, Hid (bs [s[k]] = y) := ⟨bs [s[k]], show bs [s[k]] = bs [s[k]] from rfl⟩
      rw [HY.out] at hcut
      have hy : y.size = 1 := by rw [← HY.out, bs_size]; rfl
      have hxy : (x ++ y).size ≤ 301 := by rw [ByteArray.size_append]; omega
      by_cases h39 : s[k] = 39
      · have HF : Hid ((x ++ y) ++ (⟨#[39]⟩ : ByteArray) = bs (39 :: quo (s.data.toList.take (k + 1)))) := by
          show _ = _
          rw [HN.out, quo_snoc, if_pos h39, HX.out, ← HY.out, h39, show (⟨#[39]⟩ : ByteArray) = bs [39] from rfl, bs_app, bs_app]
          simp
        go_wp2
        exact ⟨⟨k + 1, _, hlt, by simp, rfl, HF.out, hb⟩, by simp [intOf]; omega⟩
      · have h39' : ((s[k].toNat : Int) == 39) = false := by
          rw [beq_eq_false_iff_ne]
          intro e
          exact h39 (UInt8.toNat_inj.1 (by have : (39 : UInt8).toNat = 39 := rfl; omega))
        have HF : Hid (x ++ y = bs (39 :: quo (s.data.toList.take (k + 1)))) := by
          show _ = _
          rw [HN.out, quo_snoc, if_neg h39, HX.out, ← HY.out, bs_app]
          simp
        go_wp2
        exact ⟨⟨k + 1, _, hlt, by simp, rfl, HF.out, hb⟩, by simp [intOf]; omega⟩
    · obtain rfl : k = s.size := by omega
      have HF : Hid (x ++ (⟨#[39]⟩ : ByteArray) = bs (39 :: (quo s.data.toList ++ [39]))) := by
        show _ = _
        rw [HX.out, show (⟨#[39]⟩ : ByteArray) = bs [39] from rfl, bs_app, ← hl, List.take_length]
        simp
      go_wp2
      go_returns
      exact ⟨by rw [← HF.out]; rfl, hb⟩
set_option maxHeartbeats 1000000 in
set_option maxRecDepth 100000 in
theorem specVt_any (k n : Int) (s : ByteArray) (w : World) (hs : s.size ≤ maxLen) (h0 : -9223372036854775808 ≤ n) (h1 : n ≤ 9223372036854775807) :
    Calls Tryd.prog 40 #[(.agg #[.int .i64 k, .int .i64 n, .string s])] w fun e w' => e = .returned (.string (bs (vt k n s))) ∧ Below w.heap.size w w' := by
  obtain ⟨r, hr⟩ : ∃ r, Hid (vt k n s = r) := ⟨_, rfl⟩
  rw [hr.out]
  obtain ⟨ok, hok⟩ : ∃ ok, Hid (okB k n s = ok) := ⟨_, rfl⟩
  have hok' := hok.out
  go_enter Tryd.func40, Tryd.ntmps40
  go_wp2_with fail
  refine (specValueOk_any _ _ _ _ hs).mono ?_
  rintro e w1 ⟨rfl, hb1⟩
  rw [hok']
  clear hok'
  have hz1 := hb1.size
  simp only [World.size_alloc] at hz1
  have hy1 : w.heap.size < w1.heap.size := by omega
  have qa : w1.cell? ⟨w.heap.size, 0, none⟩ = some (.int .i64 k) := cell_later hb1 (by go_simp)
  have qb : w1.cell? ⟨w.heap.size, 1, none⟩ = some (.int .i64 n) := cell_later hb1 (by go_simp)
  have qc : w1.cell? ⟨w.heap.size, 2, none⟩ = some (.string s) := cell_later hb1 (by go_simp)
  have bel1 : Below w.heap.size w w1 := by repeat (first | (with_reducible exact Below.refl _ _) | (with_reducible refine Below.drew ?_) | (with_reducible refine Below.alloc ?_ ?hh _; case hh => first | (simp; done) | (simp; omega) | omega) | (with_reducible refine Below.setCell ?_ ?hh _; case hh => first | (simp; done) | (simp; omega) | omega) | refine bstep (by assumption) (by first | (simp; done) | (simp; omega) | omega) ?_)
  clear hb1
  cases ok with
  | false =>
    have hp : Hid (r = []) := by show _ = _; rw [← hr.out]; exact vt_no k n s hok.out
    go_wp2_with fail
    go_returns
    exact ⟨by rw [hp.out]; rfl, bel1⟩
  | true =>
    rcases okB_kz k n s hok.out with rfl | rfl | rfl | rfl
    · have hp : Hid (r = [110, 117, 108, 108]) := by show _ = _; rw [← hr.out]; exact vt_0 n s hok.out
      go_wp2_with fail
      go_returns
      exact ⟨by rw [hp.out]; rfl, bel1⟩
    · have hp : Hid (r = Lib.itoa n) := by show _ = _; rw [← hr.out]; exact vt_1 n s hok.out
      go_wp2_with fail
      refine (specDec_any n _ h0 h1).mono ?_
      rintro e w2 ⟨rfl, rfl⟩
      go_wp2_with fail
      go_returns
      exact ⟨by rw [hp.out]; rfl, bel1⟩
    · have hp : Hid (r = if n = 1 then [116, 114, 117, 101] else [102, 97, 108, 115, 101]) := by show _ = _; rw [← hr.out]; exact vt_2 n s hok.out
      by_cases hn : n = 1
      · subst hn
        go_wp2_with fail
        go_returns
        exact ⟨by rw [hp.out]; rfl, bel1⟩
      · have hn' : (n == 1) = false := by simpa using hn
        go_wp2_with fail
        go_returns
        exact ⟨by rw [hp.out, if_neg hn]; rfl, bel1⟩
    · have hp : Hid (r = 39 :: (quo s.data.toList ++ [39])) := by show _ = _; rw [← hr.out]; exact vt_3 n s hok.out
      go_wp2_with fail
      refine (l01Quote_any s _ (okB_3z n s hok.out)).mono ?_
      rintro e w2 ⟨rfl, hb2⟩
      have bel2 : Below w.heap.size w w2 := bel1.trans (hb2.mono bel1.size)
      rw [← hp.out]
      clear hb2
      go_wp2_with fail
      go_returns
      exact ⟨rfl, bel2⟩
end Go.Proofs.YtlpgkhdmilnbgaaDoor
