/- Own texts, joined: contracts that the law's proof goes by. -/
import Derived.Test.YtbmoimfimeiglaaGreatGLFnLog1
import Derived.Handy
import Derived.Test.YtbmoimfimeiglaaGreatGLFnLog34
import Derived.Test.YtbmoimfimeiglaaGreatGLFnLog7
import Derived.Test.YtbmoimfimeiglaaGreatGLFnLog37
namespace Go.Proofs.YtbmoimfimeiglaaGreat
open Go.RowKit
set_option linter.unusedVariables false
def smix (x c : Int) : Int := bits .xor .u32 x c * 16777619 % 4294967296
theorem smix_bd (x c : Int) : 0 ≤ smix x c ∧ smix x c < 4294967296 := by unfold smix; omega
def sumN (s : ByteArray) : Nat → Int
  | 0 => 2166136261
  | n + 1 => smix (sumN s n) (if h : n < s.size then s[n].toNat else 0)
theorem sumN_bd (s : ByteArray) (n : Nat) : 0 ≤ sumN s n ∧ sumN s n < 4294967296 := by
  cases n with
  | zero => unfold sumN; omega
  | succ n => exact smix_bd _ _
theorem sumN_step (s : ByteArray) (n : Nat) (h : n < s.size) : sumN s (n + 1) = smix (sumN s n) s[n].toNat := by show smix _ _ = _; rw [dif_pos h]
def sumB (s : ByteArray) : Int := sumN s s.size
theorem sumB_bd (s : ByteArray) : 0 ≤ sumB s ∧ sumB s < 4294967296 := sumN_bd _ _
set_option maxHeartbeats 400000 in
theorem with_any (x c : Int) (w : World) (h0 : 0 ≤ x) (h1 : x < 4294967296) (hc0 : 0 ≤ c) (hc1 : c ≤ 255) :
    Calls Tryz.prog 44 #[.int .u32 x, .int .u8 c] w fun e w' => e = .returned (.int .u32 (smix x c)) ∧ w' = w := by
  go_enter Tryz.func44, Tryz.ntmps44
  go_wp2
  go_returns
  exact ⟨rfl, rfl⟩
set_option maxHeartbeats 1000000 in
set_option maxRecDepth 100000 in
theorem over_any (s : ByteArray) (w : World) (hs : s.size ≤ maxLen) :
    Calls Tryz.prog 43 #[.string s, .int .u32 2166136261, .func (.func 44) #[] #[]] w fun e w' => e = .returned (.int .u32 (sumB s)) ∧ w' = w := by
  unfold maxLen at hs
  go_enter Tryz.func43, Tryz.ntmps43
  go_wp2_with fail
  go_loop [1, 10] (fun x i => ∃ k : Nat, k ≤ s.size ∧ i = .int .i64 k ∧ x = .int .u32 (sumN s k)) (fun _ i => s.size - (intOf i).toNat)
  case atStart => exact ⟨0, Nat.zero_le _, rfl, rfl⟩
  case round =>
    obtain ⟨k, hk, rfl, rfl⟩ := hrel
    have hb := sumN_bd s k
    by_cases hlt : k < s.size
    · have hc := s[k].toNat_lt
      have hst : Hid (sumN s (k + 1) = smix (sumN s k) s[k].toNat) := sumN_step s k hlt
      go_wp2_with (go_at_call 44; refine (with_any _ _ _ hb.1 hb.2 (by omega) (by omega)).mono ?_; rintro e w' ⟨rfl, rfl⟩)
      exact ⟨⟨k + 1, by omega, by go_num, by rw [hst.out]⟩, by simp [intOf]; omega⟩
    · obtain rfl : k = s.size := by omega
      go_wp2_with fail
      go_returns
      exact ⟨rfl, rfl⟩
set_option maxHeartbeats 1000000 in
set_option maxRecDepth 100000 in
theorem implSum_any (s : ByteArray) (w : World) (hs : s.size ≤ maxLen) :
    Calls Tryz.prog 17 #[.string s] w fun e w' => e = .returned (.int .u32 (sumB s)) ∧ w' = w := by
  go_enter Tryz.func17, Tryz.ntmps17
  go_wp2_with (go_at_call 43; refine (over_any s _ hs).mono ?_; rintro e w' ⟨rfl, rfl⟩)
  go_returns
  exact ⟨rfl, rfl⟩
set_option maxHeartbeats 1000000 in
set_option maxRecDepth 100000 in
theorem specSum_any (s : ByteArray) (w : World) (hs : s.size ≤ maxLen) :
    Calls Tryz.prog 18 #[.string s] w fun e w' => e = .returned (.int .u32 (sumB s)) ∧ w' = w := by
  unfold maxLen at hs
  go_enter Tryz.func18, Tryz.ntmps18
  go_wp2_with fail
  go_loop [3, 4] (fun x i => ∃ k : Nat, k ≤ s.size ∧ i = .int .i64 k ∧ x = .int .u32 (sumN s k)) (fun _ i => s.size - (intOf i).toNat)
  case atStart => exact ⟨0, Nat.zero_le _, rfl, rfl⟩
  case round =>
    obtain ⟨k, hk, rfl, rfl⟩ := hrel
    have hb := sumN_bd s k
    by_cases hlt : k < s.size
    · have hc := s[k].toNat_lt
      have hst : Hid (sumN s (k + 1) = smix (sumN s k) s[k].toNat) := sumN_step s k hlt
      go_wp2_with fail
      exact ⟨⟨k + 1, by omega, by go_num, by rw [hst.out]; try rfl⟩, by simp [intOf]; omega⟩
    · obtain rfl : k = s.size := by omega
      go_wp2_with fail
      go_returns
      exact ⟨rfl, rfl⟩
end Go.Proofs.YtbmoimfimeiglaaGreat
namespace Go.Proofs.YtbmoimfimeiglaaGreat
open Go.RowKit Go.Deep
set_option linter.unusedVariables false
def appB (log t : ByteArray) : Bool := !t.toList.isEmpty && decide (log.size + 8 + t.size ≤ 100000)
def appA (log t : ByteArray) : ByteArray := if appB log t = true then log ++ strOfNums (szN t.size 4) ++ strOfNums (szN (sumB t) 4) ++ t else log
theorem app_no {log t : ByteArray} (h : t.toList.isEmpty = true) : appB log t = false := by simp [appB, h]
theorem app_big {log t : ByteArray} (h : ¬ log.size + 8 + t.size ≤ 100000) : appB log t = false := by simp [appB, h]
theorem app_yes {log t : ByteArray} (h : t.toList.isEmpty = false) (h2 : log.size + 8 + t.size ≤ 100000) : appB log t = true := by simp [appB, h, h2]
theorem appA_no {log t : ByteArray} (h : appB log t = false) : appA log t = log := by simp [appA, h]
theorem appA_yes {log t : ByteArray} (h : appB log t = true) : appA log t = log ++ strOfNums (szN t.size 4) ++ strOfNums (szN (sumB t) 4) ++ t := by simp [appA, h]
theorem putT_size (x : T5) : (putT x).size ≤ 10000000 := by
  unfold putT
  split
  · rename_i h
    rw [nums_size]
    exact stepL_len (okStep_bnd h)
  · exact Nat.zero_le _
set_option maxHeartbeats 4000000 in
set_option maxRecDepth 100000 in
theorem specAppend_any (log : ByteArray) (x : T5) (uc ur : Value) (w : World) (hl : log.size ≤ 1048576) (hw : x.wf) (hr : StpIs w uc ur x) :
    Calls Tryz.prog 13 #[.string log, (.agg #[.int .i64 x.k, .string x.s, uc, .string x.q, ur])] w fun e w' => e = .returned (.tuple #[.string (appA log (putT x)), .bool (appB log (putT x))]) ∧ Below w.heap.size w w' := by
  obtain ⟨⟨ac, cc, rfl, _, _⟩, ar, cr, rfl, _, _⟩ := hr.shape
  have hC := fun W hb => specPutStep_any x (.slice ac x.cs.length cc) (.slice ar x.rs.length cr) W hw hb
  have hts := putT_size x
  generalize putT x = t at hC hts ⊢
  go_enter Tryz.func13, Tryz.ntmps13
  go_wp2_with fail
  refine Calls.mono (hC _ (hr.below ?hb)) ?_
  case hb => exact bex
  rintro e w1 ⟨rfl, hb1⟩
  have bel1 : Below w.heap.size w w1 := bex
  clear hb1 hC
  cases he : t.toList.isEmpty with
  | true =>
    have HB : Hid (appB log t = false) := app_no he
    go_wp2_with fail
    go_ret2
    exact ⟨by rw [appA_no HB.out, HB.out]; rfl, bel1⟩
  | false =>
  have w1' : IntKind.i64.wrap (100000 - (t.size : Int)) = 100000 - t.size := by rw [IntKind.wrap_i64]; omega
  have w2' : IntKind.i64.wrap (100000 - (t.size : Int) - 8) = 100000 - t.size - 8 := by rw [IntKind.wrap_i64]; omega
  by_cases hb : (100000 - (t.size : Int) - 8) < log.size
  · have HB : Hid (appB log t = false) := app_big (by omega)
    go_wp2_with fail
    go_ret2
    exact ⟨by rw [appA_no HB.out, HB.out]; rfl, bel1⟩
  have HB : Hid (appB log t = true) := app_yes he (by omega)
  have hs := sumB_bd t
  obtain ⟨r1, E1, z1, C1⟩ := l10Size_o t.size 4 (by omega) (by omega) (by omega)
  obtain ⟨r2, E2, z2, C2⟩ := l10Size_o (sumB t) 4 (by omega) (by omega) (by omega)
  have HA : Hid (appA log t = log ++ r1 ++ r2 ++ t) := by rw [E1.out, E2.out]; exact appA_yes HB.out
  have hs1 : (r1.size : Int) ≤ 10 := by omega
  have hs2 : (r2.size : Int) ≤ 10 := by omega
  have hS : ∀ W, Calls Tryz.prog 18 #[.string t] W fun e w' => e = .returned (.int .u32 (sumB t)) ∧ w' = W := fun W => specSum_any t W (by unfold maxLen; omega)
  have HS : Hid (∀ W, Calls Tryz.prog 18 #[.string t] W fun e w' => e = .returned (.int .u32 (sumB t)) ∧ w' = W) := hS
  have hws : IntKind.i64.wrap (sumB t) = sumB t := by rw [IntKind.wrap_i64]; omega
  have hwt : wrap64 (sumB t) = sumB t := by unfold wrap64; omega
  clear hS z1 z2 E1 E2
  go_wp2_with fail
  refine Calls.mono (C1.out _) ?_
  rintro e w2 ⟨rfl, hb2⟩
  have bel2 : Below w.heap.size w w2 := bel1.trans (hb2.mono bel1.size)
  clear hb2
  go_wp2_with fail
  refine Calls.mono (HS.out _) ?_
  rintro e w3 ⟨rfl, rfl⟩
  go_wp2_with fail
  refine Calls.mono (C2.out _) ?_
  rintro e w4 ⟨rfl, hb4⟩
  have bel4 : Below w.heap.size w w4 := bel2.trans (hb4.mono bel2.size)
  clear hb4
  have hz1 : ((log ++ r1).size : Int) ≤ 1100000 := by rw [ByteArray.size_append]; omega
  have hz2 : ((log ++ r1 ++ r2).size : Int) ≤ 1200000 := by rw [ByteArray.size_append, ByteArray.size_append]; omega
  go_wp2_with fail
  go_ret2
  exact ⟨by rw [HA.out, HB.out]; rfl, bel4⟩
set_option maxHeartbeats 4000000 in
set_option maxRecDepth 100000 in
theorem implAppend_any (log : ByteArray) (x : T5) (uc ur : Value) (w : World) (hl : log.size ≤ 1048576) (hw : x.wf) (hr : StpIs w uc ur x) :
    Calls Tryz.prog 12 #[.string log, (.agg #[.int .i64 x.k, .string x.s, uc, .string x.q, ur])] w fun e w' => e = .returned (.tuple #[.string (appA log (putT x)), .bool (appB log (putT x))]) ∧ Below w.heap.size w w' := by
  obtain ⟨⟨ac, cc, rfl, _, _⟩, ar, cr, rfl, _, _⟩ := hr.shape
  have hC := fun W hb => implPutStep_any x (.slice ac x.cs.length cc) (.slice ar x.rs.length cr) W hw hb
  have hts := putT_size x
  generalize putT x = t at hC hts ⊢
  go_enter Tryz.func12, Tryz.ntmps12
  go_wp2_with fail
  refine Calls.mono (hC _ (hr.below ?hb)) ?_
  case hb => exact bex
  rintro e w1 ⟨rfl, hb1⟩
  have bel1 : Below w.heap.size w w1 := bex
  clear hb1 hC
  cases he : t.toList.isEmpty with
  | true =>
    have HB : Hid (appB log t = false) := app_no he
    go_wp2_with fail
    go_ret2
    exact ⟨by rw [appA_no HB.out, HB.out]; rfl, bel1⟩
  | false =>
  have w1' : IntKind.i64.wrap ((log.size : Int) + 4) = log.size + 4 := by rw [IntKind.wrap_i64]; omega
  have w2' : IntKind.i64.wrap ((log.size : Int) + 4 + 4) = log.size + 4 + 4 := by rw [IntKind.wrap_i64]; omega
  have w3' : IntKind.i64.wrap ((log.size : Int) + 4 + 4 + t.size) = log.size + 4 + 4 + t.size := by rw [IntKind.wrap_i64]; omega
  by_cases hb : 100000 < (log.size : Int) + 4 + 4 + t.size
  · have HB : Hid (appB log t = false) := app_big (by omega)
    go_wp2_with fail
    go_ret2
    exact ⟨by rw [appA_no HB.out, HB.out]; rfl, bel1⟩
  have HB : Hid (appB log t = true) := app_yes he (by omega)
  have hs := sumB_bd t
  have HS : Hid (∀ W, Calls Tryz.prog 17 #[.string t] W fun e w' => e = .returned (.int .u32 (sumB t)) ∧ w' = W) := fun W => implSum_any t W (by unfold maxLen; omega)
  have hws : IntKind.i64.wrap (sumB t) = sumB t := by rw [IntKind.wrap_i64]; omega
  have hwt : wrap64 (sumB t) = sumB t := by unfold wrap64; omega
  have HA : Hid (appA log t = log ++ strOfNums ([] ++ szN t.size 4 ++ szN (sumB t) 4) ++ t) := by
    show _ = _
    rw [appA_yes HB.out, List.nil_append, nums_app, ← ByteArray.append_assoc]
  have hsn : ((strOfNums ([] ++ szN t.size 4 ++ szN (sumB t) 4)).size : Int) ≤ 10 := by rw [nums_size]; simp [szN_len]
  have hz1 : ((log ++ strOfNums ([] ++ szN t.size 4 ++ szN (sumB t) 4)).size : Int) ≤ 1100000 := by rw [ByteArray.size_append]; omega
  go_wp2_with fail
  have hp := Pk.new w1 w1.heap.size (Nat.le_refl _)
  have hbN : Below w1.heap.size w1 (w1.alloc (.cells #[.slice none 0 0] 66)) := bex
  generalize w1.alloc (.cells #[.slice none 0 0] 66) = w2 at hp hbN ⊢
  refine Calls.mono (number_any w1.heap.size w1.heap.size _ [] t.size 4 w2 hp (by omega) (by omega) (Or.inr (Or.inr rfl)) (by simp)) ?_
  rintro e w3 ⟨rfl, ⟨u3, hp3⟩, hb3, hk3⟩
  have hb3N := hbN.trans hb3
  clear hb3 hk3 hbN hp
  go_wp2_with fail
  refine Calls.mono (HS.out _) ?_
  rintro e w4 ⟨rfl, rfl⟩
  go_wp2_with fail
  refine Calls.mono (number_any w1.heap.size w1.heap.size u3 _ (sumB t) 4 _ hp3 (by omega) (by omega) (Or.inr (Or.inr rfl)) (by simp [szN_len])) ?_
  rintro e w5 ⟨rfl, ⟨u5, hp5⟩, hb5, hk5⟩
  have hb5N := hb3N.trans hb5
  clear hb5 hk5 hb3N hp3
  go_wp2_with fail
  refine Calls.mono (packed_any w1.heap.size w1.heap.size u5 _ _ hp5 (by simp [szN])) ?_
  rintro e w6 ⟨rfl, rfl⟩
  generalize strOfNums ([] ++ szN t.size 4 ++ szN (sumB t) 4) = rn at HA hsn hz1 ⊢
  go_wp2_with fail
  go_ret2
  exact ⟨by rw [HA.out, HB.out]; rfl, bel1.trans (hb5N.mono bel1.size)⟩
end Go.Proofs.YtbmoimfimeiglaaGreat
