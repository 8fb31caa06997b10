/- Own text. Sizes as bytes, the high ones first; texts behind them; the contracts of l10Size and l10Text. -/
import Derived.Test.YtlobjpdkjlmglaaGreatPutBSB
import Derived.Handy
namespace Go.Proofs.YtlobjpdkjlmglaaGreat
open Go.RowKit
set_option linter.unusedVariables false
/-- n bytes of a number, the high ones first. -/
def szN (x : Int) : Nat → List Int
  | 0 => []
  | n + 1 => (x / 256 ^ n % 256) :: szN x n
theorem szN_len (x : Int) (n : Nat) : (szN x n).length = n := by
  induction n with
  | zero => rfl
  | succ n ih => simp [szN, ih]
theorem szN_bd (x : Int) (n : Nat) : ∀ y ∈ szN x n, 0 ≤ y ∧ y < 256 := by
  induction n with
  | zero => intro y hy; cases hy
  | succ n ih =>
    intro y hy
    rcases List.mem_cons.1 hy with rfl | h
    · omega
    · exact ih y h
/-- a text as numbers. -/
def txN (s : ByteArray) : List Int := nb s.data.toList
theorem txN_len (s : ByteArray) : (txN s).length = s.size := by simp [txN, nb_len]
theorem nums_app (a b : List Int) : strOfNums (a ++ b) = strOfNums a ++ strOfNums b := by
  apply ByteArray.ext
  simp [strOfNums, ByteArray.data_append]
theorem nums_txN (s : ByteArray) : strOfNums (txN s) = s := by
  have := nums_append [] s
  have e : strOfNums [] = ⟨#[]⟩ := rfl
  rw [List.nil_append, e] at this
  rw [show txN s = s.data.toList.map (fun b => (b.toNat : Int)) from rfl, this]
  apply ByteArray.ext
  simp [ByteArray.data_append]
theorem nums_cons (c : Int) (xs : List Int) : strOfNums [c] ++ strOfNums xs = strOfNums (c :: xs) := by rw [← nums_app]; rfl
/-- a text behind n bytes of its size. -/
def tN (s : ByteArray) (n : Nat) : List Int := szN s.size n ++ txN s
theorem tN_len (s : ByteArray) (n : Nat) : (tN s n).length = n + s.size := by simp [tN, szN_len, txN_len]
theorem nums_tN (s : ByteArray) (n : Nat) : strOfNums (szN s.size n) ++ s = strOfNums (tN s n) := by rw [tN, nums_app, nums_txN]
theorem pow_step (x : Int) (k : Nat) : x / 256 ^ k / 256 = x / 256 ^ (k + 1) := by
  rw [Int.pow_succ, Int.ediv_ediv_of_nonneg (Int.le_of_lt (Int.pow_pos (by decide)))]
set_option maxHeartbeats 2000000 in
set_option maxRecDepth 100000 in
theorem l10Size_any (x : Int) (n : Nat) (w : World) (h0 : 0 ≤ x) (hx : x ≤ 9223372036854775807) (hn : n ≤ 8) :
    Calls Tryz.prog 42 #[.int .i64 x, .int .i64 n] w fun e w' => e = .returned (.string (strOfNums (szN x n))) ∧ Below w.heap.size w w' := by
  go_enter Tryz.func42, Tryz.ntmps42
  go_wp2_with fail
  go_loopw [0, 5, 6] (fun y o i wr => ∃ (k : Nat) (z : Int) (r : ByteArray), k ≤ n ∧ y = .int .i64 z ∧ o = .string r ∧ i = .int .i64 k ∧ Hid (z = x / 256 ^ k) ∧ Hid (r = strOfNums (szN x k)) ∧ 0 ≤ z ∧ z ≤ 9223372036854775807 ∧ r.size = k ∧ Below w.heap.size w wr) (fun _ _ i _ => n - (intOf i).toNat)
  case atStart => exact ⟨0, x, ⟨#[]⟩, Nat.zero_le _, rfl, rfl, rfl, by simp [Hid], rfl, h0, hx, rfl, Below.refl _ _⟩
  case round =>
    obtain ⟨k, z, r, hk, rfl, rfl, rfl, HZ, HR, z0, z1, hr, hb⟩ := hrel
    by_cases hlt : k < n
    · have hs : r.size ≤ 8 := by omega
      have hcv0 := conv_own [z % 256] (own_litg wr w.heap.size wr.heap.size [z % 256] rfl hb.size (by simp)) (by simp)
      simp only [List.map_cons, List.map_nil, List.length_cons, List.length_nil, Nat.zero_add] at hcv0
      have hsz : ((strOfNums [z % 256]).size : Int) = 1 := by rw [nums_size]; rfl
      have hm : z.tmod 256 = z % 256 := Int.tmod_eq_emod_of_nonneg z0
      have hd : z.tdiv 256 = z / 256 := Int.tdiv_eq_ediv_of_nonneg z0
      have hm0 : 0 ≤ z % 256 ∧ z % 256 < 256 := by omega
      have HS : Hid (r.size = k) := hr
      clear hr
      go_wp2_with fail
      refine ⟨⟨k + 1, z / 256, strOfNums [z % 256] ++ r, hlt, rfl, rfl, by simp, ?_, ?_, by omega, by omega, ?_, hb.alloc hb.size _⟩, by simp [intOf]; omega⟩
      · show z / 256 = x / 256 ^ (k + 1)
        rw [HZ.out, pow_step]
      · show strOfNums [z % 256] ++ r = _
        rw [HR.out, nums_cons, HZ.out]; rfl
      · rw [ByteArray.size_append, nums_size]
        have := HS.out
        simp; omega
    · obtain rfl : k = n := by omega
      go_wp2_with fail
      go_returns
      exact ⟨by rw [← HR.out]; rfl, hb⟩
set_option maxHeartbeats 2000000 in
set_option maxRecDepth 100000 in
theorem l10Text_any (s : ByteArray) (n : Nat) (w : World) (hs : s.size ≤ 281474976710656) (hn : n ≤ 8) :
    Calls Tryz.prog 43 #[.string s, .int .i64 n] w fun e w' => e = .returned (.string (strOfNums (tN s n))) ∧ Below w.heap.size w w' := by
  have hsz : ((strOfNums (szN s.size n)).size : Int) ≤ 8 := by rw [nums_size, szN_len]; omega
  have HT : Hid (strOfNums (szN s.size n) ++ s = strOfNums (tN s n)) := nums_tN s n
  go_enter Tryz.func43, Tryz.ntmps43
  go_wp2_with fail
  refine Calls.mono (l10Size_any s.size n _ (by omega) (by omega) hn) ?_
  rintro e w1 ⟨rfl, hb1⟩
  go_wp2_with fail
  go_returns
  exact ⟨by rw [← HT.out]; rfl, hb1⟩
end Go.Proofs.YtlobjpdkjlmglaaGreat
