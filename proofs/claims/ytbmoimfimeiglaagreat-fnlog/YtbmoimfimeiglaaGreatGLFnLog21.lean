/- Own texts, joined: contracts that the law's proof goes by. -/
import Derived.Test.YtbmoimfimeiglaaGreatGLFnLog1
import Derived.Handy
import Derived.Laws.Bits64b
import Derived.Test.YtbmoimfimeiglaaGreatGLFnLog7
import Derived.Test.YtbmoimfimeiglaaGreatGLFnLog3
import Derived.RegionTactic
namespace Go.Proofs.YtbmoimfimeiglaaGreat
open Go.RowKit
set_option linter.unusedVariables false
def bAt (s : ByteArray) (j : Nat) : Nat := (s.data.toList.getD j 0).toNat
theorem bAt_eq (s : ByteArray) (j : Nat) (h : j < s.size) : s[j].toNat = bAt s j := by
  unfold bAt
  rw [List.getD_eq_getElem?_getD, List.getElem?_eq_getElem (by simpa using h)]
  rfl
theorem bAt_lt (s : ByteArray) (j : Nat) : bAt s j < 256 := (s.data.toList.getD j 0).toNat_lt
theorem extract_size (s : ByteArray) (a b : Nat) (h : a ≤ b) (hb : b ≤ s.size) : (s.extract a b).size = b - a := by rw [ByteArray.size_extract]; omega
theorem extract_list (s : ByteArray) (a b : Nat) : (s.extract a b).data.toList = (s.data.toList.drop a).take (b - a) := by
  simp [ByteArray.data_extract, Array.toList_extract, List.extract]
theorem bAt_extract (s : ByteArray) (a b j : Nat) (h : a + j < b) : bAt (s.extract a b) j = bAt s (a + j) := by
  unfold bAt
  rw [extract_list, List.getD_eq_getElem?_getD, List.getD_eq_getElem?_getD, List.getElem?_take_of_lt (by omega), List.getElem?_drop]
theorem extract_extract' (s : ByteArray) (a b c d : Nat) (h : a + d ≤ b) : (s.extract a b).extract c d = s.extract (a + c) (a + d) := by
  apply ByteArray.ext
  apply Array.toList_inj.1
  rw [extract_list, extract_list, extract_list, List.drop_take, List.drop_drop, List.take_take]
  congr 1
  omega
end Go.Proofs.YtbmoimfimeiglaaGreat
namespace Go.Proofs.YtbmoimfimeiglaaGreat
open Go.RowKit
set_option linter.unusedVariables false
def be : List UInt8 → Int := List.foldl (fun a c => 256 * a + c.toNat) 0
theorem be_snoc (l : List UInt8) (c : UInt8) : be (l ++ [c]) = 256 * be l + c.toNat := by simp [be, List.foldl_append]
theorem be_bd_aux (n : Nat) : ∀ l : List UInt8, l.length = n → 0 ≤ be l ∧ be l < 256 ^ n := by
  induction n with
  | zero => intro l hl; rw [List.eq_nil_of_length_eq_zero hl]; simp [be]
  | succ n ih =>
    intro l hl
    have hne : l ≠ [] := by intro h; rw [h] at hl; simp at hl
    rw [← List.dropLast_concat_getLast hne, be_snoc, Int.pow_succ]
    have := ih l.dropLast (by rw [List.length_dropLast, hl]; rfl)
    have := (l.getLast hne).toNat_lt
    omega
theorem pow_le8 (n : Nat) (h : n ≤ 8) : (256 : Int) ^ n ≤ 18446744073709551616 := by
  match n, h with
  | 0, _ => decide
  | 1, _ => decide
  | 2, _ => decide
  | 3, _ => decide
  | 4, _ => decide
  | 5, _ => decide
  | 6, _ => decide
  | 7, _ => decide
  | 8, _ => decide
theorem pow_le7 (n : Nat) (h : n ≤ 7) : (256 : Int) ^ n ≤ 72057594037927936 := by
  match n, h with
  | 0, _ => decide
  | 1, _ => decide
  | 2, _ => decide
  | 3, _ => decide
  | 4, _ => decide
  | 5, _ => decide
  | 6, _ => decide
  | 7, _ => decide
theorem be_bd8 (l : List UInt8) (h : l.length ≤ 8) : 0 ≤ be l ∧ be l < 18446744073709551616 := by
  have := be_bd_aux _ l rfl
  have := pow_le8 _ h
  omega
theorem be_bd7 (l : List UInt8) (h : l.length ≤ 7) : 0 ≤ be l ∧ be l < 72057594037927936 := by
  have := be_bd_aux _ l rfl
  have := pow_le7 _ h
  omega
theorem take_snoc (s : ByteArray) (k : Nat) (h : k < s.size) : s.data.toList.take (k + 1) = s.data.toList.take k ++ [s[k]] := by
  rw [List.take_succ_eq_append_getElem (by simpa using h)]; rfl
theorem or_byte (b : Int) (c : UInt8) (h0 : 0 ≤ b) (h1 : b < 72057594037927936) :
    bits BinOp.or IntKind.u64 (IntKind.u64.wrap (b * 256)) (IntKind.u64.wrap c.toNat) = 256 * b + c.toNat := by
  have hc := c.toNat_lt
  obtain ⟨n, rfl⟩ := Int.eq_ofNat_of_zero_le h0
  have e1 : IntKind.u64.wrap ((n : Int) * 256) = ((2 ^ 8 * n : Nat) : Int) := by rw [IntKind.wrap_u64]; omega
  have e2 : IntKind.u64.wrap (c.toNat : Int) = ((c.toNat : Nat) : Int) := by rw [IntKind.wrap_u64]; omega
  rw [e1, e2, bits_or_u64_nat _ _ (by omega) (by omega), ← Nat.two_pow_add_eq_or_of_lt (by omega)]
  omega
set_option maxHeartbeats 1000000 in
theorem numberOf_any (s : ByteArray) (w : World) (hs : s.size = 8) :
    Calls Tryz.prog 87 #[.string s] w fun e w' => e = .returned (.int .i64 (wrap64 (be s.data.toList))) ∧ w' = w := by
  have hs0 : Hid (s.size = 8) := hs
  have hl1 : s.size ≤ 8 := by omega
  have hl2 : 8 ≤ s.size := by omega
  clear hs
  go_enter Tryz.func87, Tryz.ntmps87
  go_wp2
  go_loop [3, 4] (fun u i => ∃ k : Nat, k ≤ s.size ∧ i = .int .i64 k ∧ u = .int .u64 (be (s.data.toList.take k))) (fun _ i => s.size - (intOf i).toNat)
  case atStart => exact ⟨0, Nat.zero_le _, rfl, rfl⟩
  case round =>
    obtain ⟨k, hk, rfl, rfl⟩ := hrel
    by_cases hlt : k < s.size
    · have hb : Hid (bits BinOp.or IntKind.u64 (IntKind.u64.wrap (be (s.data.toList.take k) * 256)) (IntKind.u64.wrap s[k].toNat) = be (s.data.toList.take (k + 1))) := by
        have hb := be_bd7 (s.data.toList.take k) (by rw [List.length_take]; omega)
        show _ = _
        rw [or_byte _ _ hb.1 hb.2, take_snoc s k hlt, be_snoc]
      go_wp2
      exact ⟨⟨k + 1, by omega, by go_num, by rw [hb.out]⟩, by simp [intOf]; omega⟩
    · have hfin : Hid (s.data.toList.take k = s.data.toList) := List.take_of_length_le (by simp; omega)
      go_wp2
      go_returns
      exact ⟨ret_int (by rw [hfin.out]), rfl⟩
end Go.Proofs.YtbmoimfimeiglaaGreat
namespace Go.Proofs.YtbmoimfimeiglaaGreat
open Go.RowKit
set_option linter.unusedVariables false
def numAt (t : ByteArray) (j : Nat) : Int := wrap64 (be ((t.data.toList.drop j).take 8))
theorem numberOf_v (s : ByteArray) (v : Int) (w : World) (hs : s.size = 8) (hv : wrap64 (be s.data.toList) = v) :
    Calls Tryz.prog 87 #[.string s] w fun e w' => e = .returned (.int .i64 v) ∧ w' = w := by
  subst hv; exact numberOf_any s w hs
set_option maxHeartbeats 400000 in
theorem clone_any (s : ByteArray) (w : World) (hs : s.size ≤ 281474976710656) :
    Calls Tryz.prog 96 #[.string s] w fun e w' => e = .returned (.string s) ∧ Below w.heap.size w w' := by
  go_enter Tryz.func96, Tryz.ntmps96
  go_wp2_with (first | (go_at_call 116; refine (Tryz.stringslite_Clone _ _ hs).mono ?_; rintro e w1 ⟨rfl, hb1⟩))
  go_returns
  exact ⟨rfl, hb1⟩
theorem clone_v (s r : ByteArray) (w : World) (hs : s.size ≤ 281474976710656) (h : s = r) :
    Calls Tryz.prog 96 #[.string s] w fun e w' => e = .returned (.string r) ∧ Below w.heap.size w w' := by
  subst h; exact clone_any s w hs
set_option maxHeartbeats 1000000 in
set_option maxRecDepth 100000 in
theorem ff_0 (t : ByteArray) (w : World) (h1 : 1 ≤ t.size) (hs : t.size ≤ 1048576) (hc : bAt t 0 = 0) :
    Calls Tryz.prog 128 #[.string t] w fun e w' => e = .returned (.tuple #[.iface 186 (.agg #[]), .int .i64 1]) ∧ Below w.heap.size w w' := by
  have hp : (0 : Int) < t.size := by omega
  have hpn : 0 < t.size := by omega
  have hp1 : (1 : Int) ≤ t.size := by omega
  have hc' : wrap64 (t[0].toNat : Int) = 0 := by rw [wrap64_byte, bAt_eq t 0 hpn]; omega
  clear hc
  go_enter Tryz.func128, Tryz.ntmps128
  go_wp2
  go_region
  go_wp2
  go_returns
  exact ⟨rfl, by go_grown⟩
set_option maxHeartbeats 1000000 in
set_option maxRecDepth 100000 in
theorem ff_1 (t : ByteArray) (w : World) (h1 : 1 ≤ t.size) (hs : t.size ≤ 1048576) (hc : bAt t 0 = 1) (h9 : 9 ≤ t.size) :
    Calls Tryz.prog 128 #[.string t] w fun e w' => e = .returned (.tuple #[.iface 189 (.agg #[.int .i64 (numAt t 1)]), .int .i64 9]) ∧ Below w.heap.size w w' := by
  have hp : (0 : Int) < t.size := by omega
  have hpn : 0 < t.size := by omega
  have hp1 : (1 : Int) ≤ t.size := by omega
  have hc' : wrap64 (t[0].toNat : Int) = 1 := by rw [wrap64_byte, bAt_eq t 0 hpn]; omega
  clear hc
  have h8 : (8 : Int) ≤ ((t.size - 1 : Nat) : Int) := by omega
  have hx : Hid (wrap64 (be ((t.extract 1 t.size).extract 0 8).data.toList) = numAt t 1) := by
    show _ = _
    rw [numAt, extract_list, extract_list, List.drop_zero, List.take_take, show min (8 - 0) (t.size - 1) = 8 from by omega]
  have hy : Hid (((t.extract 1 t.size).extract 0 8).size = 8) := by
    show _ = _
    rw [extract_size _ 0 8 (by omega) (by rw [extract_size t 1 t.size (by omega) (by omega)]; omega)]
  go_enter Tryz.func128, Tryz.ntmps128
  go_wp2
  go_region
  go_wp2_with (first | (go_at_call 87; refine (numberOf_v _ (numAt t 1) _ hy.out hx.out).mono ?_; rintro e w' ⟨rfl, rfl⟩))
  go_returns
  exact ⟨rfl, by go_grown⟩
set_option maxHeartbeats 1000000 in
set_option maxRecDepth 100000 in
theorem ff_2 (t : ByteArray) (m : Nat) (w : World) (h1 : 1 ≤ t.size) (hs : t.size ≤ 1048576) (hc : bAt t 0 = 2) (h2 : 2 ≤ t.size) (hm : bAt t 1 = m) :
    Calls Tryz.prog 128 #[.string t] w fun e w' => e = .returned (.tuple #[.iface 191 (.agg #[.int .i64 m]), .int .i64 2]) ∧ Below w.heap.size w w' := by
  have hp : (0 : Int) < t.size := by omega
  have hpn : 0 < t.size := by omega
  have hp1 : (1 : Int) ≤ t.size := by omega
  have hc' : wrap64 (t[0].toNat : Int) = 2 := by rw [wrap64_byte, bAt_eq t 0 hpn]; omega
  clear hc
  have hm' : wrap64 ((t.extract 1 t.size)[0]'(by rw [extract_size t 1 t.size (by omega) (by omega)]; omega)).toNat = (m : Int) := by rw [wrap64_byte, bAt_eq _ 0 (by rw [extract_size t 1 t.size (by omega) (by omega)]; omega), bAt_extract t 1 t.size 0 (by omega), Nat.add_zero, hm]
  have hm256 : m < 256 := by have := bAt_lt t 1; omega
  have hq : 0 < t.size - 1 := by omega
  clear hm
  have hz : (1 : Int) ≤ ((t.size - 1 : Nat) : Int) := by omega
  go_enter Tryz.func128, Tryz.ntmps128
  go_wp2
  go_region
  go_wp2
  go_returns
  exact ⟨rfl, by go_grown⟩
set_option maxHeartbeats 1000000 in
set_option maxRecDepth 100000 in
theorem ff_3 (t : ByteArray) (m : Nat) (w : World) (h1 : 1 ≤ t.size) (hs : t.size ≤ 1048576) (hc : bAt t 0 = 3) (h2 : 2 ≤ t.size) (hm : bAt t 1 = m) (hn : m + 2 ≤ t.size) :
    Calls Tryz.prog 128 #[.string t] w fun e w' => e = .returned (.tuple #[.iface 194 (.agg #[.string (t.extract 2 (2 + m))]), .int .i64 (2 + m)]) ∧ Below w.heap.size w w' := by
  have hp : (0 : Int) < t.size := by omega
  have hpn : 0 < t.size := by omega
  have hp1 : (1 : Int) ≤ t.size := by omega
  have hc' : wrap64 (t[0].toNat : Int) = 3 := by rw [wrap64_byte, bAt_eq t 0 hpn]; omega
  clear hc
  have hm' : wrap64 ((t.extract 1 t.size)[0]'(by rw [extract_size t 1 t.size (by omega) (by omega)]; omega)).toNat = (m : Int) := by rw [wrap64_byte, bAt_eq _ 0 (by rw [extract_size t 1 t.size (by omega) (by omega)]; omega), bAt_extract t 1 t.size 0 (by omega), Nat.add_zero, hm]
  have hm256 : m < 256 := by have := bAt_lt t 1; omega
  have hq : 0 < t.size - 1 := by omega
  clear hm
  have hz : (1 : Int) ≤ ((t.size - 1 : Nat) : Int) := by omega
  have hg : (m : Int) < ((t.size - 1 : Nat) : Int) := by omega
  have hg1 : (1 : Int) + m ≤ ((t.size - 1 : Nat) : Int) := by omega
  have hx : Hid ((t.extract 1 t.size).extract 1 (1 + (m : Int)).toNat = t.extract 2 (2 + m)) := by
    show _ = _
    rw [show (1 + (m : Int)).toNat = 1 + m from by omega, extract_extract' t 1 t.size 1 (1 + m) (by omega), show 1 + (1 + m) = 2 + m from by omega]
  have hy : Hid (((t.extract 1 t.size).extract 1 (1 + (m : Int)).toNat).size ≤ 281474976710656) := by
    show _ ≤ _
    rw [hx.out, extract_size t 2 (2 + m) (by omega) (by omega)]
    omega
  go_enter Tryz.func128, Tryz.ntmps128
  go_wp2
  go_region
  go_wp2_with (first | (go_at_call 96; refine (clone_v _ (t.extract 2 (2 + m)) _ hy.out hx.out).mono ?_; rintro e w1 ⟨rfl, hb1⟩))
  go_returns
  refine ⟨rfl, ?_⟩
  exact bela
set_option maxHeartbeats 1000000 in
set_option maxRecDepth 100000 in
theorem ff_1x (t : ByteArray) (w : World) (h1 : 1 ≤ t.size) (hs : t.size ≤ 1048576) (hc : bAt t 0 = 1) (h9 : t.size < 9) :
    Calls Tryz.prog 128 #[.string t] w fun e w' => e = .returned (.tuple #[.nilIface, .int .i64 0]) ∧ Below w.heap.size w w' := by
  have hp : (0 : Int) < t.size := by omega
  have hpn : 0 < t.size := by omega
  have hp1 : (1 : Int) ≤ t.size := by omega
  have hc' : wrap64 (t[0].toNat : Int) = 1 := by rw [wrap64_byte, bAt_eq t 0 hpn]; omega
  clear hc
  have h8 : decide ((8 : Int) ≤ ((t.size - 1 : Nat) : Int)) = false := by simp; omega
  go_enter Tryz.func128, Tryz.ntmps128
  go_wp2
  go_region
  go_wp2
  go_returns
  exact ⟨rfl, by go_grown⟩
set_option maxHeartbeats 1000000 in
set_option maxRecDepth 100000 in
theorem ff_2x (t : ByteArray) (w : World) (h1 : 1 ≤ t.size) (hs : t.size ≤ 1048576) (hc : bAt t 0 = 2) (h2 : t.size < 2) :
    Calls Tryz.prog 128 #[.string t] w fun e w' => e = .returned (.tuple #[.nilIface, .int .i64 0]) ∧ Below w.heap.size w w' := by
  have hp : (0 : Int) < t.size := by omega
  have hpn : 0 < t.size := by omega
  have hp1 : (1 : Int) ≤ t.size := by omega
  have hc' : wrap64 (t[0].toNat : Int) = 2 := by rw [wrap64_byte, bAt_eq t 0 hpn]; omega
  clear hc
  have h8 : decide ((1 : Int) ≤ ((t.size - 1 : Nat) : Int)) = false := by simp; omega
  go_enter Tryz.func128, Tryz.ntmps128
  go_wp2
  go_region
  go_wp2
  go_returns
  exact ⟨rfl, by go_grown⟩
set_option maxHeartbeats 1000000 in
set_option maxRecDepth 100000 in
theorem ff_3x (t : ByteArray) (w : World) (h1 : 1 ≤ t.size) (hs : t.size ≤ 1048576) (hc : bAt t 0 = 3) (h2 : t.size < 2) :
    Calls Tryz.prog 128 #[.string t] w fun e w' => e = .returned (.tuple #[.nilIface, .int .i64 0]) ∧ Below w.heap.size w w' := by
  have hp : (0 : Int) < t.size := by omega
  have hpn : 0 < t.size := by omega
  have hp1 : (1 : Int) ≤ t.size := by omega
  have hc' : wrap64 (t[0].toNat : Int) = 3 := by rw [wrap64_byte, bAt_eq t 0 hpn]; omega
  clear hc
  have h8 : decide ((1 : Int) ≤ ((t.size - 1 : Nat) : Int)) = false := by simp; omega
  go_enter Tryz.func128, Tryz.ntmps128
  go_wp2
  go_region
  go_wp2
  go_returns
  exact ⟨rfl, by go_grown⟩
set_option maxHeartbeats 1000000 in
set_option maxRecDepth 100000 in
theorem ff_3y (t : ByteArray) (m : Nat) (w : World) (h1 : 1 ≤ t.size) (hs : t.size ≤ 1048576) (hc : bAt t 0 = 3) (h2 : 2 ≤ t.size) (hm : bAt t 1 = m) (hn : t.size < m + 2) :
    Calls Tryz.prog 128 #[.string t] w fun e w' => e = .returned (.tuple #[.nilIface, .int .i64 0]) ∧ Below w.heap.size w w' := by
  have hp : (0 : Int) < t.size := by omega
  have hpn : 0 < t.size := by omega
  have hp1 : (1 : Int) ≤ t.size := by omega
  have hc' : wrap64 (t[0].toNat : Int) = 3 := by rw [wrap64_byte, bAt_eq t 0 hpn]; omega
  clear hc
  have hm' : wrap64 ((t.extract 1 t.size)[0]'(by rw [extract_size t 1 t.size (by omega) (by omega)]; omega)).toNat = (m : Int) := by rw [wrap64_byte, bAt_eq _ 0 (by rw [extract_size t 1 t.size (by omega) (by omega)]; omega), bAt_extract t 1 t.size 0 (by omega), Nat.add_zero, hm]
  have hm256 : m < 256 := by have := bAt_lt t 1; omega
  have hq : 0 < t.size - 1 := by omega
  clear hm
  have hz : (1 : Int) ≤ ((t.size - 1 : Nat) : Int) := by omega
  have hg : decide ((m : Int) < ((t.size - 1 : Nat) : Int)) = false := by simp; omega
  go_enter Tryz.func128, Tryz.ntmps128
  go_wp2
  go_region
  go_wp2
  go_returns
  exact ⟨rfl, by go_grown⟩
set_option maxHeartbeats 1000000 in
set_option maxRecDepth 100000 in
theorem ff_z (t : ByteArray) (w : World) (h1 : 1 ≤ t.size) (hs : t.size ≤ 1048576) (hc : 4 ≤ bAt t 0) :
    Calls Tryz.prog 128 #[.string t] w fun e w' => e = .returned (.tuple #[.nilIface, .int .i64 0]) ∧ Below w.heap.size w w' := by
  have hp : (0 : Int) < t.size := by omega
  have hpn : 0 < t.size := by omega
  have hp1 : (1 : Int) ≤ t.size := by omega
  have hd0 : (wrap64 (t[0].toNat : Int) == 0) = false := by rw [wrap64_byte, bAt_eq t 0 hpn]; simp; omega
  have hd1 : (wrap64 (t[0].toNat : Int) == 1) = false := by rw [wrap64_byte, bAt_eq t 0 hpn]; simp; omega
  have hd2 : (wrap64 (t[0].toNat : Int) == 2) = false := by rw [wrap64_byte, bAt_eq t 0 hpn]; simp; omega
  have hd3 : (wrap64 (t[0].toNat : Int) == 3) = false := by rw [wrap64_byte, bAt_eq t 0 hpn]; simp; omega
  go_enter Tryz.func128, Tryz.ntmps128
  go_wp2
  go_region
  go_wp2
  go_returns
  exact ⟨rfl, by go_grown⟩
end Go.Proofs.YtbmoimfimeiglaaGreat
