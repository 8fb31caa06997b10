/- Own text. The contract of the model's l12Number. -/
import Derived.Test.YtbobjfokampjbaaDoorRrP
import Derived.Test.YtbobjfokampjbaaDoorBsK
import Derived.Test.YtbobjfokampjbaaDoorDecS
import Derived.Test.YtbobjfokampjbaaDoorNameC
import Derived.Handy
namespace Go.Proofs.YtbobjfokampjbaaDoor
open Go.RowKit
set_option linter.unusedVariables false
theorem wrap_byte (c : UInt8) : wrap64 (c.toNat : Int) = c.toNat := by have := c.toNat_lt; unfold wrap64; omega
set_option maxHeartbeats 400000 in
theorem l08Digit_any (c : UInt8) (w : World) : Calls Tryd.prog 24 #[.int .u8 (c.toNat : Int)] w fun e w' => e = .returned (.bool (dig c)) ∧ w' = w := by
  have hI : Hid (inB (wrap64 (c.toNat : Int)) 48 57 = dig c) := by
    show _ = _
    rw [wrap_byte]; unfold inB dig; rw [← Bool.decide_and]; congr 1; rw [eq_iff_iff]; omega
  go_enter Tryd.func24, Tryd.ntmps24
  go_wp2_with (first | (go_at_call 33; refine (l01InN_any _ _ _ _).mono ?_; rintro e w' ⟨rfl, rfl⟩) | fail)
  go_returns
  exact ⟨ret_bool hI.out, rfl⟩
/-- a number and whether it is one. -/
def NumOut (l : List UInt8) (w : World) (e : Ending) (w' : World) : Prop := (∃ n : Int, e = .returned (.tuple #[.int .i64 n, .bool (okN l)]) ∧ (okN l = true → n = valN l)) ∧ w' = w
theorem NumOut.no {l : List UInt8} {w : World} {n : Int} (h : okN l = false) : NumOut l w (.returned (.tuple #[.int .i64 n, .bool false])) w := ⟨⟨n, by rw [h], fun h2 => by rw [h] at h2; cases h2⟩, rfl⟩
theorem tail_take {l : List UInt8} {k : Nat} {c : UInt8} (h : l[k + 1]? = some c) : l.tail.take (k + 1) = l.tail.take k ++ [c] := by
  cases l with
  | nil => simp at h
  | cons a l =>
    simp only [List.getElem?_cons_succ] at h
    rw [List.tail_cons, List.take_add_one, h]; rfl
theorem take_push {l : List UInt8} {k : Nat} {c : UInt8} (h : l[k]? = some c) : l.take (k + 1) = l.take k ++ [c] := by rw [List.take_add_one, h]; rfl
theorem at_list (s : ByteArray) (k : Nat) (h : k < s.size) : s.data.toList[k]? = some s[k] := by
  have h' : k < s.data.size := h
  rw [Array.getElem?_toList, Array.getElem?_eq_getElem h']; rfl
theorem dnW_bd (l : List UInt8) : -9223372036854775808 ≤ dnW l ∧ dnW l ≤ 9223372036854775807 := by
  rcases List.eq_nil_or_concat l with rfl | ⟨a, c, rfl⟩
  · exact ⟨by decide, by decide⟩
  · rw [List.concat_eq_append, dnW_push]; unfold wrap64; omega
theorem upW_bd (l : List UInt8) : -9223372036854775808 ≤ upW l ∧ upW l ≤ 9223372036854775807 := by
  rcases List.eq_nil_or_concat l with rfl | ⟨a, c, rfl⟩
  · exact ⟨by decide, by decide⟩
  · rw [List.concat_eq_append, upW_push]; unfold wrap64; omega
set_option maxHeartbeats 8000000 in
set_option maxRecDepth 100000 in
theorem l12Number_any (s : ByteArray) (w : World) (hs : s.size ≤ 1048576) :
    Calls Tryd.prog 17 #[.string s] w fun e w' => NumOut s.data.toList w e w' := by
  have hlen : s.data.toList.length = s.size := Array.length_toList
  by_cases hz : s.size = 0
  · have hl : s.data.toList = [] := List.eq_nil_of_length_eq_zero (by omega)
    have hnil : s.toList = [] := by rw [ByteArray.toList_eq]; exact hl
    have hok : Hid (okN s.data.toList = false) := by show _ = _; rw [hl]; rfl
    have hz0 : (s.size : Int) = 0 := by omega
    clear hz hl hlen
    go_enter Tryd.func17, Tryd.ntmps17
    go_wp2_with fail
    go_loop [4, 6] (fun n i => n = .int .i64 0 ∧ i = .int .i64 0) (fun _ _ => 0)
    case atStart => exact ⟨rfl, rfl⟩
    case round =>
      obtain ⟨rfl, rfl⟩ := hrel
      go_wp2_with fail
      go_returns
      exact NumOut.no hok.out
  have hne : s.toList.isEmpty = false := by
    rw [ByteArray.toList_eq]
    cases h : s.data.toList with
    | nil => rw [h] at hlen; simp at hlen; omega
    | cons a l => rfl
  have hpos : 0 < s.size := by omega
  have hposI : (0 : Int) < s.size := by omega
  have hhd := at_list s 0 hpos
  have hm : mns s.data.toList = ((s[0].toNat : Int) == 45) := by
    cases h : s.data.toList with
    | nil => rw [h] at hlen; simp at hlen; omega
    | cons a l =>
      rw [h] at hhd
      simp at hhd
      rw [← hhd]
      unfold mns
      rw [Bool.eq_iff_iff]
      simp only [beq_iff_eq]
      constructor
      · rintro rfl; rfl
      · intro h2; exact UInt8.toNat_inj.1 (by show a.toNat = 45; omega)
  cases hM : mns s.data.toList with
  | true =>
    have hm1 : ((s[0].toNat : Int) == 45) = true := hm.symm.trans hM
    as_aux_lemma =>
    go_enter Tryd.func17, Tryd.ntmps17
    go_wp2_with fail
    go_loop [4, 6] (fun v i => ∃ (k : Nat) (n : Int), k ≤ s.size ∧ i = .int .i64 k ∧ v = .int .i64 n ∧ Hid (n = dnW (s.data.toList.tail.take (k - 1)))) (fun _ i => s.size - (intOf i).toNat)
    case atStart => exact ⟨0, 0, Nat.zero_le _, rfl, rfl, rfl⟩
    case round =>
      obtain ⟨k, n, hk, rfl, rfl, Hn⟩ := hrel
      by_cases hlt : k < s.size
      · have hltI : (k : Int) < s.size := by omega
        by_cases h0 : k = 0
        · subst h0
          have HN : Hid (n = dnW (s.data.toList.tail.take (1 - 1))) := Hn
          clear hm hlen hhd
          go_wp2_with fail
          exact ⟨⟨1, n, by omega, by go_num, rfl, HN⟩, by simp [intOf]; omega⟩
        have hk0 : ((k : Int) == 0) = false := by simp; omega
        have hc := at_list s k hlt
        cases hd : dig s[k] with
        | false =>
          have hok : Hid (okN s.data.toList = false) := by
            show _ = _
            cases h : okN s.data.toList with
            | false => rfl
            | true =>
              have := (okN_num h).2.2.2.2.1 hM s[k] (by
            obtain ⟨j, rfl⟩ : ∃ j, k = j + 1 := ⟨k - 1, by omega⟩
            cases hx : s.data.toList with
            | nil => rw [hx] at hc; simp at hc
            | cons a l => rw [hx] at hc; simp only [List.getElem?_cons_succ] at hc; exact List.mem_of_getElem? hc)
              rw [hd] at this; cases this
          clear hc hm hlen hhd
          go_wp2_with (first | (go_at_call 24; refine (l08Digit_any s[k] _).mono ?_; rw [hd]; rintro e w' ⟨rfl, rfl⟩) | fail)
          go_returns
          exact NumOut.no hok.out
        | true =>
          by_cases h20 : 20 < (s.size : Int)
          · have hok : Hid (okN s.data.toList = false) := by
              show _ = _
              cases h : okN s.data.toList with
              | false => rfl
              | true => have := (okN_num h).2.2.1; omega
            clear hc hm hlen hhd
            go_wp2_with (first | (go_at_call 24; refine (l08Digit_any s[k] _).mono ?_; rw [hd]; rintro e w' ⟨rfl, rfl⟩) | fail)
            go_returns
            exact NumOut.no hok.out
          have h20d : decide (20 < (s.size : Int)) = false := by simp; omega
          have HN : Hid (wrap64 (wrap64 (10 * n) - ((s[k].toNat : Int) - 48)) = dnW (s.data.toList.tail.take (k + 1 - 1))) := by
            show _ = _
            obtain ⟨j, rfl⟩ : ∃ j, k = j + 1 := ⟨k - 1, by omega⟩
            have hn2 : n = dnW (s.data.toList.tail.take j) := Hn.out
            rw [show j + 1 + 1 - 1 = j + 1 by omega, tail_take hc, dnW_push, ← hn2]
          have e1 := wrap_byte s[k]
          have e2 : wrap64 ((s[k].toNat : Int) - 48) = (s[k].toNat : Int) - 48 := by have := s[k].toNat_lt; unfold wrap64; omega
          clear hc hm hlen hhd h20
          go_wp2_with (first | (go_at_call 24; refine (l08Digit_any s[k] _).mono ?_; rw [hd]; rintro e w' ⟨rfl, rfl⟩) | fail)
          exact ⟨⟨k + 1, _, by omega, by go_num, rfl, HN⟩, by simp [intOf]; omega⟩
      · have hfin : Hid (numW s.data.toList = n) := by
          have : numW s.data.toList = n := by
            unfold numW
            rw [if_pos hM, Hn.out, show k = s.size by omega, List.take_of_length_le (by simp [hlen])]
          exact this
        have hbd : -9223372036854775808 ≤ n ∧ n ≤ 9223372036854775807 := by rw [Hn.out]; exact dnW_bd _
        obtain ⟨h1, h2⟩ := okN_eq hfin.out hbd.1 hbd.2
        have hcmp : (Lib.itoa n == s.toList) = okN s.data.toList := by rw [← h1, ByteArray.toList_eq]
        have H2 : Hid (okN s.data.toList = true → n = valN s.data.toList) := h2
        clear h1 h2 hfin hm hhd hlen
        cases hok : okN s.data.toList with
        | true =>
          rw [hok] at hcmp
          go_wp2_with (first | (go_at_call 25; refine (specDec_any n _ hbd.1 hbd.2).mono ?_; rintro e w' ⟨rfl, rfl⟩) | fail)
          go_returns
          exact ⟨⟨n, by rw [hok]; rfl, H2.out⟩, rfl⟩
        | false =>
          rw [hok] at hcmp
          go_wp2_with (first | (go_at_call 25; refine (specDec_any n _ hbd.1 hbd.2).mono ?_; rintro e w' ⟨rfl, rfl⟩) | fail)
          go_returns
          exact NumOut.no hok
  | false =>
    have hm1 : ((s[0].toNat : Int) == 45) = false := hm.symm.trans hM
    as_aux_lemma =>
    go_enter Tryd.func17, Tryd.ntmps17
    go_wp2_with fail
    go_loop [4, 6] (fun v i => ∃ (k : Nat) (n : Int), k ≤ s.size ∧ i = .int .i64 k ∧ v = .int .i64 n ∧ Hid (n = upW (s.data.toList.take k))) (fun _ i => s.size - (intOf i).toNat)
    case atStart => exact ⟨0, 0, Nat.zero_le _, rfl, rfl, rfl⟩
    case round =>
      obtain ⟨k, n, hk, rfl, rfl, Hn⟩ := hrel
      by_cases hlt : k < s.size
      · have hltI : (k : Int) < s.size := by omega
        cases hk0 : ((k : Int) == 0) with
        | true =>
          have hc := at_list s k hlt
          cases hd : dig s[k] with
          | false =>
            have hok : Hid (okN s.data.toList = false) := by
              show _ = _
              cases h : okN s.data.toList with
              | false => rfl
              | true =>
                have := (okN_num h).2.2.2.2.2 hM s[k] (List.mem_of_getElem? hc)
                rw [hd] at this; cases this
            clear hc hm hlen hhd
            go_wp2_with (first | (go_at_call 24; refine (l08Digit_any s[k] _).mono ?_; rw [hd]; rintro e w' ⟨rfl, rfl⟩) | fail)
            go_returns
            exact NumOut.no hok.out
          | true =>
            by_cases h20 : 20 < (s.size : Int)
            · have hok : Hid (okN s.data.toList = false) := by
                show _ = _
                cases h : okN s.data.toList with
                | false => rfl
                | true => have := (okN_num h).2.2.1; omega
              clear hc hm hlen hhd
              go_wp2_with (first | (go_at_call 24; refine (l08Digit_any s[k] _).mono ?_; rw [hd]; rintro e w' ⟨rfl, rfl⟩) | fail)
              go_returns
              exact NumOut.no hok.out
            have h20d : decide (20 < (s.size : Int)) = false := by simp; omega
            have HN : Hid (wrap64 (wrap64 (10 * n) + ((s[k].toNat : Int) - 48)) = upW (s.data.toList.take (k + 1))) := by
              show _ = _
              rw [take_push hc, upW_push, ← Hn.out]
            have e1 := wrap_byte s[k]
            have e2 : wrap64 ((s[k].toNat : Int) - 48) = (s[k].toNat : Int) - 48 := by have := s[k].toNat_lt; unfold wrap64; omega
            clear hc hm hlen hhd h20
            go_wp2_with (first | (go_at_call 24; refine (l08Digit_any s[k] _).mono ?_; rw [hd]; rintro e w' ⟨rfl, rfl⟩) | fail)
            exact ⟨⟨k + 1, _, by omega, by go_num, rfl, HN⟩, by simp [intOf]; omega⟩
        | false =>
          have hc := at_list s k hlt
          cases hd : dig s[k] with
          | false =>
            have hok : Hid (okN s.data.toList = false) := by
              show _ = _
              cases h : okN s.data.toList with
              | false => rfl
              | true =>
                have := (okN_num h).2.2.2.2.2 hM s[k] (List.mem_of_getElem? hc)
                rw [hd] at this; cases this
            clear hc hm hlen hhd
            go_wp2_with (first | (go_at_call 24; refine (l08Digit_any s[k] _).mono ?_; rw [hd]; rintro e w' ⟨rfl, rfl⟩) | fail)
            go_returns
            exact NumOut.no hok.out
          | true =>
            by_cases h20 : 20 < (s.size : Int)
            · have hok : Hid (okN s.data.toList = false) := by
                show _ = _
                cases h : okN s.data.toList with
                | false => rfl
                | true => have := (okN_num h).2.2.1; omega
              clear hc hm hlen hhd
              go_wp2_with (first | (go_at_call 24; refine (l08Digit_any s[k] _).mono ?_; rw [hd]; rintro e w' ⟨rfl, rfl⟩) | fail)
              go_returns
              exact NumOut.no hok.out
            have h20d : decide (20 < (s.size : Int)) = false := by simp; omega
            have HN : Hid (wrap64 (wrap64 (10 * n) + ((s[k].toNat : Int) - 48)) = upW (s.data.toList.take (k + 1))) := by
              show _ = _
              rw [take_push hc, upW_push, ← Hn.out]
            have e1 := wrap_byte s[k]
            have e2 : wrap64 ((s[k].toNat : Int) - 48) = (s[k].toNat : Int) - 48 := by have := s[k].toNat_lt; unfold wrap64; omega
            clear hc hm hlen hhd h20
            go_wp2_with (first | (go_at_call 24; refine (l08Digit_any s[k] _).mono ?_; rw [hd]; rintro e w' ⟨rfl, rfl⟩) | fail)
            exact ⟨⟨k + 1, _, by omega, by go_num, rfl, HN⟩, by simp [intOf]; omega⟩
      · have hfin : Hid (numW s.data.toList = n) := by
          have : numW s.data.toList = n := by
            unfold numW
            rw [if_neg (by rw [hM]; decide), Hn.out, show k = s.size by omega, List.take_of_length_le (by omega)]
          exact this
        have hbd : -9223372036854775808 ≤ n ∧ n ≤ 9223372036854775807 := by rw [Hn.out]; exact upW_bd _
        obtain ⟨h1, h2⟩ := okN_eq hfin.out hbd.1 hbd.2
        have hcmp : (Lib.itoa n == s.toList) = okN s.data.toList := by rw [← h1, ByteArray.toList_eq]
        have H2 : Hid (okN s.data.toList = true → n = valN s.data.toList) := h2
        clear h1 h2 hfin hm hhd hlen
        cases hok : okN s.data.toList with
        | true =>
          rw [hok] at hcmp
          go_wp2_with (first | (go_at_call 25; refine (specDec_any n _ hbd.1 hbd.2).mono ?_; rintro e w' ⟨rfl, rfl⟩) | fail)
          go_returns
          exact ⟨⟨n, by rw [hok]; rfl, H2.out⟩, rfl⟩
        | false =>
          rw [hok] at hcmp
          go_wp2_with (first | (go_at_call 25; refine (specDec_any n _ hbd.1 hbd.2).mono ?_; rintro e w' ⟨rfl, rfl⟩) | fail)
          go_returns
          exact NumOut.no hok
end Go.Proofs.YtbobjfokampjbaaDoor
