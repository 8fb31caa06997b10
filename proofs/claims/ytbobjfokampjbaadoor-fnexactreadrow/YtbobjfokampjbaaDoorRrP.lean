/- Own text. What ReadRow reads: numbers, texts in quotes; in plain words. -/
import Derived.Test.YtbobjfokampjbaaDoorKit
import Derived.Lib.AtoiAllCases
import Derived.Lib.ItoaMem
import Derived.Lib.IndexMore
namespace Go.Proofs.YtbobjfokampjbaaDoor
open Go.RowKit
set_option linter.unusedVariables false
/-- whether a byte is a digit. -/
def dig (c : UInt8) : Bool := decide (48 ≤ c.toNat) && decide (c.toNat ≤ 57)
/-- the number of digits, reckoned up and down as the model does. -/
def upW (l : List UInt8) : Int := l.foldl (fun n c => wrap64 (wrap64 (10 * n) + ((c.toNat : Int) - 48))) 0
def dnW (l : List UInt8) : Int := l.foldl (fun n c => wrap64 (wrap64 (10 * n) - ((c.toNat : Int) - 48))) 0
theorem upW_push (l : List UInt8) (c : UInt8) : upW (l ++ [c]) = wrap64 (wrap64 (10 * upW l) + ((c.toNat : Int) - 48)) := by unfold upW; rw [List.foldl_append]; rfl
theorem dnW_push (l : List UInt8) (c : UInt8) : dnW (l ++ [c]) = wrap64 (wrap64 (10 * dnW l) - ((c.toNat : Int) - 48)) := by unfold dnW; rw [List.foldl_append]; rfl
theorem dd_small {u : Nat} (h : u < 10) : Lib.decDigits u = [UInt8.ofNat (48 + u)] := by rw [Lib.decDigits, dif_pos h]
theorem dd_big {u : Nat} (h : ¬ u < 10) : Lib.decDigits u = Lib.decDigits (u / 10) ++ [UInt8.ofNat (48 + u % 10)] := by rw [Lib.decDigits, dif_neg h]
theorem dnat {d : Nat} (h : d < 10) : (UInt8.ofNat (48 + d)).toNat = 48 + d := by
  rw [UInt8.toNat_ofNat']; exact Nat.mod_eq_of_lt (by omega)
theorem upW_dd : ∀ u : Nat, u ≤ 9223372036854775807 → upW (Lib.decDigits u) = u := by
  intro u
  induction u using Nat.strongRecOn with
  | _ u ih =>
    intro hu
    by_cases h : u < 10
    · rw [dd_small h]
      show wrap64 (wrap64 (10 * 0) + (((UInt8.ofNat (48 + u)).toNat : Int) - 48)) = u
      rw [dnat h]; unfold wrap64; omega
    · rw [dd_big h, upW_push, ih (u / 10) (by omega) (by omega), dnat (by omega)]
      unfold wrap64; omega
theorem dnW_dd : ∀ u : Nat, u ≤ 9223372036854775808 → dnW (Lib.decDigits u) = -(u : Int) := by
  intro u
  induction u using Nat.strongRecOn with
  | _ u ih =>
    intro hu
    by_cases h : u < 10
    · rw [dd_small h]
      show wrap64 (wrap64 (10 * 0) - (((UInt8.ofNat (48 + u)).toNat : Int) - 48)) = -(u : Int)
      rw [dnat h]; unfold wrap64; omega
    · rw [dd_big h, dnW_push, ih (u / 10) (by omega) (by omega), dnat (by omega)]
      unfold wrap64; omega
theorem dd_dig : ∀ u : Nat, ∀ c ∈ Lib.decDigits u, dig c = true := by
  intro u
  induction u using Nat.strongRecOn with
  | _ u ih =>
    intro c hc
    by_cases h : u < 10
    · rw [dd_small h] at hc
      rw [List.mem_singleton.1 hc]
      unfold dig; rw [dnat h]; simp; omega
    · rw [dd_big h] at hc
      rcases List.mem_append.1 hc with hc | hc
      · exact ih (u / 10) (by omega) c hc
      · rw [List.mem_singleton.1 hc]
        unfold dig; rw [dnat (by omega)]; simp; omega
theorem nd_le : ∀ (k u : Nat), u < 10 ^ (k + 1) → Lib.nDigits u ≤ k + 1
  | 0, u, h => by rw [Lib.nDigits_small (by simpa using h)]; exact Nat.le_refl _
  | k + 1, u, h => by
    by_cases h10 : u < 10
    · rw [Lib.nDigits_small h10]; omega
    · rw [Lib.nDigits_big h10]
      have := nd_le k (u / 10) (by rw [Nat.pow_succ] at h; omega)
      omega
theorem dd_len {u : Nat} (h : u ≤ 9223372036854775808) : 1 ≤ (Lib.decDigits u).length ∧ (Lib.decDigits u).length ≤ 19 := by
  rw [Lib.decDigits_length]
  exact ⟨Lib.nDigits_pos u, nd_le 18 u (by omega)⟩
theorem parse_push (c : UInt8) : ∀ (l : List UInt8) (acc : Nat), Lib.parseUint10 acc (l ++ [c]) = match Lib.parseUint10 acc l with
    | .ok a => Lib.parseUint10 a [c]
    | e => e
  | [], acc => rfl
  | d :: l, acc => by
    rw [List.cons_append, Lib.parseUint10, Lib.parseUint10]
    split
    · split
      · rfl
      · split
        · rfl
        · exact parse_push c l _
    · rfl
theorem parse_dd : ∀ u : Nat, u ≤ 9223372036854775808 → Lib.parseUint10 0 (Lib.decDigits u) = .ok u := by
  intro u
  induction u using Nat.strongRecOn with
  | _ u ih =>
    intro hu
    have one : ∀ (a d : Nat), d < 10 → a * 10 + d ≤ 9223372036854775808 → Lib.parseUint10 a [UInt8.ofNat (48 + d)] = .ok (a * 10 + d) := by
      intro a d hd ha
      rw [Lib.parseUint10, dnat hd, if_pos (by omega), if_neg (by omega), if_neg (by omega), Lib.parseUint10]
      congr 1; omega
    by_cases h : u < 10
    · rw [dd_small h, one 0 u h (by omega)]; congr 1; omega
    · rw [dd_big h, parse_push, ih (u / 10) (by omega) (by omega)]
      show Lib.parseUint10 (u / 10) _ = _
      rw [one (u / 10) (u % 10) (by omega) (by omega)]
      congr 1; omega
theorem mag_dd {u : Nat} (h : u ≤ 9223372036854775808) : Lib.parseMag (Lib.decDigits u) = .ok u := by
  unfold Lib.parseMag
  rw [if_neg, parse_dd u h]
  intro e
  have := (dd_len h).1
  rw [e] at this; simp at this
theorem atoi_itoa {n : Int} (h0 : -9223372036854775808 ≤ n) (h1 : n ≤ 9223372036854775807) : Lib.atoiAll (Lib.itoa n) = .ok n := by
  unfold Lib.itoa
  split
  · rw [Lib.atoiAll_minus, mag_dd (by omega)]
    unfold Lib.signed
    dsimp only
    rw [if_neg (by omega)]
    congr 1; omega
  · have hm := mag_dd (u := n.toNat) (by omega)
    have hl := (dd_len (u := n.toNat) (by omega)).1
    have hd := dd_dig n.toNat
    cases hx : Lib.decDigits n.toNat with
    | nil => rw [hx] at hl; simp at hl
    | cons c r =>
      rw [hx] at hm hd
      have := hd c (by simp)
      unfold dig at this
      simp at this
      rw [Lib.atoiAll_plain c r (by omega) (by omega), hm]
      unfold Lib.signless
      dsimp only
      rw [if_neg (by omega)]
      congr 1; omega
/-- whether bytes are the text of a number, and that number. -/
def okN (l : List UInt8) : Bool := match Lib.atoiAll l with
  | .ok n => Lib.itoa n == l
  | _ => false
def valN (l : List UInt8) : Int := match Lib.atoiAll l with
  | .ok n => n
  | _ => 0
theorem okN_ex {l : List UInt8} (h : okN l = true) : ∃ n, -9223372036854775808 ≤ n ∧ n ≤ 9223372036854775807 ∧ l = Lib.itoa n ∧ valN l = n := by
  unfold okN at h
  rcases ha : Lib.atoiAll l with n | _ | _
  · rw [ha] at h
    obtain ⟨h0, h1⟩ := Lib.atoiAll_bounds ha
    exact ⟨n, h0, h1, (eq_of_beq h).symm, by unfold valN; rw [ha]⟩
  · rw [ha] at h; cases h
  · rw [ha] at h; cases h
theorem okN_itoa {n : Int} (h0 : -9223372036854775808 ≤ n) (h1 : n ≤ 9223372036854775807) : okN (Lib.itoa n) = true ∧ valN (Lib.itoa n) = n := by
  unfold okN valN
  rw [atoi_itoa h0 h1]
  exact ⟨beq_self_eq_true _, rfl⟩
/-- the number as the model reckons it. -/
def mns (l : List UInt8) : Bool := match l with
  | [] => false
  | c :: _ => c == 45
def numW (l : List UInt8) : Int := if mns l = true then dnW l.tail else upW l
theorem itoa_form {n : Int} (h0 : -9223372036854775808 ≤ n) (h1 : n ≤ 9223372036854775807) : numW (Lib.itoa n) = n ∧ (Lib.itoa n).length ≤ 20 ∧ Lib.itoa n ≠ [] ∧ (mns (Lib.itoa n) = true → ∀ c ∈ (Lib.itoa n).tail, dig c = true) ∧ (mns (Lib.itoa n) = false → ∀ c ∈ Lib.itoa n, dig c = true) := by
  unfold Lib.itoa
  split
  · have hl := dd_len (u := n.natAbs) (by omega)
    refine ⟨?_, (by simp; omega), (by simp), (fun _ c hc => dd_dig _ c hc), fun h => by cases h⟩
    show dnW (Lib.decDigits n.natAbs) = n
    rw [dnW_dd _ (by omega)]; omega
  · have hl := dd_len (u := n.toNat) (by omega)
    have hd := dd_dig n.toNat
    have hm : mns (Lib.decDigits n.toNat) = false := by
      cases hx : Lib.decDigits n.toNat with
      | nil => rfl
      | cons c r =>
        rw [hx] at hd
        have := hd c (by simp)
        unfold dig at this
        simp at this
        have hc : c ≠ 45 := by rintro rfl; simp at this
        unfold mns
        simpa using hc
    refine ⟨?_, by omega, ?_, (fun h => by rw [hm] at h; cases h), fun _ c hc => hd c hc⟩
    · unfold numW
      rw [if_neg (by rw [hm]; decide), upW_dd _ (by omega)]; omega
    · intro e; rw [e] at hl; simp at hl
theorem okN_num {l : List UInt8} (h : okN l = true) : numW l = valN l ∧ Lib.itoa (numW l) = l ∧ l.length ≤ 20 ∧ l ≠ [] ∧ (mns l = true → ∀ c ∈ l.tail, dig c = true) ∧ (mns l = false → ∀ c ∈ l, dig c = true) := by
  obtain ⟨n, h0, h1, rfl, hv⟩ := okN_ex h
  obtain ⟨a, b, c, d, e⟩ := itoa_form h0 h1
  exact ⟨a.trans hv.symm, by rw [a], b, c, d, e⟩
theorem okN_eq {l : List UInt8} {n : Int} (hn : numW l = n) (h0 : -9223372036854775808 ≤ n) (h1 : n ≤ 9223372036854775807) : (Lib.itoa n == l) = okN l ∧ (okN l = true → n = valN l) := by
  constructor
  · cases h : okN l with
    | true => rw [← hn, (okN_num h).2.1]; simp
    | false =>
      cases h2 : (Lib.itoa n == l) with
      | false => rfl
      | true =>
        have := (okN_itoa h0 h1).1
        rw [eq_of_beq h2, h] at this; cases this
  · intro h; rw [← hn]; exact (okN_num h).1
/-- the text behind a quote, up to the next one that stands alone, and what is left behind that. -/
def qtx : List UInt8 → Option (List UInt8 × List UInt8)
  | [] => none
  | [c] => if c = 39 then some ([], []) else none
  | c :: d :: r => if c = 39 then (if d = 39 then (qtx r).map (fun p => (39 :: p.1, p.2)) else some ([], d :: r)) else (qtx (d :: r)).map (fun p => (c :: p.1, p.2))
theorem qtx_plain {c : UInt8} (h : c ≠ 39) (r : List UInt8) : qtx (c :: r) = (qtx r).map (fun p => (c :: p.1, p.2)) := by
  cases r with
  | nil => simp [qtx, h]
  | cons d r => rw [qtx, if_neg h]
theorem qtx_end (r : List UInt8) (h : r.head? ≠ some 39) : qtx (39 :: r) = some ([], r) := by
  cases r with
  | nil => rfl
  | cons d r => rw [qtx, if_pos rfl, if_neg (by simpa using h)]
theorem qtx_two (r : List UInt8) : qtx (39 :: 39 :: r) = (qtx r).map (fun p => (39 :: p.1, p.2)) := by rw [qtx, if_pos rfl, if_pos rfl]
theorem qtx_pre : ∀ (a : List UInt8), (∀ c ∈ a, c ≠ 39) → ∀ r, qtx (a ++ r) = (qtx r).map (fun p => (a ++ p.1, p.2))
  | [], _, r => by simp
  | c :: a, h, r => by
    rw [List.cons_append, qtx_plain (h c (by simp)), qtx_pre a (fun d hd => h d (by simp [hd])) r]
    simp [Option.map_map, Function.comp_def]
theorem qtx_none : ∀ {a : List UInt8}, (∀ c ∈ a, c ≠ 39) → qtx a = none := by
  intro a h
  have := qtx_pre a h []
  simpa [qtx] using this
theorem qtx_len : ∀ {l t r : List UInt8}, qtx l = some (t, r) → r.length < l.length ∧ t.length < l.length ∧ ∃ a, l = a ++ r ∧ qtx a = some (t, [])
  | [], t, r, h => by cases h
  | [c], t, r, h => by
    unfold qtx at h
    split at h
    · rename_i hc
      injection h with h; injection h with h1 h2; subst h1 h2 hc
      exact ⟨by simp, by simp, [39], rfl, rfl⟩
    · cases h
  | c :: d :: l, t, r, h => by
    rw [qtx] at h
    split at h
    · rename_i hc
      subst hc
      split at h
      · rename_i hd
        subst hd
        cases hq : qtx l with
        | none => rw [hq] at h; cases h
        | some p =>
          obtain ⟨t', r'⟩ := p
          rw [hq] at h
          injection h with h; injection h with h1 h2; subst h1 h2
          obtain ⟨e1, e2, a, e3, e4⟩ := qtx_len hq
          refine ⟨by simp; omega, by simp; omega, 39 :: 39 :: a, by rw [e3]; rfl, ?_⟩
          rw [qtx_two, e4]; rfl
      · injection h with h; injection h with h1 h2; subst h1 h2
        exact ⟨by simp, by simp, [39], rfl, rfl⟩
    · rename_i hc
      cases hq : qtx (d :: l) with
      | none => rw [hq] at h; cases h
      | some p =>
        obtain ⟨t', r'⟩ := p
        rw [hq] at h
        injection h with h; injection h with h1 h2; subst h1 h2
        obtain ⟨e1, e2, a, e3, e4⟩ := qtx_len hq
        refine ⟨by simp at e1 ⊢; omega, by simp at e2 ⊢; omega, c :: a, by rw [e3]; rfl, ?_⟩
        rw [qtx_plain hc, e4]; rfl
end Go.Proofs.YtbobjfokampjbaaDoor
