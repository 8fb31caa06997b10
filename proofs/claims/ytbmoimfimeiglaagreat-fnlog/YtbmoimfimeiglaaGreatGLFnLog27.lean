/- Own texts, joined: contracts that the law's proof goes by. -/
import Derived.Test.YtbmoimfimeiglaaGreatGLFnLog16
import Derived.Test.YtbmoimfimeiglaaGreatGLFnLog26
import Derived.Handy
namespace Go.Proofs.YtbmoimfimeiglaaGreat
open Go.RowKit
set_option linter.unusedVariables false
def beT (t : ByteArray) : Int := be t.data.toList
def tk (s : ByteArray) (e n : Nat) (q : Nat × Bool) : ByteArray × (Nat × Bool) := if q.1 + n ≤ e then (s.extract q.1 (q.1 + n), (q.1 + n, q.2)) else (⟨#[]⟩, (q.1, true))
def nm (s : ByteArray) (e k : Nat) (q : Nat × Bool) : Int × (Nat × Bool) := (beT (tk s e k q).1, (tk s e k q).2)
def tx (s : ByteArray) (e k : Nat) (q : Nat × Bool) : ByteArray × (Nat × Bool) := tk s e (nm s e k q).1.toNat (nm s e k q).2
def rlB (s : ByteArray) (e : Nat) (q : Nat × Bool) : ByteArray × (Nat × Bool) := tx s e 4 (tx s e 2 q).2
def rl (s : ByteArray) (e : Nat) (q : Nat × Bool) : R3 × (Nat × Bool) := (⟨(tx s e 2 q).1, aW (rlB s e q).1, aC (rlB s e q).1⟩, ((rlB s e q).2.1, (rlB s e q).2.2 || !aB (rlB s e q).1))
def csn (s : ByteArray) (e : Nat) (q : Nat × Bool) : Nat → List ByteArray × (Nat × Bool)
  | 0 => ([], q)
  | k + 1 => ((csn s e q k).1 ++ [(tx s e 2 (csn s e q k).2).1], (tx s e 2 (csn s e q k).2).2)
def rln (s : ByteArray) (e : Nat) (q : Nat × Bool) : Nat → List R3 × (Nat × Bool)
  | 0 => ([], q)
  | k + 1 => ((rln s e q k).1 ++ [(rl s e (rln s e q k).2).1], (rl s e (rln s e q k).2).2)
def sA (s : ByteArray) (e : Nat) (q : Nat × Bool) : Int × (Nat × Bool) := nm s e 1 q
def sB (s : ByteArray) (e : Nat) (q : Nat × Bool) : ByteArray × (Nat × Bool) := tx s e 2 (sA s e q).2
def sN (s : ByteArray) (e : Nat) (q : Nat × Bool) : Int × (Nat × Bool) := nm s e 1 (sB s e q).2
def sC' (s : ByteArray) (e : Nat) (q : Nat × Bool) : List ByteArray × (Nat × Bool) := csn s e (sN s e q).2 (sN s e q).1.toNat
def sD (s : ByteArray) (e : Nat) (q : Nat × Bool) : ByteArray × (Nat × Bool) := tx s e 2 (sC' s e q).2
def sM (s : ByteArray) (e : Nat) (q : Nat × Bool) : Int × (Nat × Bool) := nm s e 1 (sD s e q).2
def sE (s : ByteArray) (e : Nat) (q : Nat × Bool) : List R3 × (Nat × Bool) := rln s e (sM s e q).2 (sM s e q).1.toNat
def sX (s : ByteArray) (e : Nat) (q : Nat × Bool) : T5 := ⟨(sA s e q).1, (sB s e q).1, (sC' s e q).1, (sD s e q).1, (sE s e q).1⟩
def sT (s : ByteArray) (e : Nat) (q : Nat × Bool) : Bool := (sE s e q).2.2 || !((sE s e q).2.1 == e)
def sO (s : ByteArray) (e : Nat) (q : Nat × Bool) : Bool := !sT s e q && okStep (sX s e q)
def zT : T5 := ⟨0, ⟨#[]⟩, [], ⟨#[]⟩, []⟩
def gT (s : ByteArray) : T5 := if sO s s.size (0, false) = true then sX s s.size (0, false) else zT
def gO (s : ByteArray) : Bool := sO s s.size (0, false)
def dr (s : ByteArray) (a : Nat) : List Int := (txN s).drop a
section
variable {s : ByteArray} {e n k : Nat} {q : Nat × Bool}
theorem tk_at (h : q.1 ≤ e) : (tk s e n q).2.1 ≤ e := by unfold tk; split <;> simp_all
theorem nm_at (h : q.1 ≤ e) : (nm s e k q).2.1 ≤ e := tk_at h
theorem tx_at (h : q.1 ≤ e) : (tx s e k q).2.1 ≤ e := tk_at (nm_at h)
theorem rlB_at (h : q.1 ≤ e) : (rlB s e q).2.1 ≤ e := tx_at (tx_at h)
theorem rl_at (h : q.1 ≤ e) : (rl s e q).2.1 ≤ e := rlB_at h
theorem csn_at (h : q.1 ≤ e) : ∀ n, (csn s e q n).2.1 ≤ e
  | 0 => h
  | n + 1 => tx_at (csn_at h n)
theorem rln_at (h : q.1 ≤ e) : ∀ n, (rln s e q n).2.1 ≤ e
  | 0 => h
  | n + 1 => rl_at (rln_at h n)
theorem csn_len : ∀ n, (csn s e q n).1.length = n
  | 0 => rfl
  | n + 1 => by rw [csn, List.length_append, csn_len n]; rfl
theorem rln_len : ∀ n, (rln s e q n).1.length = n
  | 0 => rfl
  | n + 1 => by rw [rln, List.length_append, rln_len n]; rfl
theorem tk_size (he : e ≤ s.size) (h : q.1 ≤ e) : (tk s e n q).1.size ≤ s.size := by
  unfold tk
  split
  · simp only [ByteArray.size_extract]; omega
  · exact Nat.zero_le _
theorem tk_le (he : e ≤ s.size) (h : q.1 ≤ e) : (tk s e n q).1.size ≤ n := by
  unfold tk
  split
  · simp only [ByteArray.size_extract]; omega
  · exact Nat.zero_le _
theorem nm_bd (he : e ≤ s.size) (h : q.1 ≤ e) (hk : k ≤ 4) : 0 ≤ (nm s e k q).1 ∧ (nm s e k q).1 < 4294967296 := by
  have h1 := tk_le (s := s) (n := k) he h
  have h2 := be_bd_aux _ (tk s e k q).1.data.toList rfl
  have h3 : (tk s e k q).1.data.toList.length ≤ 4 := by simp; exact Nat.le_trans h1 hk
  have h4 : (256 : Int) ^ (tk s e k q).1.data.toList.length ≤ 256 ^ 4 := by
    generalize (tk s e k q).1.data.toList.length = m at *
    match m, h3 with
    | 0, _ => decide
    | 1, _ => decide
    | 2, _ => decide
    | 3, _ => decide
    | 4, _ => decide
  have h5 : (256 : Int) ^ 4 = 4294967296 := by decide
  unfold nm beT
  dsimp only
  omega
theorem nm_bd1 (he : e ≤ s.size) (h : q.1 ≤ e) : (nm s e 1 q).1 ≤ 255 := by
  have h1 := tk_le (s := s) (n := 1) he h
  have h2 := be_bd_aux _ (tk s e 1 q).1.data.toList rfl
  have h3 : (tk s e 1 q).1.data.toList.length ≤ 1 := by simpa using h1
  have h4 : (256 : Int) ^ (tk s e 1 q).1.data.toList.length ≤ 256 := by
    generalize (tk s e 1 q).1.data.toList.length = m at *
    match m, h3 with
    | 0, _ => decide
    | 1, _ => decide
  unfold nm beT
  dsimp only
  omega
theorem tk_torn (h : (tk s e n q).2.2 = false) : q.2 = false ∧ q.1 + n ≤ e := by
  unfold tk at h
  split at h
  · exact ⟨h, by assumption⟩
  · cases h
theorem nm_torn (h : (nm s e k q).2.2 = false) : q.2 = false := (tk_torn h).1
theorem tx_torn (h : (tx s e k q).2.2 = false) : (nm s e k q).2.2 = false ∧ q.2 = false := ⟨(tk_torn h).1, nm_torn (tk_torn h).1⟩
theorem rl_torn (h : (rl s e q).2.2 = false) : (rlB s e q).2.2 = false ∧ (tx s e 2 q).2.2 = false ∧ q.2 = false ∧ aB (rlB s e q).1 = true := by
  unfold rl at h
  simp only [Bool.or_eq_false_iff, Bool.not_eq_false'] at h
  have h2 := (tx_torn (q := (tx s e 2 q).2) h.1).2
  exact ⟨h.1, h2, (tx_torn h2).2, h.2⟩
theorem csn_torn : ∀ n, (csn s e q n).2.2 = false → q.2 = false
  | 0, h => h
  | n + 1, h => csn_torn n (tx_torn (q := (csn s e q n).2) h).2
theorem rln_torn : ∀ n, (rln s e q n).2.2 = false → q.2 = false
  | 0, h => h
  | n + 1, h => rln_torn n (rl_torn (q := (rln s e q n).2) h).2.2.1
theorem txN_extract (a b : Nat) (h : a ≤ b) (hb : b ≤ s.size) : dr s a = txN (s.extract a b) ++ dr s b := by
  have e1 : (s.extract a b).data.toList = (s.data.toList.drop a).take (b - a) := extract_list s a b
  unfold dr txN nb
  rw [e1, ← List.map_drop, ← List.map_drop, ← List.map_append]
  congr 1
  have := List.take_append_drop (b - a) (s.data.toList.drop a)
  rw [List.drop_drop, show a + (b - a) = b by omega] at this
  exact this.symm
theorem szN_be (l : List UInt8) : szN (be l) l.length = nb l := by
  have key : ∀ (n : Nat) (l : List UInt8), l.length = n → ∀ c : Int, 0 ≤ c → szN (c * 256 ^ n + be l) n = nb l := by
    intro n
    induction n with
    | zero => intro l hl c hc; rw [List.eq_nil_of_length_eq_zero hl]; rfl
    | succ n ih =>
      intro l hl c hc
      match l, hl with
      | x :: r, hl =>
        have hr : r.length = n := by simpa using hl
        have hb := be_bd_aux n r hr
        have hx := x.toNat_lt
        have e1 : be (x :: r) = (x.toNat : Int) * 256 ^ n + be r := by
          have gen : ∀ (r : List UInt8) (a : Int), List.foldl (fun a c => 256 * a + (c.toNat : Int)) a r = a * 256 ^ r.length + be r := by
            intro r
            induction r with
            | nil => intro a; simp [be]
            | cons y t iht =>
              intro a
              rw [List.foldl_cons, iht, List.length_cons, Int.pow_succ]
              have e2 : be (y :: t) = (y.toNat : Int) * 256 ^ t.length + be t := by
                unfold be
                rw [List.foldl_cons, iht]
                simp [be]
              rw [e2, Int.add_mul, Int.mul_comm 256 a, Int.mul_assoc, Int.mul_comm 256 (256 ^ t.length), Int.add_assoc]
          unfold be
          rw [List.foldl_cons, gen, hr]
          simp [be]
        have e3 : c * 256 ^ (n + 1) + be (x :: r) = (c * 256 + x.toNat) * 256 ^ n + be r := by
          rw [e1, Int.pow_succ, Int.add_mul, Int.mul_assoc, Int.mul_comm 256 (256 ^ n), Int.add_assoc]
        rw [e3]
        unfold szN
        rw [ih r hr (c * 256 + x.toNat) (by omega)]
        have e4 : ((c * 256 + (x.toNat : Int)) * 256 ^ n + be r) / 256 ^ n % 256 = x.toNat := num_part _ _ _ c _ (Int.pow_pos (by decide)) hb.1 hb.2 rfl (by omega) (by omega)
        rw [e4]
        rfl
  have := key l.length l rfl 0 (by omega)
  simpa using this
theorem tk_read (he : e ≤ s.size) (h : (tk s e n q).2.2 = false) : dr s q.1 = txN (tk s e n q).1 ++ dr s (tk s e n q).2.1 ∧ (tk s e n q).1.size = n := by
  have h2 := (tk_torn h).2
  unfold tk
  rw [if_pos h2]
  dsimp only
  exact ⟨txN_extract _ _ (by omega) (by omega), by rw [ByteArray.size_extract]; omega⟩
theorem nm_read (he : e ≤ s.size) (h : (nm s e k q).2.2 = false) : dr s q.1 = szN (nm s e k q).1 k ++ dr s (nm s e k q).2.1 := by
  obtain ⟨h1, h2⟩ := tk_read (q := q) (n := k) he h
  rw [h1]
  have h3 : (tk s e k q).1.data.toList.length = k := by simpa using h2
  have := szN_be (tk s e k q).1.data.toList
  rw [h3] at this
  unfold nm beT
  dsimp only
  rw [this]
  rfl
theorem tx_read (he : e ≤ s.size) (h : (tx s e k q).2.2 = false) : dr s q.1 = tN (tx s e k q).1 k ++ dr s (tx s e k q).2.1 := by
  have ht := tk_torn h
  obtain ⟨h1, h2⟩ := tk_read (q := (nm s e k q).2) (n := (nm s e k q).1.toNat) he h
  have h3 := nm_read (q := q) he ht.1
  have h5 : 0 ≤ (nm s e k q).1 := (be_bd_aux _ _ rfl).1
  rw [h3, h1]
  unfold tN
  have h4 : ((tx s e k q).1.size : Int) = (nm s e k q).1 := by
    unfold tx
    rw [h2]
    omega
  rw [h4, List.append_assoc]
  rfl
theorem csn_read (he : e ≤ s.size) : ∀ n, (csn s e q n).2.2 = false → dr s q.1 = csL (csn s e q n).1 ++ dr s (csn s e q n).2.1
  | 0, h => rfl
  | n + 1, h => by
    have h0 := (tx_torn (q := (csn s e q n).2) h).2
    rw [csn_read he n h0, tx_read (q := (csn s e q n).2) he h, csn]
    unfold csL
    rw [List.flatMap_append, List.flatMap_singleton, List.append_assoc]
theorem aB_put {t : ByteArray} (h : aB t = true) : putB (aW t) (aC t) = t := by
  unfold aB at h
  cases hA : ansB t with
  | none => rw [hA] at h; cases h
  | some cs =>
    obtain ⟨e1, e2, _⟩ := ans_some hA
    rw [e1, e2]
    unfold ansB at hA
    split at hA
    · cases hA
    · rename_i hz
      rw [← res_same t (by omega)] at hA
      unfold resS at hA
      split at hA
      · split at hA
        · cases hA
        · split at hA
          · cases hA; assumption
          · cases hA
      · cases hA
theorem rln_read (he : e ≤ s.size) : ∀ n, (rln s e q n).2.2 = false → dr s q.1 = rlsL (rln s e q n).1 ++ dr s (rln s e q n).2.1
  | 0, h => rfl
  | n + 1, h => by
    obtain ⟨h0, h1, h2, h3⟩ := rl_torn (q := (rln s e q n).2) h
    rw [rln_read he n h2, tx_read (q := (rln s e q n).2) he h1, tx_read (q := (tx s e 2 (rln s e q n).2).2) he h0, rln]
    have h4 := aB_put h3
    unfold rlsL
    rw [List.flatMap_append, List.flatMap_singleton]
    unfold rl rlL
    dsimp only
    rw [h4]
    simp only [List.append_assoc]
    rfl
theorem step_read (he : e ≤ s.size) (h : (sE s e q).2.2 = false) (hc : (sN s e q).1 ≤ 255) (hm : (sM s e q).1 ≤ 255) : dr s q.1 = stepL (sX s e q) ++ dr s (sE s e q).2.1 := by
  have h6 := rln_torn (q := (sM s e q).2) _ h
  have h5 := nm_torn (q := (sD s e q).2) h6
  have h4 := (tx_torn (q := (sC' s e q).2) h5).2
  have h3 := csn_torn (q := (sN s e q).2) _ h4
  have h2 := nm_torn (q := (sB s e q).2) h3
  have h1 := (tx_torn (q := (sA s e q).2) h2).2
  have n0 : 0 ≤ (sN s e q).1 := (be_bd_aux _ _ rfl).1
  have m0 : 0 ≤ (sM s e q).1 := (be_bd_aux _ _ rfl).1
  have e1 : ((sC' s e q).1.length : Int) = (sN s e q).1 := by unfold sC'; rw [csn_len]; omega
  have e2 : ((sE s e q).1.length : Int) = (sM s e q).1 := by unfold sE; rw [rln_len]; omega
  have r1 : dr s q.1 = szN (sA s e q).1 1 ++ dr s (sA s e q).2.1 := nm_read (q := q) he h1
  have r2 : dr s (sA s e q).2.1 = tN (sB s e q).1 2 ++ dr s (sB s e q).2.1 := tx_read (q := (sA s e q).2) he h2
  have r3 : dr s (sB s e q).2.1 = szN (sN s e q).1 1 ++ dr s (sN s e q).2.1 := nm_read (q := (sB s e q).2) he h3
  have r4 : dr s (sN s e q).2.1 = csL (sC' s e q).1 ++ dr s (sC' s e q).2.1 := csn_read (q := (sN s e q).2) he _ h4
  have r5 : dr s (sC' s e q).2.1 = tN (sD s e q).1 2 ++ dr s (sD s e q).2.1 := tx_read (q := (sC' s e q).2) he h5
  have r6 : dr s (sD s e q).2.1 = szN (sM s e q).1 1 ++ dr s (sM s e q).2.1 := nm_read (q := (sD s e q).2) he h6
  have r7 : dr s (sM s e q).2.1 = rlsL (sE s e q).1 ++ dr s (sE s e q).2.1 := rln_read (q := (sM s e q).2) he _ h
  rw [r1, r2, r3, r4, r5, r6, r7]
  unfold stepL mdL hdL sX
  dsimp only
  rw [e1, e2]
  simp only [List.append_assoc]
end
theorem dr_len (s : ByteArray) (a : Nat) : (dr s a).length = s.size - a := by unfold dr; rw [List.length_drop, txN_len]
theorem sE_at (s : ByteArray) : (sE s s.size (0, false)).2.1 ≤ s.size := rln_at (nm_at (tx_at (csn_at (nm_at (tx_at (nm_at (by simp)))) _))) _
theorem cut_bd (s : ByteArray) : (sN s s.size (0, false)).1 ≤ 255 ∧ (sM s s.size (0, false)).1 ≤ 255 := ⟨nm_bd1 (Nat.le_refl _) (tx_at (nm_at (by simp))), nm_bd1 (Nat.le_refl _) (tx_at (csn_at (nm_at (tx_at (nm_at (by simp)))) _))⟩
theorem step_same (s : ByteArray) (h : (sE s s.size (0, false)).2.2 = false) : (s.size ≠ 0 ∧ putT (sX s s.size (0, false)) = s) ↔ gO s = true := by
  obtain ⟨b1, b2⟩ := cut_bd s
  have hr := step_read (q := (0, false)) (Nat.le_refl _) h b1 b2
  have ha := sE_at s
  have hl := congrArg List.length hr
  rw [List.length_append, dr_len, dr_len] at hl
  dsimp only at hl
  unfold gO sO sT
  rw [h]
  constructor
  · rintro ⟨hz, hp⟩
    have ok : okStep (sX s s.size (0, false)) = true := by
      cases hk : okStep (sX s s.size (0, false)) with
      | true => rfl
      | false =>
        unfold putT at hp
        rw [hk] at hp
        rw [← hp] at hz
        exact absurd rfl hz
    have h2 : (stepL (sX s s.size (0, false))).length = s.size := by
      have := congrArg ByteArray.size hp
      unfold putT at this
      rw [if_pos ok, nums_size] at this
      exact this
    have : (sE s s.size (0, false)).2.1 = s.size := by omega
    rw [this, ok]
    simp
  · intro hk
    simp only [Bool.false_or, Bool.not_not, Bool.and_eq_true, beq_iff_eq] at hk
    obtain ⟨h1, ok⟩ := hk
    have h3 : dr s (sE s s.size (0, false)).2.1 = [] := List.eq_nil_of_length_eq_zero (by rw [dr_len]; omega)
    rw [h3, List.append_nil] at hr
    have h4 : txN s = stepL (sX s s.size (0, false)) := hr
    have h5 : putT (sX s s.size (0, false)) = s := by
      unfold putT
      rw [if_pos ok, ← h4, nums_txN]
    refine ⟨fun hz => ?_, h5⟩
    have := mdL_ne (sX s s.size (0, false))
    rw [← h4] at this
    exact this (List.eq_nil_of_length_eq_zero (by rw [txN_len]; exact hz))
end Go.Proofs.YtbmoimfimeiglaaGreat
namespace Go.Proofs.YtbmoimfimeiglaaGreat
open Go.RowKit
set_option linter.unusedVariables false
def sh (a : Nat) (q : Nat × Bool) : Nat × Bool := (q.1 + a, q.2)
theorem ext_ext (s : ByteArray) {a e i j : Nat} (he : e ≤ s.size) (hj : j + a ≤ e) : (s.extract a e).extract i j = s.extract (i + a) (j + a) := by
  apply ByteArray.ext; apply Array.ext'
  show ((s.extract a e).extract i j).data.toList = (s.extract (i + a) (j + a)).data.toList
  rw [extract_list, extract_list, extract_list, List.drop_take, List.take_take, List.drop_drop, Nat.add_comm a i]
  congr 1
  omega
section
variable {s : ByteArray} {a e : Nat}
theorem tk_sh {n : Nat} {q : Nat × Bool} (he : e ≤ s.size) (ha : a ≤ e) : tk s e n (sh a q) = ((tk (s.extract a e) (e - a) n q).1, sh a (tk (s.extract a e) (e - a) n q).2) := by
  unfold tk sh
  dsimp only
  by_cases h : q.1 + n ≤ e - a
  · rw [if_pos h, if_pos (show q.1 + a + n ≤ e by omega)]
    dsimp only
    rw [ext_ext s he (by omega), show q.1 + a + n = q.1 + n + a by omega]
  · rw [if_neg h, if_neg (show ¬ q.1 + a + n ≤ e by omega)]
theorem nm_sh {k : Nat} {q : Nat × Bool} (he : e ≤ s.size) (ha : a ≤ e) : nm s e k (sh a q) = ((nm (s.extract a e) (e - a) k q).1, sh a (nm (s.extract a e) (e - a) k q).2) := by
  unfold nm; rw [tk_sh he ha]
theorem tx_sh {k : Nat} {q : Nat × Bool} (he : e ≤ s.size) (ha : a ≤ e) : tx s e k (sh a q) = ((tx (s.extract a e) (e - a) k q).1, sh a (tx (s.extract a e) (e - a) k q).2) := by
  unfold tx; rw [nm_sh he ha]; dsimp only; rw [tk_sh he ha]
theorem rlB_sh {q : Nat × Bool} (he : e ≤ s.size) (ha : a ≤ e) : rlB s e (sh a q) = ((rlB (s.extract a e) (e - a) q).1, sh a (rlB (s.extract a e) (e - a) q).2) := by
  unfold rlB; rw [tx_sh he ha]; dsimp only; rw [tx_sh he ha]
theorem rl_sh {q : Nat × Bool} (he : e ≤ s.size) (ha : a ≤ e) : rl s e (sh a q) = ((rl (s.extract a e) (e - a) q).1, sh a (rl (s.extract a e) (e - a) q).2) := by
  unfold rl; rw [tx_sh he ha, rlB_sh he ha]; rfl
theorem csn_sh {q : Nat × Bool} (he : e ≤ s.size) (ha : a ≤ e) : ∀ n, csn s e (sh a q) n = ((csn (s.extract a e) (e - a) q n).1, sh a (csn (s.extract a e) (e - a) q n).2)
  | 0 => rfl
  | n + 1 => by rw [csn, csn_sh he ha n]; dsimp only; rw [tx_sh he ha]; rfl
theorem rln_sh {q : Nat × Bool} (he : e ≤ s.size) (ha : a ≤ e) : ∀ n, rln s e (sh a q) n = ((rln (s.extract a e) (e - a) q n).1, sh a (rln (s.extract a e) (e - a) q n).2)
  | 0 => rfl
  | n + 1 => by rw [rln, rln_sh he ha n]; dsimp only; rw [rl_sh he ha]; rfl
theorem step_sh {q : Nat × Bool} (he : e ≤ s.size) (ha : a ≤ e) : sX s e (sh a q) = sX (s.extract a e) (e - a) q ∧ (sE s e (sh a q)).2 = sh a (sE (s.extract a e) (e - a) q).2 := by
  have eA : sA s e (sh a q) = ((sA (s.extract a e) (e - a) q).1, sh a (sA (s.extract a e) (e - a) q).2) := nm_sh he ha
  have eB : sB s e (sh a q) = ((sB (s.extract a e) (e - a) q).1, sh a (sB (s.extract a e) (e - a) q).2) := by unfold sB; rw [eA]; exact tx_sh he ha
  have eN : sN s e (sh a q) = ((sN (s.extract a e) (e - a) q).1, sh a (sN (s.extract a e) (e - a) q).2) := by unfold sN; rw [eB]; exact nm_sh he ha
  have eC : sC' s e (sh a q) = ((sC' (s.extract a e) (e - a) q).1, sh a (sC' (s.extract a e) (e - a) q).2) := by unfold sC'; rw [eN]; exact csn_sh he ha _
  have eD : sD s e (sh a q) = ((sD (s.extract a e) (e - a) q).1, sh a (sD (s.extract a e) (e - a) q).2) := by unfold sD; rw [eC]; exact tx_sh he ha
  have eM : sM s e (sh a q) = ((sM (s.extract a e) (e - a) q).1, sh a (sM (s.extract a e) (e - a) q).2) := by unfold sM; rw [eD]; exact nm_sh he ha
  have eE : sE s e (sh a q) = ((sE (s.extract a e) (e - a) q).1, sh a (sE (s.extract a e) (e - a) q).2) := by unfold sE; rw [eM]; exact rln_sh he ha _
  refine ⟨?_, by rw [eE]⟩
  unfold sX
  rw [eA, eB, eC, eD, eE]
theorem part_sh (he : e ≤ s.size) (ha : a ≤ e) : sX s e (a, false) = sX (s.extract a e) (s.extract a e).size (0, false) ∧ sO s e (a, false) = gO (s.extract a e) := by
  have hz : (s.extract a e).size = e - a := by rw [ByteArray.size_extract]; omega
  have h0 : ((a, false) : Nat × Bool) = sh a (0, false) := by simp [sh]
  obtain ⟨h1, h2⟩ := step_sh (s := s) (a := a) (e := e) (q := (0, false)) he ha
  rw [h0, h1, hz]
  refine ⟨rfl, ?_⟩
  unfold gO sO sT
  rw [h1, h2, hz]
  have : ((sh a (sE (s.extract a e) (e - a) (0, false)).2).1 == e) = ((sE (s.extract a e) (e - a) (0, false)).2.1 == e - a) := by
    unfold sh
    rw [Bool.eq_iff_iff]
    simp only [beq_iff_eq]
    omega
  rw [this]; rfl
theorem torn_no {q : Nat × Bool} (h : q.2 = true) : sO s e q = false := by
  have hE : (sE s e q).2.2 = true := by
    cases hx : (sE s e q).2.2 with
    | true => rfl
    | false =>
      have h6 := rln_torn (q := (sM s e q).2) _ hx
      have h5 := nm_torn (q := (sD s e q).2) h6
      have h4 := (tx_torn (q := (sC' s e q).2) h5).2
      have h3 := csn_torn (q := (sN s e q).2) _ h4
      have h2 := nm_torn (q := (sB s e q).2) h3
      have h1 := (tx_torn (q := (sA s e q).2) h2).2
      have h0 := nm_torn (q := q) h1
      rw [h] at h0; cases h0
  unfold sO sT
  rw [hE]; rfl
end
end Go.Proofs.YtbmoimfimeiglaaGreat
