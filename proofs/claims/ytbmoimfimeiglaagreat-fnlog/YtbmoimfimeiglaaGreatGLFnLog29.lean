/- Own texts, joined: contracts that the law's proof goes by. -/
import Derived.Test.YtbmoimfimeiglaaGreatGLFnLog27
import Derived.Test.YtbmoimfimeiglaaGreatGLFnLog28
import Derived.Test.YtbmoimfimeiglaaGreatGLFnLog32
import Derived.Test.YtbmoimfimeiglaaGreatGLFnLog33
namespace Go.Proofs.YtbmoimfimeiglaaGreat
open Go.RowKit
set_option linter.unusedVariables false
theorem be_cons (x : UInt8) (r : List UInt8) : be (x :: r) = (x.toNat : Int) * 256 ^ r.length + be r := by
  have gen : ∀ (r : List UInt8) (a : Int), List.foldl (fun a c => 256 * a + (c.toNat : Int)) a r = a * 256 ^ r.length + be r := by
    intro r
    induction r with
    | nil => intro a; simp [be]
    | cons y t iht =>
      intro a
      rw [List.foldl_cons, iht, List.length_cons, Int.pow_succ]
      have e2 : be (y :: t) = (y.toNat : Int) * 256 ^ t.length + be t := by
        unfold be
        rw [List.foldl_cons, iht]
        simp [be]
      rw [e2, Int.add_mul, Int.mul_comm 256 a, Int.mul_assoc, Int.mul_comm 256 (256 ^ t.length), Int.add_assoc]
  have := gen r x.toNat
  show List.foldl (fun a c => 256 * a + (c.toNat : Int)) (256 * 0 + (x.toNat : Int)) r = _
  rw [Int.mul_zero, Int.zero_add]
  exact this
theorem be_nat (x : Nat) : ∀ k : Nat, be ((szN (x : Int) k).map (fun n => UInt8.ofNat n.toNat)) = ((x % 256 ^ k : Nat) : Int)
  | 0 => by simp [szN, be, Nat.mod_one]
  | k + 1 => by
    rw [szN, List.map_cons, be_cons, be_nat x k, List.length_map, szN_len]
    have e1 : (x : Int) / 256 ^ k % 256 = ((x / 256 ^ k % 256 : Nat) : Int) := by
      rw [Int.natCast_emod, Int.natCast_ediv, Int.natCast_pow]
      rfl
    rw [e1, Int.toNat_natCast, UInt8.toNat_ofNat']
    have hlt : x / 256 ^ k % 256 < 256 := Nat.mod_lt _ (by decide)
    rw [show (x / 256 ^ k % 256) % 2 ^ 8 = x / 256 ^ k % 256 from Nat.mod_eq_of_lt hlt]
    have := Nat.mod_mul (x := x) (a := 256 ^ k) (b := 256)
    rw [Nat.pow_succ, this]
    have e2 : ((256 ^ k : Nat) : Int) = (256 : Int) ^ k := by rw [Int.natCast_pow]; rfl
    rw [Int.natCast_add, Int.natCast_mul, e2]
    generalize (256 : Int) ^ k = p
    rw [Int.mul_comm p, Int.add_comm]
theorem be_szN {x : Int} {k : Nat} (h0 : 0 ≤ x) (h1 : x < 256 ^ k) : be ((szN x k).map (fun n => UInt8.ofNat n.toNat)) = x := by
  obtain ⟨n, rfl⟩ : ∃ n : Nat, x = n := ⟨x.toNat, by omega⟩
  rw [be_nat, Nat.mod_eq_of_lt]
  have e2 : ((256 ^ k : Nat) : Int) = (256 : Int) ^ k := by rw [Int.natCast_pow]; rfl
  rw [← e2] at h1
  exact Int.ofNat_lt.1 h1
theorem txN_bytes (s : ByteArray) : s.data.toList = (txN s).map (fun n => UInt8.ofNat n.toNat) := (nb_back s.data.toList).symm
theorem txN_inj {s t : ByteArray} (h : txN s = txN t) : s = t := by
  apply ByteArray.ext
  apply Array.toList_inj.1
  rw [txN_bytes s, txN_bytes t, h]
theorem dr_more {s : ByteArray} {a : Nat} {l r : List Int} (h : dr s a = l ++ r) : dr s (a + l.length) = r := by
  unfold dr at h ⊢
  rw [← List.drop_drop, h, List.drop_left']
  rfl
theorem dr_fit {s : ByteArray} {a : Nat} {l r : List Int} (h : dr s a = l ++ r) (hl : 0 < l.length) : a + l.length + r.length = s.size := by
  have e := congrArg List.length h
  rw [dr_len, List.length_append] at e
  omega
theorem ext_of {s : ByteArray} {a : Nat} {l r : List Int} (h : dr s a = l ++ r) (hf : a + l.length ≤ s.size) : txN (s.extract a (a + l.length)) = l := by
  have e := txN_extract (s := s) a (a + l.length) (by omega) hf
  rw [h, dr_more h] at e
  exact (List.append_cancel_right e).symm
section
variable {s : ByteArray} {a k : Nat} {rest : List Int}
theorem nm_fwd {x : Int} (h : dr s a = szN x k ++ rest) (hk : 0 < k) (h0 : 0 ≤ x) (h1 : x < 256 ^ k) : nm s s.size k (a, false) = (x, (a + k, false)) := by
  have hf := dr_fit h (by rw [szN_len]; exact hk)
  rw [szN_len] at hf
  have he := ext_of h (by rw [szN_len]; omega)
  rw [szN_len] at he
  unfold nm tk beT
  dsimp only
  rw [if_pos (by omega)]
  dsimp only
  rw [txN_bytes, he, be_szN h0 h1]
theorem tx_fwd {t : ByteArray} (h : dr s a = tN t k ++ rest) (hk : 0 < k) (h1 : (t.size : Int) < 256 ^ k) : tx s s.size k (a, false) = (t, (a + k + t.size, false)) := by
  unfold tN at h
  have hf := dr_fit h (by rw [List.length_append, szN_len]; omega)
  rw [List.length_append, szN_len, txN_len] at hf
  rw [List.append_assoc] at h
  have hn := nm_fwd h hk (by omega) h1
  have h2 := dr_more h
  rw [szN_len] at h2
  have he := ext_of h2 (by rw [txN_len]; omega)
  rw [txN_len] at he
  unfold tx
  rw [hn]
  dsimp only
  unfold tk
  rw [Int.toNat_natCast, if_pos (by dsimp only; omega)]
  dsimp only
  rw [txN_inj he]
end
theorem csn_fwd {s : ByteArray} {a : Nat} {cs : List ByteArray} {rest : List Int} (h : dr s a = csL cs ++ rest) (hs : ∀ c ∈ cs, c.size ≤ 10) : ∀ n, n ≤ cs.length → csn s s.size (a, false) n = (cs.take n, (a + (csL (cs.take n)).length, false))
  | 0, _ => by simp [csn, csL]
  | n + 1, hn => by
    have ih := csn_fwd h hs n (by omega)
    obtain ⟨c, hc⟩ : ∃ c, cs[n]? = some c := ⟨cs[n], by simp [show n < cs.length by omega]⟩
    have hcs := csL_take hc
    have e : csL cs = csL (cs.take (n + 1)) ++ csL (cs.drop (n + 1)) := by
      unfold csL
      rw [← List.flatMap_append, List.take_append_drop]
    rw [e, hcs, List.append_assoc, List.append_assoc] at h
    have h2 := dr_more h
    have h3 := tx_fwd h2 (by omega) (by have := hs c (List.mem_of_getElem? hc); show (c.size : Int) < 65536; omega)
    rw [csn, ih]
    dsimp only
    rw [h3, hcs, List.length_append, tN_len]
    obtain ⟨hk, rfl⟩ := List.getElem?_eq_some_iff.1 hc
    rw [List.take_succ_eq_append_getElem hk]
    simp [Nat.add_assoc]
def RelFine (r : R3) : Prop := r.s.size ≤ 10 ∧ okBag r.W r.cs = true ∧ ∀ c ∈ r.cs, (-9223372036854775808 ≤ c.n ∧ c.n ≤ 9223372036854775807) ∧ ∀ x ∈ c.r, NumOk x
theorem rln_fwd {s : ByteArray} {a : Nat} {rs : List R3} {rest : List Int} (h : dr s a = rlsL rs ++ rest) (hs : ∀ r ∈ rs, RelFine r) : ∀ n, n ≤ rs.length → rln s s.size (a, false) n = (rs.take n, (a + (rlsL (rs.take n)).length, false))
  | 0, _ => by simp [rln, rlsL]
  | n + 1, hn => by
    have ih := rln_fwd h hs n (by omega)
    obtain ⟨r, hr⟩ : ∃ r, rs[n]? = some r := ⟨rs[n], by simp [show n < rs.length by omega]⟩
    have hcs := rlsL_take hr
    have e : rlsL rs = rlsL (rs.take (n + 1)) ++ rlsL (rs.drop (n + 1)) := by
      unfold rlsL
      rw [← List.flatMap_append, List.take_append_drop]
    obtain ⟨f1, f2, f3⟩ := hs r (List.mem_of_getElem? hr)
    obtain ⟨b0, b1, b2, b3⟩ := bag_back f2 f3
    have hp := putB_size r.W r.cs
    rw [e, hcs, List.append_assoc, List.append_assoc] at h
    have h2 := dr_more h
    have h2' := h2
    unfold rlL at h2'
    rw [List.append_assoc] at h2'
    have h3 := tx_fwd h2' (by omega) (by show (r.s.size : Int) < 65536; omega)
    have h4 := dr_more h2'
    rw [tN_len] at h4
    have h5 := tx_fwd h4 (by omega) (by show ((putB r.W r.cs).size : Int) < 4294967296; omega)
    rw [rln, ih]
    dsimp only
    have h6 : rl s s.size (a + (rlsL (rs.take n)).length, false) = (r, (a + (rlsL (rs.take n)).length + (rlL r).length, false)) := by
      unfold rl rlB
      rw [h3]
      dsimp only
      rw [show a + (rlsL (List.take n rs)).length + 2 + r.s.size = a + (rlsL (List.take n rs)).length + (2 + r.s.size) by omega, h5]
      dsimp only
      rw [b1, b2, b3]
      have el : (rlL r).length = 2 + r.s.size + (4 + (putB r.W r.cs).size) := by unfold rlL; rw [List.length_append, tN_len, tN_len]
      rw [el]
      simp [Nat.add_assoc]
    rw [h6, hcs, List.length_append]
    obtain ⟨hk, rfl⟩ := List.getElem?_eq_some_iff.1 hr
    rw [List.take_succ_eq_append_getElem hk]
    simp [Nat.add_assoc]
theorem txN_rng (s : ByteArray) : ∀ y ∈ txN s, 0 ≤ y ∧ y < 256 := by
  intro y hy
  unfold txN nb at hy
  obtain ⟨b, _, rfl⟩ := List.mem_map.1 hy
  have := b.toNat_lt
  omega
theorem tN_rng (s : ByteArray) (n : Nat) : ∀ y ∈ tN s n, 0 ≤ y ∧ y < 256 := by
  intro y hy
  unfold tN at hy
  rcases List.mem_append.1 hy with h | h
  · exact szN_bd _ _ y h
  · exact txN_rng s y h
theorem stepL_rng (x : T5) : ∀ y ∈ stepL x, 0 ≤ y ∧ y < 256 := by
  intro y hy
  unfold stepL mdL hdL csL rlsL rlL at hy
  simp only [List.mem_append, List.mem_flatMap] at hy
  rcases hy with ((((((h | h) | h) | ⟨c, _, h⟩) | h) | h) | ⟨r, _, h | h⟩)
  · exact szN_bd _ _ y h
  · exact tN_rng _ _ y h
  · exact szN_bd _ _ y h
  · exact tN_rng _ _ y h
  · exact tN_rng _ _ y h
  · exact szN_bd _ _ y h
  · exact tN_rng _ _ y h
  · exact tN_rng _ _ y h
theorem txN_nums {l : List Int} (h : ∀ y ∈ l, 0 ≤ y ∧ y < 256) : txN (strOfNums l) = l := by
  unfold txN nb
  rw [strOfNums_data, List.map_map]
  conv => rhs; rw [← List.map_id l]
  apply List.map_congr_left
  intro y hy
  have := h y hy
  simp only [Function.comp, id]
  rw [UInt8.toNat_ofNat']
  omega
theorem putT_of {x : T5} (h : okStep x = true) : putT x = strOfNums (stepL x) := by unfold putT; rw [if_pos h]
theorem putT_tx {x : T5} (h : okStep x = true) : txN (putT x) = stepL x := by rw [putT_of h, txN_nums (stepL_rng x)]
theorem step_back {x : T5} (hok : okStep x = true) (hr : ∀ r ∈ x.rs, RelFine r) : gO (putT x) = true ∧ gT (putT x) = x := by
  have hb := okStep_bnd hok
  have ht := putT_tx hok
  generalize putT x = s at ht ⊢
  have hsz : s.size = (stepL x).length := by rw [← ht, txN_len]
  have k0 := hb.k0
  have k3 := hb.k3
  have c12 := hb.cl
  have r20 := hb.rl
  have d0 : dr s 0 = szN x.k 1 ++ (tN x.s 2 ++ (szN x.cs.length 1 ++ (csL x.cs ++ (tN x.q 2 ++ (szN x.rs.length 1 ++ (rlsL x.rs ++ [])))))) := by
    unfold dr
    rw [ht, List.drop_zero]
    unfold stepL mdL hdL
    simp only [List.append_assoc, List.append_nil]
  have rA : sA s s.size (0, false) = (x.k, (0 + 1, false)) := nm_fwd d0 (by omega) k0 (by show x.k < 256; omega)
  have d1 := dr_more d0
  rw [szN_len] at d1
  have rB : sB s s.size (0, false) = (x.s, (0 + 1 + 2 + x.s.size, false)) := by unfold sB; rw [rA]; exact tx_fwd d1 (by omega) (by have := hb.s; show (x.s.size : Int) < 65536; omega)
  have d2 := dr_more d1
  rw [tN_len, ← Nat.add_assoc] at d2
  have rN : sN s s.size (0, false) = ((x.cs.length : Int), (0 + 1 + 2 + x.s.size + 1, false)) := by unfold sN; rw [rB]; exact nm_fwd d2 (by omega) (by omega) (by show (x.cs.length : Int) < 256; omega)
  have d3 := dr_more d2
  rw [szN_len] at d3
  have rC : sC' s s.size (0, false) = (x.cs, (0 + 1 + 2 + x.s.size + 1 + (csL x.cs).length, false)) := by
    unfold sC'
    rw [rN]
    dsimp only
    rw [Int.toNat_natCast, csn_fwd d3 hb.c _ (Nat.le_refl _), List.take_length]
  have d4 := dr_more d3
  have rD : sD s s.size (0, false) = (x.q, (0 + 1 + 2 + x.s.size + 1 + (csL x.cs).length + 2 + x.q.size, false)) := by unfold sD; rw [rC]; exact tx_fwd d4 (by omega) (by have := hb.q; show (x.q.size : Int) < 65536; omega)
  have d5 := dr_more d4
  rw [tN_len, ← Nat.add_assoc] at d5
  have rM : sM s s.size (0, false) = ((x.rs.length : Int), (0 + 1 + 2 + x.s.size + 1 + (csL x.cs).length + 2 + x.q.size + 1, false)) := by unfold sM; rw [rD]; exact nm_fwd d5 (by omega) (by omega) (by show (x.rs.length : Int) < 256; omega)
  have d6 := dr_more d5
  rw [szN_len] at d6
  have rE : sE s s.size (0, false) = (x.rs, (0 + 1 + 2 + x.s.size + 1 + (csL x.cs).length + 2 + x.q.size + 1 + (rlsL x.rs).length, false)) := by
    unfold sE
    rw [rM]
    dsimp only
    rw [Int.toNat_natCast, rln_fwd d6 hr _ (Nat.le_refl _), List.take_length]
  have hX : sX s s.size (0, false) = x := by unfold sX; rw [rA, rB, rC, rD, rE]
  have hfin : 0 + 1 + 2 + x.s.size + 1 + (csL x.cs).length + 2 + x.q.size + 1 + (rlsL x.rs).length = s.size := by
    rw [hsz]
    unfold stepL mdL hdL
    simp only [List.length_append, szN_len, tN_len]
    omega
  have hO : gO s = true := by
    unfold gO sO sT
    rw [hX, hok, rE]
    dsimp only
    rw [hfin]
    simp
  refine ⟨hO, ?_⟩
  unfold gT
  rw [if_pos (show sO s s.size (0, false) = true from hO), hX]
end Go.Proofs.YtbmoimfimeiglaaGreat
namespace Go.Proofs.YtbmoimfimeiglaaGreat
open Go.RowKit
set_option linter.unusedVariables false
theorem xor32 (x c : Nat) (h : x < 4294967296) (k : c < 4294967296) : bits .xor .u32 (x : Int) (c : Int) = ((x ^^^ c : Nat) : Int) := by
  show IntKind.u32.wrap ((BitVec.ofInt 32 (x : Int) ^^^ BitVec.ofInt 32 (c : Int)).toNat : Int) = _
  have h1 : (BitVec.ofInt 32 (x : Int)).toNat = x := by
    rw [BitVec.ofInt_natCast, BitVec.toNat_ofNat]; exact Nat.mod_eq_of_lt (by omega)
  have h2 : (BitVec.ofInt 32 (c : Int)).toNat = c := by
    rw [BitVec.ofInt_natCast, BitVec.toNat_ofNat]; exact Nat.mod_eq_of_lt (by omega)
  have h3 : x ^^^ c < 2 ^ 32 := Nat.xor_lt_two_pow h k
  rw [BitVec.toNat_xor, h1, h2, IntKind.wrap_u32]
  omega
theorem mul_back {X : Int} (h0 : 0 ≤ X) (h1 : X < 4294967296) : (X * 16777619 % 4294967296) * 899433627 % 4294967296 = X := by
  have e : X * 16777619 * 899433627 = X + 4294967296 * (X * 3513497) := by omega
  have h := Int.mul_emod (X * 16777619) 899433627 4294967296
  have h2 := Int.mul_emod (X * 16777619 % 4294967296) 899433627 4294967296
  rw [Int.emod_emod, ← h] at h2
  rw [h2, e, Int.add_mul_emod_self_left]
  omega
theorem mul_inj {A B : Int} (a0 : 0 ≤ A) (a1 : A < 4294967296) (b0 : 0 ≤ B) (b1 : B < 4294967296) (h : A * 16777619 % 4294967296 = B * 16777619 % 4294967296) : A = B := by
  rw [← mul_back a0 a1, ← mul_back b0 b1, h]
theorem smix_inj {x c y d : Nat} (hx : x < 4294967296) (hc : c < 4294967296) (hy : y < 4294967296) (hd : d < 4294967296) (h : smix x c = smix y d) : x ^^^ c = y ^^^ d := by
  unfold smix at h
  rw [xor32 x c hx hc, xor32 y d hy hd] at h
  have h3 : x ^^^ c < 2 ^ 32 := Nat.xor_lt_two_pow hx hc
  have h4 : y ^^^ d < 2 ^ 32 := Nat.xor_lt_two_pow hy hd
  have f1 : ((x ^^^ c : Nat) : Int) < 4294967296 := by clear h; omega
  have f2 : ((y ^^^ d : Nat) : Int) < 4294967296 := by clear h; omega
  have := mul_inj (Int.natCast_nonneg _) f1 (Int.natCast_nonneg _) f2 h
  clear h
  omega
theorem xor_l {x c d : Nat} (h : x ^^^ c = x ^^^ d) : c = d := by
  have := congrArg (fun z => x ^^^ z) h
  simpa [← Nat.xor_assoc] using this
theorem xor_r {x y c : Nat} (h : x ^^^ c = y ^^^ c) : x = y := by
  rw [Nat.xor_comm x, Nat.xor_comm y] at h
  exact xor_l h
theorem sumN_at (s : ByteArray) (n : Nat) (h : n < s.size) : sumN s (n + 1) = smix (sumN s n) (bAt s n : Int) := by rw [sumN_step s n h, bAt_eq]
theorem sum_spoilt {s t : ByteArray} {i : Nat} (hz : s.size = t.size) (hi : i < s.size) (ho : ∀ j, j ≠ i → bAt s j = bAt t j) (hn : bAt s i ≠ bAt t i) : sumB s ≠ sumB t := by
  have pre : ∀ n, n ≤ i → sumN s n = sumN t n := by
    intro n
    induction n with
    | zero => intro _; rfl
    | succ n ih =>
      intro h
      rw [sumN_at s n (by omega), sumN_at t n (by omega), ih (by omega), ho n (by omega)]
  have post : ∀ n, n + i + 1 ≤ s.size → sumN s (n + i + 1) ≠ sumN t (n + i + 1) := by
    intro n
    induction n with
    | zero =>
      intro h e
      rw [Nat.zero_add, sumN_at s i (by omega), sumN_at t i (by omega), pre i (Nat.le_refl _)] at e
      obtain ⟨x0, x1⟩ := sumN_bd t i
      obtain ⟨x, hx⟩ : ∃ x : Nat, sumN t i = x := ⟨(sumN t i).toNat, by omega⟩
      rw [hx] at e x1
      have b1 := bAt_lt s i
      have b2 := bAt_lt t i
      exact hn (xor_l (smix_inj (by omega) (by omega) (by omega) (by omega) e))
    | succ n ih =>
      intro h e
      rw [show n + 1 + i + 1 = (n + i + 1) + 1 by omega, sumN_at s _ (by omega), sumN_at t _ (by omega), ho _ (by omega)] at e
      obtain ⟨x0, x1⟩ := sumN_bd s (n + i + 1)
      obtain ⟨y0, y1⟩ := sumN_bd t (n + i + 1)
      have ih := ih (by omega)
      obtain ⟨x, hx⟩ : ∃ x : Nat, sumN s (n + i + 1) = x := ⟨(sumN s (n + i + 1)).toNat, by omega⟩
      obtain ⟨y, hy⟩ : ∃ y : Nat, sumN t (n + i + 1) = y := ⟨(sumN t (n + i + 1)).toNat, by omega⟩
      rw [hx, hy] at e ih
      have b2 := bAt_lt t (n + i + 1)
      have := xor_r (smix_inj (by omega) (by omega) (by omega) (by omega) e)
      omega
  have := post (s.size - 1 - i) (by omega)
  unfold sumB
  rw [← hz, show s.size = s.size - 1 - i + i + 1 by omega]
  exact this
def Agree (s m : ByteArray) (p : Nat) : Prop := p ≤ s.size ∧ p ≤ m.size ∧ s.data.toList.take p = m.data.toList.take p
theorem Agree.ext {s m : ByteArray} {p a b : Nat} (h : Agree s m p) (hb : b ≤ p) : s.extract a b = m.extract a b := by
  obtain ⟨_, _, h⟩ := h
  apply ByteArray.ext
  apply Array.toList_inj.1
  have e := congrArg (fun l => (l.take b).drop a) h
  simp only [List.take_take, Nat.min_eq_left hb] at e
  rw [extract_list, extract_list, ← List.drop_take, ← List.drop_take]
  exact e
theorem Agree.weak {s m : ByteArray} {p q : Nat} (h : Agree s m p) (hq : q ≤ p) : Agree s m q := by
  obtain ⟨h1, h2, h3⟩ := h
  refine ⟨by omega, by omega, ?_⟩
  have e := congrArg (fun l => l.take q) h3
  simpa [List.take_take, Nat.min_eq_left hq] using e
section
variable {s m : ByteArray} {a : Nat}
theorem l_of (h : a + 8 ≤ s.size) : lA s a = (beT (s.extract a (a + 4)), (a + 4, false)) ∧ lB s a = (beT (s.extract (a + 4) (a + 8)), (a + 8, false)) := by
  have e : lA s a = (beT (s.extract a (a + 4)), (a + 4, false)) := by
    unfold lA nm tk
    rw [if_pos (by dsimp only; omega)]
  refine ⟨e, ?_⟩
  unfold lB
  rw [e]
  unfold nm tk
  rw [if_pos (by dsimp only; omega)]
theorem l_no (h : ¬ a + 8 ≤ s.size) : (lB s a).2.2 = true := by
  unfold lB lA nm tk
  dsimp only
  by_cases h4 : a + 4 ≤ s.size
  · rw [if_pos h4]
    dsimp only
    rw [if_neg (by omega)]
  · rw [if_neg h4]
    dsimp only
    split <;> rfl
def nAt (s : ByteArray) (a : Nat) : Nat := (beT (s.extract a (a + 4))).toNat
theorem lN_of (h : a + 8 ≤ s.size) : lN s a = a + 8 + nAt s a := by
  unfold lN nAt
  rw [(l_of h).1, (l_of h).2]
theorem okM_iff : okM s a = true ↔ a + 8 ≤ s.size ∧ a + 8 + nAt s a ≤ s.size ∧ (sumB (s.extract (a + 8) (a + 8 + nAt s a)) : Int) = beT (s.extract (a + 4) (a + 8)) ∧ gO (s.extract (a + 8) (a + 8 + nAt s a)) = true := by
  by_cases h : a + 8 ≤ s.size
  · have e := lN_of h
    obtain ⟨e1, e2⟩ := l_of h
    unfold okM
    rw [e1, e2]
    simp only [Bool.not_false, Bool.true_and, Bool.and_eq_true, decide_eq_true_eq, beq_iff_eq]
    unfold nAt
    constructor
    · rintro ⟨⟨h1, h2⟩, h3⟩; exact ⟨h, h1, h2, h3⟩
    · rintro ⟨_, h1, h2, h3⟩; exact ⟨⟨h1, h2⟩, h3⟩
  · have e := l_no (s := s) (a := a) h
    constructor
    · intro h0
      have := (okM_at h0).2.2
      rw [e] at this
      cases this
    · rintro ⟨h0, _⟩
      exact absurd h0 h
theorem lX_of (h : a + 8 ≤ s.size) : lX s a = gT (s.extract (a + 8) (a + 8 + nAt s a)) := by
  unfold lX
  rw [lN_of h, (l_of h).2]
theorem okM_agree {p : Nat} (h : Agree s m p) (ho : okM s a = true) (hp : lN s a ≤ p) : okM m a = true ∧ lN m a = lN s a ∧ lX m a = lX s a := by
  obtain ⟨h1, h2, h3, h4⟩ := okM_iff.1 ho
  rw [lN_of h1] at hp ⊢
  have hm : a + 8 ≤ m.size := by have := h.2.1; omega
  have en : nAt m a = nAt s a := by unfold nAt; rw [h.ext (a := a) (b := a + 4) (by omega)]
  have e1 := h.ext (a := a + 4) (b := a + 8) (by omega)
  have e2 := h.ext (a := a + 8) (b := a + 8 + nAt s a) hp
  refine ⟨okM_iff.2 ⟨hm, by rw [en]; have := h.2.1; omega, by rw [en, ← e1, ← e2]; exact h3, by rw [en, ← e2]; exact h4⟩, by rw [lN_of hm, en], ?_⟩
  rw [lX_of hm, lX_of h1, en, e2]
end
def Reads (s : ByteArray) : Nat → List T5 → Nat → Prop
  | a, [], b => a = b
  | a, t :: ts, b => okM s a = true ∧ lX s a = t ∧ Reads s (lN s a) ts b
theorem Reads.le {s : ByteArray} : ∀ {ts : List T5} {a b : Nat}, Reads s a ts b → a ≤ b
  | [], a, b, h => Nat.le_of_eq h
  | t :: ts, a, b, h => by
    have := (okM_at h.1).1
    have := Reads.le h.2.2
    omega
theorem Reads.agree {s m : ByteArray} : ∀ {ts : List T5} {a b : Nat}, Reads s a ts b → Agree s m b → Reads m a ts b
  | [], a, b, h, _ => h
  | t :: ts, a, b, h, hA => by
    obtain ⟨h1, h2, h3⟩ := h
    obtain ⟨e1, e2, e3⟩ := okM_agree hA h1 (Reads.le h3)
    exact ⟨e1, e3.trans h2, by rw [e2]; exact Reads.agree h3 hA⟩
theorem Reads.snoc {s : ByteArray} : ∀ {ts : List T5} {a b : Nat}, Reads s a ts b → okM s b = true → Reads s a (ts ++ [lX s b]) (lN s b)
  | [], a, b, h, ho => by
    have h : a = b := h
    subst h
    exact ⟨ho, rfl, rfl⟩
  | t :: ts, a, b, h, ho => ⟨h.1, h.2.1, Reads.snoc h.2.2 ho⟩
theorem rdL_reads (s : ByteArray) : ∀ k a, a ≤ s.size → s.size ≤ a + k → Reads s a (rdL s k a).1 (rdL s k a).2 ∧ (rdL s k a).2 ≤ s.size ∧ okM s (rdL s k a).2 = false
  | 0, a, h, hk => by
    refine ⟨rfl, h, ?_⟩
    cases ho : okM s a with
    | false => exact ho
    | true =>
      have := okM_at ho
      omega
  | k + 1, a, h, hk => by
    cases ho : okM s a with
    | false =>
      rw [rdL_no ho]
      exact ⟨rfl, h, ho⟩
    | true =>
      rw [rdL_yes ho]
      obtain ⟨h1, h2, _⟩ := okM_at ho
      obtain ⟨r1, r2, r3⟩ := rdL_reads s k (lN s a) h2 (by omega)
      exact ⟨⟨ho, rfl, r1⟩, r2, r3⟩
theorem reads_rdL {s : ByteArray} : ∀ {ts : List T5} {k a b : Nat}, Reads s a ts b → okM s b = false → s.size ≤ a + k → rdL s k a = (ts, b)
  | [], k, a, b, h, ho, hk => by
    have h : a = b := h
    subst h
    exact rdL_no ho k
  | t :: ts, k, a, b, h, ho, hk => by
    obtain ⟨h1, h2, h3⟩ := h
    obtain ⟨g1, g2, _⟩ := okM_at h1
    obtain ⟨k, rfl⟩ : ∃ n, k = n + 1 := ⟨k - 1, by omega⟩
    rw [rdL_yes h1, reads_rdL h3 ho (by omega), h2]
theorem rl_reads (s : ByteArray) : Reads s 0 (rlT s) (rlE s) ∧ rlE s ≤ s.size := by
  unfold rlT rlE
  by_cases h : s.size ≤ 100000
  · rw [if_pos h, if_pos h]
    obtain ⟨h1, h2, _⟩ := rdL_reads s s.size 0 (by omega) (by omega)
    exact ⟨h1, h2⟩
  · rw [if_neg h, if_neg h]
    exact ⟨rfl, by omega⟩
theorem rl_of {s : ByteArray} {ts : List T5} {b : Nat} (h : Reads s 0 ts b) (ho : okM s b = false) (hz : s.size ≤ 100000) : rlT s = ts ∧ rlE s = b := by
  unfold rlT rlE
  rw [if_pos hz, if_pos hz, reads_rdL h ho (by omega)]
  exact ⟨rfl, rfl⟩
theorem okM_end (s : ByteArray) : okM s s.size = false := by
  cases ho : okM s s.size with
  | false => rfl
  | true => have := okM_at ho; omega
section
variable {log t : ByteArray} {x : T5}
structure More (log t more : ByteArray) (E : Nat) : Prop where
  ag : Agree log more E
  sz : more.size = E + 8 + t.size
  n : more.extract E (E + 4) = strOfNums (szN t.size 4)
  u : more.extract (E + 4) (E + 8) = strOfNums (szN (sumB t) 4)
  t : more.extract (E + 8) (E + 8 + t.size) = t
theorem beT_nums {x : Int} {k : Nat} (h0 : 0 ≤ x) (h1 : x < 256 ^ k) : beT (strOfNums (szN x k)) = x := by
  unfold beT
  rw [strOfNums_data, be_szN h0 h1]
theorem ext_list (s : ByteArray) (a b : Nat) (P : List UInt8) (M R : List UInt8) (h : s.data.toList = P ++ (M ++ R)) (ha : a = P.length) (hb : b = P.length + M.length) : (s.extract a b).data.toList = M := by
  rw [extract_list, h, ha, hb, List.drop_left']
  · rw [show P.length + M.length - P.length = M.length by omega, List.take_left']
    rfl
  · rfl
theorem More.of {E : Nat} (hE : E ≤ log.size) : More log t (log.extract 0 E ++ strOfNums (szN t.size 4) ++ strOfNums (szN (sumB t) 4) ++ t) E := by
  have e0 : (log.extract 0 E).data.toList = log.data.toList.take E := by rw [extract_list]; simp
  have l0 : (log.extract 0 E).data.toList.length = E := by
    rw [e0, List.length_take]
    have : log.data.toList.length = log.size := rfl
    omega
  have ls : ∀ x : Int, (strOfNums (szN x 4)).data.toList.length = 4 := fun x => by rw [strOfNums_data, List.length_map, szN_len]
  have lt : t.data.toList.length = t.size := rfl
  have ed : (log.extract 0 E ++ strOfNums (szN t.size 4) ++ strOfNums (szN (sumB t) 4) ++ t).data.toList = (log.extract 0 E).data.toList ++ ((strOfNums (szN t.size 4)).data.toList ++ ((strOfNums (szN (sumB t) 4)).data.toList ++ (t.data.toList ++ []))) := by
    rw [data_app, data_app, data_app]
    simp
  have hl : (log.extract 0 E ++ strOfNums (szN t.size 4) ++ strOfNums (szN (sumB t) 4) ++ t).data.toList.length = (log.extract 0 E ++ strOfNums (szN t.size 4) ++ strOfNums (szN (sumB t) 4) ++ t).size := rfl
  generalize log.extract 0 E ++ strOfNums (szN t.size 4) ++ strOfNums (szN (sumB t) 4) ++ t = more at ed hl ⊢
  have hz : more.size = E + 8 + t.size := by
    rw [← hl, ed]
    simp only [List.length_append, l0, ls, lt, List.length_nil]
    omega
  refine ⟨⟨hE, by omega, ?_⟩, hz, ?_, ?_, ?_⟩
  · rw [ed, List.take_left' l0, e0]
  · apply ByteArray.ext
    apply Array.toList_inj.1
    exact ext_list more _ _ _ _ _ ed l0.symm (by rw [l0, ls])
  · apply ByteArray.ext
    apply Array.toList_inj.1
    refine ext_list more _ _ ((log.extract 0 E).data.toList ++ (strOfNums (szN t.size 4)).data.toList) _ (t.data.toList ++ []) (by rw [ed, List.append_assoc]) (by rw [List.length_append, l0, ls]) (by rw [List.length_append, l0, ls, ls])
  · apply ByteArray.ext
    apply Array.toList_inj.1
    refine ext_list more _ _ ((log.extract 0 E).data.toList ++ ((strOfNums (szN t.size 4)).data.toList ++ (strOfNums (szN (sumB t) 4)).data.toList)) _ [] (by rw [ed]; simp) (by simp only [List.length_append, l0, ls]) (by simp only [List.length_append, l0, ls, lt])
variable {more : ByteArray} {E : Nat}
theorem More.nAt (h : More log t more E) (ht : t.size < 4294967296) : nAt more E = t.size := by
  unfold Go.Proofs.YtbmoimfimeiglaaGreat.nAt
  rw [h.n, beT_nums (by omega) (by show (t.size : Int) < 4294967296; omega)]
  simp
theorem More.ok (h : More log t more E) (ht : t.size < 4294967296) (hg : gO t = true) : okM more E = true ∧ lN more E = more.size ∧ lX more E = gT t := by
  have hn := h.nAt ht
  have hz := h.sz
  have h8 : E + 8 ≤ more.size := by omega
  have hs := sumB_bd t
  refine ⟨okM_iff.2 ⟨h8, by rw [hn]; omega, ?_, by rw [hn, h.t]; exact hg⟩, by rw [lN_of h8, hn]; omega, by rw [lX_of h8, hn, h.t]⟩
  rw [hn, h.t, h.u, beT_nums hs.1 (by have := hs.2; show sumB t < 4294967296; exact this)]
end
theorem log_more {log t more : ByteArray} (h : More log t more (rlE log)) (ht : t.size < 4294967296) (hg : gO t = true) (hz : more.size ≤ 100000) : rlT more = rlT log ++ [gT t] ∧ rlE more = more.size := by
  obtain ⟨hr, hE⟩ := rl_reads log
  obtain ⟨o1, o2, o3⟩ := h.ok ht hg
  have h1 := (hr.agree h.ag).snoc o1
  rw [o2, o3] at h1
  exact rl_of h1 (okM_end more) hz
theorem log_cut {log t more cut : ByteArray} (h : More log t more (rlE log)) (ht : t.size < 4294967296) (h0 : 0 < t.size) (hz : more.size ≤ 100000) (hc : cut = more.extract 0 (more.size - 1)) : rlT cut = rlT log ∧ rlE cut = rlE log := by
  obtain ⟨hr, hE⟩ := rl_reads log
  have hsz := h.sz
  have hcs : cut.size = more.size - 1 := by rw [hc, ByteArray.size_extract]; omega
  have hA : Agree more cut (more.size - 1) := by
    refine ⟨by omega, by omega, ?_⟩
    rw [hc, extract_list]
    simp [List.take_take]
  have hB : Agree log cut (rlE log) := ⟨h.ag.1, by omega, h.ag.2.2.trans (hA.weak (q := rlE log) (by omega)).2.2⟩
  refine rl_of (hr.agree hB) ?_ (by omega)
  cases ho : okM cut (rlE log) with
  | false => rfl
  | true =>
    obtain ⟨h1, h2, _⟩ := okM_iff.1 ho
    have hn := h.nAt ht
    have e : nAt cut (rlE log) = nAt more (rlE log) := by unfold nAt; rw [hA.ext (a := rlE log) (b := rlE log + 4) (by omega)]
    omega
theorem log_spoilt {log t more b : ByteArray} {i : Nat} (h : More log t more (rlE log)) (ht : t.size < 4294967296) (hz : more.size ≤ 100000) (hb : b.size = more.size) (hi : rlE log + 8 ≤ i) (hi2 : i < more.size) (ho : ∀ j, j ≠ i → bAt b j = bAt more j) (hn : bAt b i ≠ bAt more i) : rlT b = rlT log ∧ rlE b = rlE log := by
  obtain ⟨hr, hE⟩ := rl_reads log
  have hsz := h.sz
  have hA : Agree more b (rlE log + 8) := by
    refine ⟨by omega, by omega, ?_⟩
    apply List.ext_getElem
    · simp only [List.length_take]
      have e1 : more.data.toList.length = more.size := rfl
      have e2 : b.data.toList.length = b.size := rfl
      omega
    · intro j h1 h2
      rw [List.length_take] at h1 h2
      have e1 : more.data.toList.length = more.size := rfl
      have e2 : b.data.toList.length = b.size := rfl
      rw [List.getElem_take, List.getElem_take]
      have e3 := ho j (by omega)
      unfold bAt at e3
      rw [List.getD_eq_getElem?_getD, List.getD_eq_getElem?_getD, List.getElem?_eq_getElem (by omega), List.getElem?_eq_getElem (by omega)] at e3
      exact (UInt8.toNat_inj.1 e3).symm
  have hB : Agree log b (rlE log) := ⟨h.ag.1, by omega, h.ag.2.2.trans (hA.weak (q := rlE log) (by omega)).2.2⟩
  refine rl_of (hr.agree hB) ?_ (by omega)
  cases hok : okM b (rlE log) with
  | false => rfl
  | true =>
    exfalso
    obtain ⟨h1, h2, h3, _⟩ := okM_iff.1 hok
    have hnm := h.nAt ht
    have e : nAt b (rlE log) = t.size := by
      rw [← hnm]
      unfold nAt
      rw [hA.ext (a := rlE log) (b := rlE log + 4) (by omega)]
    have e4 := hA.ext (a := rlE log + 4) (b := rlE log + 8) (by omega)
    have hs := sumB_bd t
    rw [e, ← e4, h.u, beT_nums hs.1 (by have := hs.2; show sumB t < 4294967296; exact this)] at h3
    have hsz2 : (b.extract (rlE log + 8) (rlE log + 8 + t.size)).size = t.size := by rw [ByteArray.size_extract]; omega
    have at1 : ∀ (s : ByteArray) (j : Nat), j < t.size → bAt (s.extract (rlE log + 8) (rlE log + 8 + t.size)) j = bAt s (rlE log + 8 + j) := by
      intro s j hj
      unfold bAt
      rw [extract_list, List.getD_eq_getElem?_getD, List.getD_eq_getElem?_getD, List.getElem?_take, if_pos (by omega), List.getElem?_drop]
    have at2 : ∀ j, j < t.size → bAt t j = bAt more (rlE log + 8 + j) := by
      intro j hj
      have := at1 more j hj
      rw [h.t] at this
      exact this
    have at0 : ∀ (s : ByteArray) (j : Nat), s.size ≤ j → bAt s j = 0 := by
      intro s j hj
      unfold bAt
      have e2 : s.data.toList.length = s.size := rfl
      rw [List.getD_eq_getElem?_getD, List.getElem?_eq_none (by omega)]
      rfl
    refine sum_spoilt (s := b.extract (rlE log + 8) (rlE log + 8 + t.size)) (t := t) (i := i - (rlE log + 8)) hsz2 (by omega) (fun j hj => ?_) ?_ h3
    · by_cases hl : j < t.size
      · rw [at1 b j hl, at2 j hl]
        exact ho _ (by omega)
      · rw [at0 _ j (by omega), at0 _ j (by omega)]
    · rw [at1 b _ (by omega), at2 _ (by omega), show rlE log + 8 + (i - (rlE log + 8)) = i by omega]
      exact hn
end Go.Proofs.YtbmoimfimeiglaaGreat
