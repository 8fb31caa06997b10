/- Own texts, joined: contracts that the law's proof goes by. -/
import Derived.Test.YtbmoimfimeiglaaGreatGLFnLog26
import Derived.Test.YtbmoimfimeiglaaGreatGLFnLog16
import Derived.Test.YtbmoimfimeiglaaGreatGLFnLog27
import Derived.Test.YtbmoimfimeiglaaGreatGLFnLog33
import Derived.Test.YtbmoimfimeiglaaGreatGLFnLog32
import Derived.Test.YtbmoimfimeiglaaGreatDrSt
import Derived.Test.YtbmoimfimeiglaaGreatGLFnLog37
import Derived.Handy
import Derived.Test.YtbmoimfimeiglaaGreatGLFnLog49
import Derived.Test.YtbmoimfimeiglaaGreatGLFnLog7
import Derived.Test.YtbmoimfimeiglaaGreatGLFnLog42
import Derived.Deep.RegionHeld3
import Derived.Test.YtbmoimfimeiglaaGreatGLFnLog38
import Derived.Laws.IdiomStrings
import Derived.Laws.BytesArg
import Derived.Laws.BitsAllLaws
namespace Go.Proofs.YtbmoimfimeiglaaGreat
open Go.RowKit
set_option linter.unusedVariables false
set_option linter.unusedSimpArgs false
theorem at_list (s : ByteArray) (a j : Nat) : bAt s (a + j) = ((s.data.toList.drop a).getD j 0).toNat := by
  unfold bAt
  rw [List.getD_eq_getElem?_getD, List.getD_eq_getElem?_getD, List.getElem?_drop]
theorem size_list {s : ByteArray} {a : Nat} {l : List UInt8} (h : s.data.toList.drop a = l) (hl : 0 < l.length) : a + l.length = s.size := by
  have e := congrArg List.length h
  rw [List.length_drop] at e
  have : s.data.toList.length = s.size := rfl
  omega
theorem drop_more {s : ByteArray} {a : Nat} {l r : List UInt8} (h : s.data.toList.drop a = l ++ r) : s.data.toList.drop (a + l.length) = r := by
  rw [← List.drop_drop, h, List.drop_left']
  rfl
theorem val_at (s : ByteArray) (a : Nat) (x : V3) (rest : List UInt8) (h0 : -9223372036854775808 ≤ x.n) (h1 : x.n ≤ 9223372036854775807) (hok : okB x.k x.n x.s = true) (hd : s.data.toList.drop a = vB x ++ rest) :
    getT s a = (x.k, x.n, x.s, (a : Int) + ((vB x).length : Int)) := by
  obtain ⟨k, n, t⟩ := x
  dsimp only at *
  unfold vB at *
  dsimp only at *
  by_cases k0 : k = 0
  · subst k0
    have h := hok
    rw [okB_0] at h
    simp at h
    obtain ⟨rfl, h⟩ := h
    obtain rfl := nil_of t h
    rw [putS_0 _ _ hok, strOfNums_data] at hd ⊢
    have hz := size_list hd (by simp)
    simp at hz
    rw [getT_in s a (by omega), getN_0 _ _ (by have := at_list s a 0; rw [hd] at this; simpa using this)]
    rfl
  by_cases k1 : k = 1
  · subst k1
    have h := hok
    rw [okB_1] at h
    simp at h
    obtain rfl := nil_of t h
    rw [putS_1 _ _ hok, strOfNums_data] at hd ⊢
    have hl : (List.map (fun n => UInt8.ofNat n.toNat) (numL n 8)).length = 9 := by rw [List.length_map, numL_len]
    have hz := size_list hd (by rw [List.length_append]; omega)
    rw [List.length_append, hl] at hz
    rw [getT_in s a (by omega), getN_1 _ _ (by have e := at_list s a 0; rw [hd] at e; exact e.trans rfl) (by omega), hl]
    have : numAt s (a + 1) = n := by
      unfold numAt
      rw [← List.drop_drop, hd]
      have e : (List.drop 1 (List.map (fun n => UInt8.ofNat n.toNat) (numL n 8) ++ rest)).take 8 = ((List.range 8).map (numB n)).map (fun n => UInt8.ofNat n.toNat) := rfl
      rw [e]
      exact num_back n h0 h1
    rw [this]
    rfl
  by_cases k2 : k = 2
  · subst k2
    have h := hok
    rw [okB_2] at h
    simp at h
    obtain ⟨hn, h⟩ := h
    obtain rfl := nil_of t h
    rw [putS_2 _ _ hok, strOfNums_data] at hd ⊢
    have hz := size_list hd (by simp)
    simp at hz
    have hb : bAt s (a + 1) = n.toNat := by
      have := at_list s a 1
      rw [hd] at this
      rw [this]
      show (UInt8.ofNat n.toNat).toNat = n.toNat
      rw [UInt8.toNat_ofNat']; omega
    rw [getT_in s a (by omega), getN_2 _ _ (by have := at_list s a 0; rw [hd] at this; simpa using this) (by omega) (by rw [hb]; omega), hb]
    rw [show ((n.toNat : Nat) : Int) = n by omega]
    rfl
  by_cases k3 : k = 3
  · subst k3
    have h := hok
    rw [okB_3] at h
    simp at h
    obtain ⟨rfl, hs⟩ := h
    have hv : (putS 3 0 t).data.toList = 3 :: UInt8.ofNat t.size :: t.data.toList := by rw [putS_3 _ _ hok, data_app, strOfNums_data]; rfl
    rw [hv] at hd ⊢
    have htl : t.data.toList.length = t.size := rfl
    have hz := size_list hd (by simp)
    simp at hz
    have hb : bAt s (a + 1) = t.size := by
      have := at_list s a 1
      rw [hd] at this
      rw [this]
      show (UInt8.ofNat t.size).toNat = t.size
      rw [UInt8.toNat_ofNat']; omega
    rw [getT_in s a (by omega), getN_3 _ _ (by have := at_list s a 0; rw [hd] at this; simpa using this) (by omega) (by rw [hb]; omega) (by rw [hb]; exact hs), hb]
    have he : s.extract (a + 2) (a + 2 + t.size) = t := by
      apply ByteArray.ext
      apply Array.toList_inj.1
      rw [extract_list, ← List.drop_drop, hd]
      show List.take (a + 2 + t.size - (a + 2)) (t.data.toList ++ rest) = t.data.toList
      rw [show a + 2 + t.size - (a + 2) = t.data.toList.length by omega, List.take_left']
      rfl
    rw [he]
    simp
    omega
  · exfalso
    rw [okB_x k n t k0 k1 k2 k3] at hok
    cases hok
def NumOk (x : V3) : Prop := -9223372036854775808 ≤ x.n ∧ x.n ≤ 9223372036854775807
theorem vals_at (s : ByteArray) : ∀ (vs : List V3) (a : Nat) (rest : List UInt8), (∀ x ∈ vs, NumOk x ∧ okW x = true) → s.data.toList.drop a = rowU vs ++ rest →
    valsV s vs.length a = vs ∧ valsJ s vs.length a = (a : Int) + ((rowU vs).length : Int)
  | [], a, rest, _, _ => ⟨rfl, by simp [valsJ, rowU]⟩
  | x :: vs, a, rest, ho, hd => by
    have e : rowU (x :: vs) = vB x ++ rowU vs := by unfold rowU vB; rw [List.flatMap_cons]
    rw [e, List.append_assoc] at hd
    have hx := ho x (List.mem_cons_self ..)
    have hg := val_at s a x _ hx.1.1 hx.1.2 hx.2 hd
    have hV : tV s a = x := by unfold tV; rw [hg]
    have hJ : tJ s a = ((a + (vB x).length : Nat) : Int) := by unfold tJ; rw [hg]; simp
    have ih := vals_at s vs (a + (vB x).length) rest (fun y hy => ho y (List.mem_cons_of_mem _ hy)) (drop_more hd)
    refine ⟨?_, ?_⟩
    · show tV s a :: valsV s vs.length (tJ s a) = x :: vs
      rw [hV, hJ, ih.1]
    · show valsJ s vs.length (tJ s a) = _
      rw [hJ, ih.2, e, List.length_append]
      omega
theorem run_at (s : ByteArray) (W : Nat) : ∀ (cs : List C2) (n a : Nat) (acc : List C2), cs.length < n → acc.length + cs.length ≤ 400 → (∀ c ∈ cs, c.r.length = W ∧ (-9223372036854775808 ≤ c.n ∧ c.n ≤ 9223372036854775807) ∧ ∀ x ∈ c.r, NumOk x ∧ okW x = true) → s.data.toList.drop a = csU cs →
    runI s W n a acc = some (acc ++ cs)
  | [], n, a, acc, hn, hl, ho, hd => by
    obtain ⟨n, rfl⟩ : ∃ m, n = m + 1 := ⟨n - 1, by simp at hn; omega⟩
    have hz : s.size ≤ a := by
      have e := congrArg List.length hd
      rw [List.length_drop] at e
      have : s.data.toList.length = s.size := rfl
      simp [csU] at e
      omega
    rw [runI, if_neg (by omega)]
    simp
  | c :: cs, n, a, acc, hn, hl, ho, hd => by
    obtain ⟨n, rfl⟩ : ∃ m, n = m + 1 := ⟨n - 1, by simp at hn; omega⟩
    obtain ⟨hW, hnn, hvs⟩ := ho c (List.mem_cons_self ..)
    have hok : okB 1 c.n ⟨#[]⟩ = true := by rw [okB_1]; simp
    have hv : vB ⟨1, c.n, ⟨#[]⟩⟩ = (numL c.n 8).map (fun n => UInt8.ofNat n.toNat) := by unfold vB; rw [putS_1 _ _ hok, strOfNums_data]
    have hlen : (vB ⟨1, c.n, ⟨#[]⟩⟩).length = 9 := by rw [hv, List.length_map, numL_len]
    rw [csU_cons, ← hv, List.append_assoc] at hd
    have hz := size_list hd (by rw [List.length_append]; omega)
    have hg := val_at s a ⟨1, c.n, ⟨#[]⟩⟩ _ hnn.1 hnn.2 hok hd
    have hV : tV s a = ⟨1, c.n, ⟨#[]⟩⟩ := by unfold tV; rw [hg]
    have hJ : tJ s a = ((a + (vB ⟨1, c.n, ⟨#[]⟩⟩).length : Nat) : Int) := by unfold tJ; rw [hg]; simp
    have hd2 := drop_more hd
    have hr := vals_at s c.r _ _ hvs hd2
    rw [hW] at hr
    have hE : endS s W a = ((a + (vB ⟨1, c.n, ⟨#[]⟩⟩).length + (rowU c.r).length : Nat) : Int) := by unfold endS; rw [hJ, hr.2]; simp
    have hS : rowS s W a = c := by
      unfold rowS
      rw [hJ, hr.1, hV]
    rw [List.length_append] at hz
    have h1 : acc.length + (cs.length + 1) ≤ 400 := hl
    have h2 : cs.length + 1 < n + 1 := hn
    rw [runI, if_pos ⟨by omega, by omega⟩, hV, hE, hS, if_neg (by simp only []; omega)]
    rw [run_at s W cs n _ _ (by omega) (by rw [List.length_append]; simp; omega) (fun y hy => ho y (List.mem_cons_of_mem _ hy)) (drop_more hd2)]
    simp
theorem okCs_row {W : Int} : ∀ {cs : List C2} {p : Option C2}, okCs W p cs = true → ∀ c ∈ cs, okRow c.r W = true
  | [], _, _, c, hc => by simp at hc
  | x :: xs, p, h, c, hc => by
    simp only [okCs, Bool.and_eq_true] at h
    rcases List.mem_cons.1 hc with rfl | hc
    · exact h.1.1.1
    · exact okCs_row h.2 c hc
theorem csU_pos : ∀ (cs : List C2), cs.length ≤ (csU cs).length
  | [] => by simp
  | c :: cs => by
    rw [csU_cons, List.length_append, List.length_append, List.length_map, numL_len]
    have := csU_pos cs
    simp
    omega
theorem bag_back {W : Int} {cs : List C2} (hok : okBag W cs = true) (hn : ∀ c ∈ cs, (-9223372036854775808 ≤ c.n ∧ c.n ≤ 9223372036854775807) ∧ ∀ x ∈ c.r, NumOk x) :
    0 < (putB W cs).size ∧ aW (putB W cs) = W ∧ aC (putB W cs) = cs ∧ aB (putB W cs) = true := by
  obtain ⟨hW0, hW1, hl, _⟩ := okBag_facts hok
  have ho : okCs W none cs = true := by
    unfold okBag at hok
    simp only [Bool.and_eq_true] at hok
    exact hok.2
  have hdat : (putB W cs).data.toList = UInt8.ofNat W.toNat :: csU cs := by
    unfold putB
    rw [if_pos hok, strOfNums_data]
    unfold bagN
    rw [List.map_cons, csN_back]
  have hsz : (putB W cs).size = 1 + (csU cs).length := by
    have : (putB W cs).data.toList.length = (putB W cs).size := rfl
    rw [← this, hdat, List.length_cons]; omega
  generalize putB W cs = s at hdat hsz ⊢
  have hb0 : bAt s 0 = W.toNat := by
    unfold bAt
    rw [hdat]
    show (UInt8.ofNat W.toNat).toNat = W.toNat
    rw [UInt8.toNat_ofNat']; omega
  have hd1 : s.data.toList.drop 1 = csU cs := by rw [hdat]; rfl
  have hcl := csU_pos cs
  have hrun : runI s W.toNat (s.size + 1) (1 : Nat) [] = some ([] ++ cs) := run_at s W.toNat cs (s.size + 1) 1 [] (by omega) (by simpa using hl) (fun c hc => by
    have hr := okCs_row ho c hc
    unfold okRow at hr
    simp only [Bool.and_eq_true, decide_eq_true_eq, List.all_eq_true] at hr
    exact ⟨by omega, (hn c hc).1, fun x hx => ⟨(hn c hc).2 x hx, hr.2 x hx⟩⟩) hd1
  have hans : ansB s = some cs := by
    unfold ansB resI
    rw [if_neg (by omega), hb0]
    have h1 : runI s W.toNat (s.size + 1) 1 [] = some cs := hrun
    rw [h1]
    dsimp only
    rw [show ((W.toNat : Nat) : Int) = W by omega, if_pos hok]
  obtain ⟨e1, e2, e3⟩ := ans_some hans
  exact ⟨by omega, by rw [e1, hb0]; omega, e2, e3⟩
end Go.Proofs.YtbmoimfimeiglaaGreat
namespace Go.Proofs.YtbmoimfimeiglaaGreat
open Go.RowKit
set_option linter.unusedVariables false
theorem be_cons (x : UInt8) (r : List UInt8) : be (x :: r) = (x.toNat : Int) * 256 ^ r.length + be r := by
  have gen : ∀ (r : List UInt8) (a : Int), List.foldl (fun a c => 256 * a + (c.toNat : Int)) a r = a * 256 ^ r.length + be r := by
    intro r
    induction r with
    | nil => intro a; simp [be]
    | cons y t iht =>
      intro a
      rw [List.foldl_cons, iht, List.length_cons, Int.pow_succ]
      have e2 : be (y :: t) = (y.toNat : Int) * 256 ^ t.length + be t := by
        unfold be
        rw [List.foldl_cons, iht]
        simp [be]
      rw [e2, Int.add_mul, Int.mul_comm 256 a, Int.mul_assoc, Int.mul_comm 256 (256 ^ t.length), Int.add_assoc]
  have := gen r x.toNat
  show List.foldl (fun a c => 256 * a + (c.toNat : Int)) (256 * 0 + (x.toNat : Int)) r = _
  rw [Int.mul_zero, Int.zero_add]
  exact this
theorem be_nat (x : Nat) : ∀ k : Nat, be ((szN (x : Int) k).map (fun n => UInt8.ofNat n.toNat)) = ((x % 256 ^ k : Nat) : Int)
  | 0 => by simp [szN, be, Nat.mod_one]
  | k + 1 => by
    rw [szN, List.map_cons, be_cons, be_nat x k, List.length_map, szN_len]
    have e1 : (x : Int) / 256 ^ k % 256 = ((x / 256 ^ k % 256 : Nat) : Int) := by
      rw [Int.natCast_emod, Int.natCast_ediv, Int.natCast_pow]
      rfl
    rw [e1, Int.toNat_natCast, UInt8.toNat_ofNat']
    have hlt : x / 256 ^ k % 256 < 256 := Nat.mod_lt _ (by decide)
    rw [show (x / 256 ^ k % 256) % 2 ^ 8 = x / 256 ^ k % 256 from Nat.mod_eq_of_lt hlt]
    have := Nat.mod_mul (x := x) (a := 256 ^ k) (b := 256)
    rw [Nat.pow_succ, this]
    have e2 : ((256 ^ k : Nat) : Int) = (256 : Int) ^ k := by rw [Int.natCast_pow]; rfl
    rw [Int.natCast_add, Int.natCast_mul, e2]
    generalize (256 : Int) ^ k = p
    rw [Int.mul_comm p, Int.add_comm]
theorem be_szN {x : Int} {k : Nat} (h0 : 0 ≤ x) (h1 : x < 256 ^ k) : be ((szN x k).map (fun n => UInt8.ofNat n.toNat)) = x := by
  obtain ⟨n, rfl⟩ : ∃ n : Nat, x = n := ⟨x.toNat, by omega⟩
  rw [be_nat, Nat.mod_eq_of_lt]
  have e2 : ((256 ^ k : Nat) : Int) = (256 : Int) ^ k := by rw [Int.natCast_pow]; rfl
  rw [← e2] at h1
  exact Int.ofNat_lt.1 h1
theorem txN_bytes (s : ByteArray) : s.data.toList = (txN s).map (fun n => UInt8.ofNat n.toNat) := (nb_back s.data.toList).symm
theorem txN_inj {s t : ByteArray} (h : txN s = txN t) : s = t := by
  apply ByteArray.ext
  apply Array.toList_inj.1
  rw [txN_bytes s, txN_bytes t, h]
theorem dr_more {s : ByteArray} {a : Nat} {l r : List Int} (h : dr s a = l ++ r) : dr s (a + l.length) = r := by
  unfold dr at h ⊢
  rw [← List.drop_drop, h, List.drop_left']
  rfl
theorem dr_fit {s : ByteArray} {a : Nat} {l r : List Int} (h : dr s a = l ++ r) (hl : 0 < l.length) : a + l.length + r.length = s.size := by
  have e := congrArg List.length h
  rw [dr_len, List.length_append] at e
  omega
theorem ext_of {s : ByteArray} {a : Nat} {l r : List Int} (h : dr s a = l ++ r) (hf : a + l.length ≤ s.size) : txN (s.extract a (a + l.length)) = l := by
  have e := txN_extract (s := s) a (a + l.length) (by omega) hf
  rw [h, dr_more h] at e
  exact (List.append_cancel_right e).symm
section
variable {s : ByteArray} {a k : Nat} {rest : List Int}
theorem nm_fwd {x : Int} (h : dr s a = szN x k ++ rest) (hk : 0 < k) (h0 : 0 ≤ x) (h1 : x < 256 ^ k) : nm s s.size k (a, false) = (x, (a + k, false)) := by
  have hf := dr_fit h (by rw [szN_len]; exact hk)
  rw [szN_len] at hf
  have he := ext_of h (by rw [szN_len]; omega)
  rw [szN_len] at he
  unfold nm tk beT
  dsimp only
  rw [if_pos (by omega)]
  dsimp only
  rw [txN_bytes, he, be_szN h0 h1]
theorem tx_fwd {t : ByteArray} (h : dr s a = tN t k ++ rest) (hk : 0 < k) (h1 : (t.size : Int) < 256 ^ k) : tx s s.size k (a, false) = (t, (a + k + t.size, false)) := by
  unfold tN at h
  have hf := dr_fit h (by rw [List.length_append, szN_len]; omega)
  rw [List.length_append, szN_len, txN_len] at hf
  rw [List.append_assoc] at h
  have hn := nm_fwd h hk (by omega) h1
  have h2 := dr_more h
  rw [szN_len] at h2
  have he := ext_of h2 (by rw [txN_len]; omega)
  rw [txN_len] at he
  unfold tx
  rw [hn]
  dsimp only
  unfold tk
  rw [Int.toNat_natCast, if_pos (by dsimp only; omega)]
  dsimp only
  rw [txN_inj he]
end
theorem csn_fwd {s : ByteArray} {a : Nat} {cs : List ByteArray} {rest : List Int} (h : dr s a = csL cs ++ rest) (hs : ∀ c ∈ cs, c.size ≤ 10) : ∀ n, n ≤ cs.length → csn s s.size (a, false) n = (cs.take n, (a + (csL (cs.take n)).length, false))
  | 0, _ => by simp [csn, csL]
  | n + 1, hn => by
    have ih := csn_fwd h hs n (by omega)
    obtain ⟨c, hc⟩ : ∃ c, cs[n]? = some c := ⟨cs[n], by simp [show n < cs.length by omega]⟩
    have hcs := csL_take hc
    have e : csL cs = csL (cs.take (n + 1)) ++ csL (cs.drop (n + 1)) := by
      unfold csL
      rw [← List.flatMap_append, List.take_append_drop]
    rw [e, hcs, List.append_assoc, List.append_assoc] at h
    have h2 := dr_more h
    have h3 := tx_fwd h2 (by omega) (by have := hs c (List.mem_of_getElem? hc); show (c.size : Int) < 65536; omega)
    rw [csn, ih]
    dsimp only
    rw [h3, hcs, List.length_append, tN_len]
    obtain ⟨hk, rfl⟩ := List.getElem?_eq_some_iff.1 hc
    rw [List.take_succ_eq_append_getElem hk]
    simp [Nat.add_assoc]
def RelFine (r : R3) : Prop := r.s.size ≤ 10 ∧ okBag r.W r.cs = true ∧ ∀ c ∈ r.cs, (-9223372036854775808 ≤ c.n ∧ c.n ≤ 9223372036854775807) ∧ ∀ x ∈ c.r, NumOk x
theorem rln_fwd {s : ByteArray} {a : Nat} {rs : List R3} {rest : List Int} (h : dr s a = rlsL rs ++ rest) (hs : ∀ r ∈ rs, RelFine r) : ∀ n, n ≤ rs.length → rln s s.size (a, false) n = (rs.take n, (a + (rlsL (rs.take n)).length, false))
  | 0, _ => by simp [rln, rlsL]
  | n + 1, hn => by
    have ih := rln_fwd h hs n (by omega)
    obtain ⟨r, hr⟩ : ∃ r, rs[n]? = some r := ⟨rs[n], by simp [show n < rs.length by omega]⟩
    have hcs := rlsL_take hr
    have e : rlsL rs = rlsL (rs.take (n + 1)) ++ rlsL (rs.drop (n + 1)) := by
      unfold rlsL
      rw [← List.flatMap_append, List.take_append_drop]
    obtain ⟨f1, f2, f3⟩ := hs r (List.mem_of_getElem? hr)
    obtain ⟨b0, b1, b2, b3⟩ := bag_back f2 f3
    have hp := putB_size r.W r.cs
    rw [e, hcs, List.append_assoc, List.append_assoc] at h
    have h2 := dr_more h
    have h2' := h2
    unfold rlL at h2'
    rw [List.append_assoc] at h2'
    have h3 := tx_fwd h2' (by omega) (by show (r.s.size : Int) < 65536; omega)
    have h4 := dr_more h2'
    rw [tN_len] at h4
    have h5 := tx_fwd h4 (by omega) (by show ((putB r.W r.cs).size : Int) < 4294967296; omega)
    rw [rln, ih]
    dsimp only
    have h6 : rl s s.size (a + (rlsL (rs.take n)).length, false) = (r, (a + (rlsL (rs.take n)).length + (rlL r).length, false)) := by
      unfold rl rlB
      rw [h3]
      dsimp only
      rw [show a + (rlsL (List.take n rs)).length + 2 + r.s.size = a + (rlsL (List.take n rs)).length + (2 + r.s.size) by omega, h5]
      dsimp only
      rw [b1, b2, b3]
      have el : (rlL r).length = 2 + r.s.size + (4 + (putB r.W r.cs).size) := by unfold rlL; rw [List.length_append, tN_len, tN_len]
      rw [el]
      simp [Nat.add_assoc]
    rw [h6, hcs, List.length_append]
    obtain ⟨hk, rfl⟩ := List.getElem?_eq_some_iff.1 hr
    rw [List.take_succ_eq_append_getElem hk]
    simp [Nat.add_assoc]
theorem txN_rng (s : ByteArray) : ∀ y ∈ txN s, 0 ≤ y ∧ y < 256 := by
  intro y hy
  unfold txN nb at hy
  obtain ⟨b, _, rfl⟩ := List.mem_map.1 hy
  have := b.toNat_lt
  omega
theorem tN_rng (s : ByteArray) (n : Nat) : ∀ y ∈ tN s n, 0 ≤ y ∧ y < 256 := by
  intro y hy
  unfold tN at hy
  rcases List.mem_append.1 hy with h | h
  · exact szN_bd _ _ y h
  · exact txN_rng s y h
theorem stepL_rng (x : T5) : ∀ y ∈ stepL x, 0 ≤ y ∧ y < 256 := by
  intro y hy
  unfold stepL mdL hdL csL rlsL rlL at hy
  simp only [List.mem_append, List.mem_flatMap] at hy
  rcases hy with ((((((h | h) | h) | ⟨c, _, h⟩) | h) | h) | ⟨r, _, h | h⟩)
  · exact szN_bd _ _ y h
  · exact tN_rng _ _ y h
  · exact szN_bd _ _ y h
  · exact tN_rng _ _ y h
  · exact tN_rng _ _ y h
  · exact szN_bd _ _ y h
  · exact tN_rng _ _ y h
  · exact tN_rng _ _ y h
theorem txN_nums {l : List Int} (h : ∀ y ∈ l, 0 ≤ y ∧ y < 256) : txN (strOfNums l) = l := by
  unfold txN nb
  rw [strOfNums_data, List.map_map]
  conv => rhs; rw [← List.map_id l]
  apply List.map_congr_left
  intro y hy
  have := h y hy
  simp only [Function.comp, id]
  rw [UInt8.toNat_ofNat']
  omega
theorem putT_of {x : T5} (h : okStep x = true) : putT x = strOfNums (stepL x) := by unfold putT; rw [if_pos h]
theorem putT_tx {x : T5} (h : okStep x = true) : txN (putT x) = stepL x := by rw [putT_of h, txN_nums (stepL_rng x)]
theorem step_back {x : T5} (hok : okStep x = true) (hr : ∀ r ∈ x.rs, RelFine r) : gO (putT x) = true ∧ gT (putT x) = x := by
  have hb := okStep_bnd hok
  have ht := putT_tx hok
  generalize putT x = s at ht ⊢
  have hsz : s.size = (stepL x).length := by rw [← ht, txN_len]
  have k0 := hb.k0
  have k3 := hb.k3
  have c12 := hb.cl
  have r20 := hb.rl
  have d0 : dr s 0 = szN x.k 1 ++ (tN x.s 2 ++ (szN x.cs.length 1 ++ (csL x.cs ++ (tN x.q 2 ++ (szN x.rs.length 1 ++ (rlsL x.rs ++ [])))))) := by
    unfold dr
    rw [ht, List.drop_zero]
    unfold stepL mdL hdL
    simp only [List.append_assoc, List.append_nil]
  have rA : sA s s.size (0, false) = (x.k, (0 + 1, false)) := nm_fwd d0 (by omega) k0 (by show x.k < 256; omega)
  have d1 := dr_more d0
  rw [szN_len] at d1
  have rB : sB s s.size (0, false) = (x.s, (0 + 1 + 2 + x.s.size, false)) := by unfold sB; rw [rA]; exact tx_fwd d1 (by omega) (by have := hb.s; show (x.s.size : Int) < 65536; omega)
  have d2 := dr_more d1
  rw [tN_len, ← Nat.add_assoc] at d2
  have rN : sN s s.size (0, false) = ((x.cs.length : Int), (0 + 1 + 2 + x.s.size + 1, false)) := by unfold sN; rw [rB]; exact nm_fwd d2 (by omega) (by omega) (by show (x.cs.length : Int) < 256; omega)
  have d3 := dr_more d2
  rw [szN_len] at d3
  have rC : sC' s s.size (0, false) = (x.cs, (0 + 1 + 2 + x.s.size + 1 + (csL x.cs).length, false)) := by
    unfold sC'
    rw [rN]
    dsimp only
    rw [Int.toNat_natCast, csn_fwd d3 hb.c _ (Nat.le_refl _), List.take_length]
  have d4 := dr_more d3
  have rD : sD s s.size (0, false) = (x.q, (0 + 1 + 2 + x.s.size + 1 + (csL x.cs).length + 2 + x.q.size, false)) := by unfold sD; rw [rC]; exact tx_fwd d4 (by omega) (by have := hb.q; show (x.q.size : Int) < 65536; omega)
  have d5 := dr_more d4
  rw [tN_len, ← Nat.add_assoc] at d5
  have rM : sM s s.size (0, false) = ((x.rs.length : Int), (0 + 1 + 2 + x.s.size + 1 + (csL x.cs).length + 2 + x.q.size + 1, false)) := by unfold sM; rw [rD]; exact nm_fwd d5 (by omega) (by omega) (by show (x.rs.length : Int) < 256; omega)
  have d6 := dr_more d5
  rw [szN_len] at d6
  have rE : sE s s.size (0, false) = (x.rs, (0 + 1 + 2 + x.s.size + 1 + (csL x.cs).length + 2 + x.q.size + 1 + (rlsL x.rs).length, false)) := by
    unfold sE
    rw [rM]
    dsimp only
    rw [Int.toNat_natCast, rln_fwd d6 hr _ (Nat.le_refl _), List.take_length]
  have hX : sX s s.size (0, false) = x := by unfold sX; rw [rA, rB, rC, rD, rE]
  have hfin : 0 + 1 + 2 + x.s.size + 1 + (csL x.cs).length + 2 + x.q.size + 1 + (rlsL x.rs).length = s.size := by
    rw [hsz]
    unfold stepL mdL hdL
    simp only [List.length_append, szN_len, tN_len]
    omega
  have hO : gO s = true := by
    unfold gO sO sT
    rw [hX, hok, rE]
    dsimp only
    rw [hfin]
    simp
  refine ⟨hO, ?_⟩
  unfold gT
  rw [if_pos (show sO s s.size (0, false) = true from hO), hX]
end Go.Proofs.YtbmoimfimeiglaaGreat
namespace Go.Proofs.YtbmoimfimeiglaaGreat
open Go.RowKit
set_option linter.unusedVariables false
theorem xor32 (x c : Nat) (h : x < 4294967296) (k : c < 4294967296) : bits .xor .u32 (x : Int) (c : Int) = ((x ^^^ c : Nat) : Int) := by
  show IntKind.u32.wrap ((BitVec.ofInt 32 (x : Int) ^^^ BitVec.ofInt 32 (c : Int)).toNat : Int) = _
  have h1 : (BitVec.ofInt 32 (x : Int)).toNat = x := by
    rw [BitVec.ofInt_natCast, BitVec.toNat_ofNat]; exact Nat.mod_eq_of_lt (by omega)
  have h2 : (BitVec.ofInt 32 (c : Int)).toNat = c := by
    rw [BitVec.ofInt_natCast, BitVec.toNat_ofNat]; exact Nat.mod_eq_of_lt (by omega)
  have h3 : x ^^^ c < 2 ^ 32 := Nat.xor_lt_two_pow h k
  rw [BitVec.toNat_xor, h1, h2, IntKind.wrap_u32]
  omega
theorem mul_back {X : Int} (h0 : 0 ≤ X) (h1 : X < 4294967296) : (X * 16777619 % 4294967296) * 899433627 % 4294967296 = X := by
  have e : X * 16777619 * 899433627 = X + 4294967296 * (X * 3513497) := by omega
  have h := Int.mul_emod (X * 16777619) 899433627 4294967296
  have h2 := Int.mul_emod (X * 16777619 % 4294967296) 899433627 4294967296
  rw [Int.emod_emod, ← h] at h2
  rw [h2, e, Int.add_mul_emod_self_left]
  omega
theorem mul_inj {A B : Int} (a0 : 0 ≤ A) (a1 : A < 4294967296) (b0 : 0 ≤ B) (b1 : B < 4294967296) (h : A * 16777619 % 4294967296 = B * 16777619 % 4294967296) : A = B := by
  rw [← mul_back a0 a1, ← mul_back b0 b1, h]
theorem smix_inj {x c y d : Nat} (hx : x < 4294967296) (hc : c < 4294967296) (hy : y < 4294967296) (hd : d < 4294967296) (h : smix x c = smix y d) : x ^^^ c = y ^^^ d := by
  unfold smix at h
  rw [xor32 x c hx hc, xor32 y d hy hd] at h
  have h3 : x ^^^ c < 2 ^ 32 := Nat.xor_lt_two_pow hx hc
  have h4 : y ^^^ d < 2 ^ 32 := Nat.xor_lt_two_pow hy hd
  have f1 : ((x ^^^ c : Nat) : Int) < 4294967296 := by clear h; omega
  have f2 : ((y ^^^ d : Nat) : Int) < 4294967296 := by clear h; omega
  have := mul_inj (Int.natCast_nonneg _) f1 (Int.natCast_nonneg _) f2 h
  clear h
  omega
theorem xor_l {x c d : Nat} (h : x ^^^ c = x ^^^ d) : c = d := by
  have := congrArg (fun z => x ^^^ z) h
  simpa [← Nat.xor_assoc] using this
theorem xor_r {x y c : Nat} (h : x ^^^ c = y ^^^ c) : x = y := by
  rw [Nat.xor_comm x, Nat.xor_comm y] at h
  exact xor_l h
theorem sumN_at (s : ByteArray) (n : Nat) (h : n < s.size) : sumN s (n + 1) = smix (sumN s n) (bAt s n : Int) := by rw [sumN_step s n h, bAt_eq]
theorem sum_spoilt {s t : ByteArray} {i : Nat} (hz : s.size = t.size) (hi : i < s.size) (ho : ∀ j, j ≠ i → bAt s j = bAt t j) (hn : bAt s i ≠ bAt t i) : sumB s ≠ sumB t := by
  have pre : ∀ n, n ≤ i → sumN s n = sumN t n := by
    intro n
    induction n with
    | zero => intro _; rfl
    | succ n ih =>
      intro h
      rw [sumN_at s n (by omega), sumN_at t n (by omega), ih (by omega), ho n (by omega)]
  have post : ∀ n, n + i + 1 ≤ s.size → sumN s (n + i + 1) ≠ sumN t (n + i + 1) := by
    intro n
    induction n with
    | zero =>
      intro h e
      rw [Nat.zero_add, sumN_at s i (by omega), sumN_at t i (by omega), pre i (Nat.le_refl _)] at e
      obtain ⟨x0, x1⟩ := sumN_bd t i
      obtain ⟨x, hx⟩ : ∃ x : Nat, sumN t i = x := ⟨(sumN t i).toNat, by omega⟩
      rw [hx] at e x1
      have b1 := bAt_lt s i
      have b2 := bAt_lt t i
      exact hn (xor_l (smix_inj (by omega) (by omega) (by omega) (by omega) e))
    | succ n ih =>
      intro h e
      rw [show n + 1 + i + 1 = (n + i + 1) + 1 by omega, sumN_at s _ (by omega), sumN_at t _ (by omega), ho _ (by omega)] at e
      obtain ⟨x0, x1⟩ := sumN_bd s (n + i + 1)
      obtain ⟨y0, y1⟩ := sumN_bd t (n + i + 1)
      have ih := ih (by omega)
      obtain ⟨x, hx⟩ : ∃ x : Nat, sumN s (n + i + 1) = x := ⟨(sumN s (n + i + 1)).toNat, by omega⟩
      obtain ⟨y, hy⟩ : ∃ y : Nat, sumN t (n + i + 1) = y := ⟨(sumN t (n + i + 1)).toNat, by omega⟩
      rw [hx, hy] at e ih
      have b2 := bAt_lt t (n + i + 1)
      have := xor_r (smix_inj (by omega) (by omega) (by omega) (by omega) e)
      omega
  have := post (s.size - 1 - i) (by omega)
  unfold sumB
  rw [← hz, show s.size = s.size - 1 - i + i + 1 by omega]
  exact this
def Agree (s m : ByteArray) (p : Nat) : Prop := p ≤ s.size ∧ p ≤ m.size ∧ s.data.toList.take p = m.data.toList.take p
theorem Agree.ext {s m : ByteArray} {p a b : Nat} (h : Agree s m p) (hb : b ≤ p) : s.extract a b = m.extract a b := by
  obtain ⟨_, _, h⟩ := h
  apply ByteArray.ext
  apply Array.toList_inj.1
  have e := congrArg (fun l => (l.take b).drop a) h
  simp only [List.take_take, Nat.min_eq_left hb] at e
  rw [extract_list, extract_list, ← List.drop_take, ← List.drop_take]
  exact e
theorem Agree.weak {s m : ByteArray} {p q : Nat} (h : Agree s m p) (hq : q ≤ p) : Agree s m q := by
  obtain ⟨h1, h2, h3⟩ := h
  refine ⟨by omega, by omega, ?_⟩
  have e := congrArg (fun l => l.take q) h3
  simpa [List.take_take, Nat.min_eq_left hq] using e
section
variable {s m : ByteArray} {a : Nat}
theorem l_of (h : a + 8 ≤ s.size) : lA s a = (beT (s.extract a (a + 4)), (a + 4, false)) ∧ lB s a = (beT (s.extract (a + 4) (a + 8)), (a + 8, false)) := by
  have e : lA s a = (beT (s.extract a (a + 4)), (a + 4, false)) := by
    unfold lA nm tk
    rw [if_pos (by dsimp only; omega)]
  refine ⟨e, ?_⟩
  unfold lB
  rw [e]
  unfold nm tk
  rw [if_pos (by dsimp only; omega)]
theorem l_no (h : ¬ a + 8 ≤ s.size) : (lB s a).2.2 = true := by
  unfold lB lA nm tk
  dsimp only
  by_cases h4 : a + 4 ≤ s.size
  · rw [if_pos h4]
    dsimp only
    rw [if_neg (by omega)]
  · rw [if_neg h4]
    dsimp only
    split <;> rfl
def nAt (s : ByteArray) (a : Nat) : Nat := (beT (s.extract a (a + 4))).toNat
theorem lN_of (h : a + 8 ≤ s.size) : lN s a = a + 8 + nAt s a := by
  unfold lN nAt
  rw [(l_of h).1, (l_of h).2]
theorem okM_iff : okM s a = true ↔ a + 8 ≤ s.size ∧ a + 8 + nAt s a ≤ s.size ∧ (sumB (s.extract (a + 8) (a + 8 + nAt s a)) : Int) = beT (s.extract (a + 4) (a + 8)) ∧ gO (s.extract (a + 8) (a + 8 + nAt s a)) = true := by
  by_cases h : a + 8 ≤ s.size
  · have e := lN_of h
    obtain ⟨e1, e2⟩ := l_of h
    unfold okM
    rw [e1, e2]
    simp only [Bool.not_false, Bool.true_and, Bool.and_eq_true, decide_eq_true_eq, beq_iff_eq]
    unfold nAt
    constructor
    · rintro ⟨⟨h1, h2⟩, h3⟩; exact ⟨h, h1, h2, h3⟩
    · rintro ⟨_, h1, h2, h3⟩; exact ⟨⟨h1, h2⟩, h3⟩
  · have e := l_no (s := s) (a := a) h
    constructor
    · intro h0
      have := (okM_at h0).2.2
      rw [e] at this
      cases this
    · rintro ⟨h0, _⟩
      exact absurd h0 h
theorem lX_of (h : a + 8 ≤ s.size) : lX s a = gT (s.extract (a + 8) (a + 8 + nAt s a)) := by
  unfold lX
  rw [lN_of h, (l_of h).2]
theorem okM_agree {p : Nat} (h : Agree s m p) (ho : okM s a = true) (hp : lN s a ≤ p) : okM m a = true ∧ lN m a = lN s a ∧ lX m a = lX s a := by
  obtain ⟨h1, h2, h3, h4⟩ := okM_iff.1 ho
  rw [lN_of h1] at hp ⊢
  have hm : a + 8 ≤ m.size := by have := h.2.1; omega
  have en : nAt m a = nAt s a := by unfold nAt; rw [h.ext (a := a) (b := a + 4) (by omega)]
  have e1 := h.ext (a := a + 4) (b := a + 8) (by omega)
  have e2 := h.ext (a := a + 8) (b := a + 8 + nAt s a) hp
  refine ⟨okM_iff.2 ⟨hm, by rw [en]; have := h.2.1; omega, by rw [en, ← e1, ← e2]; exact h3, by rw [en, ← e2]; exact h4⟩, by rw [lN_of hm, en], ?_⟩
  rw [lX_of hm, lX_of h1, en, e2]
end
def Reads (s : ByteArray) : Nat → List T5 → Nat → Prop
  | a, [], b => a = b
  | a, t :: ts, b => okM s a = true ∧ lX s a = t ∧ Reads s (lN s a) ts b
theorem Reads.le {s : ByteArray} : ∀ {ts : List T5} {a b : Nat}, Reads s a ts b → a ≤ b
  | [], a, b, h => Nat.le_of_eq h
  | t :: ts, a, b, h => by
    have := (okM_at h.1).1
    have := Reads.le h.2.2
    omega
theorem Reads.agree {s m : ByteArray} : ∀ {ts : List T5} {a b : Nat}, Reads s a ts b → Agree s m b → Reads m a ts b
  | [], a, b, h, _ => h
  | t :: ts, a, b, h, hA => by
    obtain ⟨h1, h2, h3⟩ := h
    obtain ⟨e1, e2, e3⟩ := okM_agree hA h1 (Reads.le h3)
    exact ⟨e1, e3.trans h2, by rw [e2]; exact Reads.agree h3 hA⟩
theorem Reads.snoc {s : ByteArray} : ∀ {ts : List T5} {a b : Nat}, Reads s a ts b → okM s b = true → Reads s a (ts ++ [lX s b]) (lN s b)
  | [], a, b, h, ho => by
    have h : a = b := h
    subst h
    exact ⟨ho, rfl, rfl⟩
  | t :: ts, a, b, h, ho => ⟨h.1, h.2.1, Reads.snoc h.2.2 ho⟩
theorem rdL_reads (s : ByteArray) : ∀ k a, a ≤ s.size → s.size ≤ a + k → Reads s a (rdL s k a).1 (rdL s k a).2 ∧ (rdL s k a).2 ≤ s.size ∧ okM s (rdL s k a).2 = false
  | 0, a, h, hk => by
    refine ⟨rfl, h, ?_⟩
    cases ho : okM s a with
    | false => exact ho
    | true =>
      have := okM_at ho
      omega
  | k + 1, a, h, hk => by
    cases ho : okM s a with
    | false =>
      rw [rdL_no ho]
      exact ⟨rfl, h, ho⟩
    | true =>
      rw [rdL_yes ho]
      obtain ⟨h1, h2, _⟩ := okM_at ho
      obtain ⟨r1, r2, r3⟩ := rdL_reads s k (lN s a) h2 (by omega)
      exact ⟨⟨ho, rfl, r1⟩, r2, r3⟩
theorem reads_rdL {s : ByteArray} : ∀ {ts : List T5} {k a b : Nat}, Reads s a ts b → okM s b = false → s.size ≤ a + k → rdL s k a = (ts, b)
  | [], k, a, b, h, ho, hk => by
    have h : a = b := h
    subst h
    exact rdL_no ho k
  | t :: ts, k, a, b, h, ho, hk => by
    obtain ⟨h1, h2, h3⟩ := h
    obtain ⟨g1, g2, _⟩ := okM_at h1
    obtain ⟨k, rfl⟩ : ∃ n, k = n + 1 := ⟨k - 1, by omega⟩
    rw [rdL_yes h1, reads_rdL h3 ho (by omega), h2]
theorem rl_reads (s : ByteArray) : Reads s 0 (rlT s) (rlE s) ∧ rlE s ≤ s.size := by
  unfold rlT rlE
  by_cases h : s.size ≤ 100000
  · rw [if_pos h, if_pos h]
    obtain ⟨h1, h2, _⟩ := rdL_reads s s.size 0 (by omega) (by omega)
    exact ⟨h1, h2⟩
  · rw [if_neg h, if_neg h]
    exact ⟨rfl, by omega⟩
theorem rl_of {s : ByteArray} {ts : List T5} {b : Nat} (h : Reads s 0 ts b) (ho : okM s b = false) (hz : s.size ≤ 100000) : rlT s = ts ∧ rlE s = b := by
  unfold rlT rlE
  rw [if_pos hz, if_pos hz, reads_rdL h ho (by omega)]
  exact ⟨rfl, rfl⟩
theorem okM_end (s : ByteArray) : okM s s.size = false := by
  cases ho : okM s s.size with
  | false => rfl
  | true => have := okM_at ho; omega
section
variable {log t : ByteArray} {x : T5}
structure More (log t more : ByteArray) (E : Nat) : Prop where
  ag : Agree log more E
  sz : more.size = E + 8 + t.size
  n : more.extract E (E + 4) = strOfNums (szN t.size 4)
  u : more.extract (E + 4) (E + 8) = strOfNums (szN (sumB t) 4)
  t : more.extract (E + 8) (E + 8 + t.size) = t
theorem beT_nums {x : Int} {k : Nat} (h0 : 0 ≤ x) (h1 : x < 256 ^ k) : beT (strOfNums (szN x k)) = x := by
  unfold beT
  rw [strOfNums_data, be_szN h0 h1]
theorem ext_list (s : ByteArray) (a b : Nat) (P : List UInt8) (M R : List UInt8) (h : s.data.toList = P ++ (M ++ R)) (ha : a = P.length) (hb : b = P.length + M.length) : (s.extract a b).data.toList = M := by
  rw [extract_list, h, ha, hb, List.drop_left']
  · rw [show P.length + M.length - P.length = M.length by omega, List.take_left']
    rfl
  · rfl
theorem More.of {E : Nat} (hE : E ≤ log.size) : More log t (log.extract 0 E ++ strOfNums (szN t.size 4) ++ strOfNums (szN (sumB t) 4) ++ t) E := by
  have e0 : (log.extract 0 E).data.toList = log.data.toList.take E := by rw [extract_list]; simp
  have l0 : (log.extract 0 E).data.toList.length = E := by
    rw [e0, List.length_take]
    have : log.data.toList.length = log.size := rfl
    omega
  have ls : ∀ x : Int, (strOfNums (szN x 4)).data.toList.length = 4 := fun x => by rw [strOfNums_data, List.length_map, szN_len]
  have lt : t.data.toList.length = t.size := rfl
  have ed : (log.extract 0 E ++ strOfNums (szN t.size 4) ++ strOfNums (szN (sumB t) 4) ++ t).data.toList = (log.extract 0 E).data.toList ++ ((strOfNums (szN t.size 4)).data.toList ++ ((strOfNums (szN (sumB t) 4)).data.toList ++ (t.data.toList ++ []))) := by
    rw [data_app, data_app, data_app]
    simp
  have hl : (log.extract 0 E ++ strOfNums (szN t.size 4) ++ strOfNums (szN (sumB t) 4) ++ t).data.toList.length = (log.extract 0 E ++ strOfNums (szN t.size 4) ++ strOfNums (szN (sumB t) 4) ++ t).size := rfl
  generalize log.extract 0 E ++ strOfNums (szN t.size 4) ++ strOfNums (szN (sumB t) 4) ++ t = more at ed hl ⊢
  have hz : more.size = E + 8 + t.size := by
    rw [← hl, ed]
    simp only [List.length_append, l0, ls, lt, List.length_nil]
    omega
  refine ⟨⟨hE, by omega, ?_⟩, hz, ?_, ?_, ?_⟩
  · rw [ed, List.take_left' l0, e0]
  · apply ByteArray.ext
    apply Array.toList_inj.1
    exact ext_list more _ _ _ _ _ ed l0.symm (by rw [l0, ls])
  · apply ByteArray.ext
    apply Array.toList_inj.1
    refine ext_list more _ _ ((log.extract 0 E).data.toList ++ (strOfNums (szN t.size 4)).data.toList) _ (t.data.toList ++ []) (by rw [ed, List.append_assoc]) (by rw [List.length_append, l0, ls]) (by rw [List.length_append, l0, ls, ls])
  · apply ByteArray.ext
    apply Array.toList_inj.1
    refine ext_list more _ _ ((log.extract 0 E).data.toList ++ ((strOfNums (szN t.size 4)).data.toList ++ (strOfNums (szN (sumB t) 4)).data.toList)) _ [] (by rw [ed]; simp) (by simp only [List.length_append, l0, ls]) (by simp only [List.length_append, l0, ls, lt])
variable {more : ByteArray} {E : Nat}
theorem More.nAt (h : More log t more E) (ht : t.size < 4294967296) : nAt more E = t.size := by
  unfold Go.Proofs.YtbmoimfimeiglaaGreat.nAt
  rw [h.n, beT_nums (by omega) (by show (t.size : Int) < 4294967296; omega)]
  simp
theorem More.ok (h : More log t more E) (ht : t.size < 4294967296) (hg : gO t = true) : okM more E = true ∧ lN more E = more.size ∧ lX more E = gT t := by
  have hn := h.nAt ht
  have hz := h.sz
  have h8 : E + 8 ≤ more.size := by omega
  have hs := sumB_bd t
  refine ⟨okM_iff.2 ⟨h8, by rw [hn]; omega, ?_, by rw [hn, h.t]; exact hg⟩, by rw [lN_of h8, hn]; omega, by rw [lX_of h8, hn, h.t]⟩
  rw [hn, h.t, h.u, beT_nums hs.1 (by have := hs.2; show sumB t < 4294967296; exact this)]
end
theorem log_more {log t more : ByteArray} (h : More log t more (rlE log)) (ht : t.size < 4294967296) (hg : gO t = true) (hz : more.size ≤ 100000) : rlT more = rlT log ++ [gT t] ∧ rlE more = more.size := by
  obtain ⟨hr, hE⟩ := rl_reads log
  obtain ⟨o1, o2, o3⟩ := h.ok ht hg
  have h1 := (hr.agree h.ag).snoc o1
  rw [o2, o3] at h1
  exact rl_of h1 (okM_end more) hz
theorem log_cut {log t more cut : ByteArray} (h : More log t more (rlE log)) (ht : t.size < 4294967296) (h0 : 0 < t.size) (hz : more.size ≤ 100000) (hc : cut = more.extract 0 (more.size - 1)) : rlT cut = rlT log ∧ rlE cut = rlE log := by
  obtain ⟨hr, hE⟩ := rl_reads log
  have hsz := h.sz
  have hcs : cut.size = more.size - 1 := by rw [hc, ByteArray.size_extract]; omega
  have hA : Agree more cut (more.size - 1) := by
    refine ⟨by omega, by omega, ?_⟩
    rw [hc, extract_list]
    simp [List.take_take]
  have hB : Agree log cut (rlE log) := ⟨h.ag.1, by omega, h.ag.2.2.trans (hA.weak (q := rlE log) (by omega)).2.2⟩
  refine rl_of (hr.agree hB) ?_ (by omega)
  cases ho : okM cut (rlE log) with
  | false => rfl
  | true =>
    obtain ⟨h1, h2, _⟩ := okM_iff.1 ho
    have hn := h.nAt ht
    have e : nAt cut (rlE log) = nAt more (rlE log) := by unfold nAt; rw [hA.ext (a := rlE log) (b := rlE log + 4) (by omega)]
    omega
theorem log_spoilt {log t more b : ByteArray} {i : Nat} (h : More log t more (rlE log)) (ht : t.size < 4294967296) (hz : more.size ≤ 100000) (hb : b.size = more.size) (hi : rlE log + 8 ≤ i) (hi2 : i < more.size) (ho : ∀ j, j ≠ i → bAt b j = bAt more j) (hn : bAt b i ≠ bAt more i) : rlT b = rlT log ∧ rlE b = rlE log := by
  obtain ⟨hr, hE⟩ := rl_reads log
  have hsz := h.sz
  have hA : Agree more b (rlE log + 8) := by
    refine ⟨by omega, by omega, ?_⟩
    apply List.ext_getElem
    · simp only [List.length_take]
      have e1 : more.data.toList.length = more.size := rfl
      have e2 : b.data.toList.length = b.size := rfl
      omega
    · intro j h1 h2
      rw [List.length_take] at h1 h2
      have e1 : more.data.toList.length = more.size := rfl
      have e2 : b.data.toList.length = b.size := rfl
      rw [List.getElem_take, List.getElem_take]
      have e3 := ho j (by omega)
      unfold bAt at e3
      rw [List.getD_eq_getElem?_getD, List.getD_eq_getElem?_getD, List.getElem?_eq_getElem (by omega), List.getElem?_eq_getElem (by omega)] at e3
      exact (UInt8.toNat_inj.1 e3).symm
  have hB : Agree log b (rlE log) := ⟨h.ag.1, by omega, h.ag.2.2.trans (hA.weak (q := rlE log) (by omega)).2.2⟩
  refine rl_of (hr.agree hB) ?_ (by omega)
  cases hok : okM b (rlE log) with
  | false => rfl
  | true =>
    exfalso
    obtain ⟨h1, h2, h3, _⟩ := okM_iff.1 hok
    have hnm := h.nAt ht
    have e : nAt b (rlE log) = t.size := by
      rw [← hnm]
      unfold nAt
      rw [hA.ext (a := rlE log) (b := rlE log + 4) (by omega)]
    have e4 := hA.ext (a := rlE log + 4) (b := rlE log + 8) (by omega)
    have hs := sumB_bd t
    rw [e, ← e4, h.u, beT_nums hs.1 (by have := hs.2; show sumB t < 4294967296; exact this)] at h3
    have hsz2 : (b.extract (rlE log + 8) (rlE log + 8 + t.size)).size = t.size := by rw [ByteArray.size_extract]; omega
    have at1 : ∀ (s : ByteArray) (j : Nat), j < t.size → bAt (s.extract (rlE log + 8) (rlE log + 8 + t.size)) j = bAt s (rlE log + 8 + j) := by
      intro s j hj
      unfold bAt
      rw [extract_list, List.getD_eq_getElem?_getD, List.getD_eq_getElem?_getD, List.getElem?_take, if_pos (by omega), List.getElem?_drop]
    have at2 : ∀ j, j < t.size → bAt t j = bAt more (rlE log + 8 + j) := by
      intro j hj
      have := at1 more j hj
      rw [h.t] at this
      exact this
    have at0 : ∀ (s : ByteArray) (j : Nat), s.size ≤ j → bAt s j = 0 := by
      intro s j hj
      unfold bAt
      have e2 : s.data.toList.length = s.size := rfl
      rw [List.getD_eq_getElem?_getD, List.getElem?_eq_none (by omega)]
      rfl
    refine sum_spoilt (s := b.extract (rlE log + 8) (rlE log + 8 + t.size)) (t := t) (i := i - (rlE log + 8)) hsz2 (by omega) (fun j hj => ?_) ?_ h3
    · by_cases hl : j < t.size
      · rw [at1 b j hl, at2 j hl]
        exact ho _ (by omega)
      · rw [at0 _ j (by omega), at0 _ j (by omega)]
    · rw [at1 b _ (by omega), at2 _ (by omega), show rlE log + 8 + (i - (rlE log + 8)) = i by omega]
      exact hn
end Go.Proofs.YtbmoimfimeiglaaGreat
namespace Go.Proofs.YtbmoimfimeiglaaGreat
open Go.RowKit Go.Deep Go.ChangeShapes Go.WideShapes
set_option linter.unusedVariables false
theorem chr_wf {r : R3} (h : ChR r) : r.wf := by
  refine ⟨by have := h.s; unfold maxLen; omega, wf_64 (by have := h.w0; omega) (by have := h.w1; omega), fun c hc => ⟨fun y hy => ?_, wf_64 (by have := h.num c hc; omega) (by have := h.num c hc; omega)⟩⟩
  obtain ⟨k0, k1, n0, n1, hs⟩ := (h.row c hc).2 y hy
  exact ⟨wf_64 (by omega) (by omega), wf_64 n0 n1, by unfold maxLen; omega⟩
theorem std_wf {x : T5} (h : StD x) : x.wf :=
  ⟨wf_64 (by have := h.k0; omega) (by have := h.k1; omega), by have := h.s; unfold maxLen; omega, fun y hy => by have := h.c y hy; unfold maxLen; omega, by have := h.q; unfold maxLen; omega, fun r hr => chr_wf (h.r r hr)⟩
theorem std_fine {x : T5} (h : StD x) (hok : okStep x = true) : ∀ r ∈ x.rs, RelFine r := by
  intro r hr
  have hb := okStep_bnd hok
  refine ⟨hb.r r hr, ?_, fun c hc => ⟨by have := (h.r r hr).num c hc; omega, fun y hy => ?_⟩⟩
  · unfold okStep at hok
    split at hok
    · simp only [Bool.and_eq_true] at hok
      have : x.rs = [] := by simpa using hok.2
      rw [this] at hr; cases hr
    split at hok
    · simp only [Bool.and_eq_true] at hok
      have : x.rs = [] := by simpa using hok.2
      rw [this] at hr; cases hr
    split at hok
    · simp only [Bool.and_eq_true] at hok
      have : x.rs = [] := by simpa using hok.2
      rw [this] at hr; cases hr
    split at hok
    · simp only [Bool.and_eq_true, okRels] at hok
      exact (okTs_each hok.2.2 r hr).2
    · cases hok
  · obtain ⟨_, _, n0, n1, _⟩ := ((h.r r hr).row c hc).2 y hy
    exact ⟨n0, n1⟩
theorem rlsL_ch : ∀ rs : List R3, (∀ r ∈ rs, ChR r) → (rlsL rs).length ≤ 9 * rs.length + chB rs
  | [], _ => by simp [rlsL, chB]
  | r :: rs, h => by
    have e : rlsL (r :: rs) = rlL r ++ rlsL rs := by unfold rlsL; rw [List.flatMap_cons]
    have e2 : chB (r :: rs) = (csN r.cs).length + chB rs := by unfold chB; simp
    have h1 := (h r (List.mem_cons_self ..)).s
    have h2 := rlsL_ch rs fun y hy => h y (List.mem_cons_of_mem _ hy)
    have h3 : (putB r.W r.cs).size ≤ (csN r.cs).length + 1 := by
      unfold putB
      split
      · rw [nums_size]; unfold bagN; simp
      · show 0 ≤ _; omega
    rw [e, e2, List.length_append, List.length_cons]
    unfold rlL
    rw [List.length_append, tN_len, tN_len]
    omega
theorem csL_ch : ∀ cs : List ByteArray, (∀ c ∈ cs, c.size ≤ 1) → (csL cs).length ≤ 3 * cs.length
  | [], _ => by simp [csL]
  | c :: cs, h => by
    have e : csL (c :: cs) = tN c 2 ++ csL cs := by unfold csL; rw [List.flatMap_cons]
    have h1 := h c (List.mem_cons_self ..)
    have h2 := csL_ch cs fun y hy => h y (List.mem_cons_of_mem _ hy)
    rw [e, List.length_append, tN_len, List.length_cons]
    omega
theorem std_size {x : T5} (h : StD x) : (putT x).size ≤ 13300 := by
  by_cases hok : okStep x = true
  · rw [putT_of hok, nums_size]
    have h1 := rlsL_ch x.rs h.r
    have h2 := csL_ch x.cs h.c
    have := h.s
    have := h.cl
    have := h.q
    have := h.rl
    have := h.cb
    unfold stepL mdL hdL
    simp only [List.length_append, szN_len, tN_len]
    omega
  · unfold putT
    rw [if_neg hok]
    show 0 ≤ _
    omega
theorem appA_size (log t : ByteArray) : (appA log t).size ≤ log.size + 8 + t.size := by
  unfold appA
  split
  · rw [ByteArray.size_append, ByteArray.size_append, ByteArray.size_append, nums_size, nums_size, szN_len, szN_len]; omega
  · omega
theorem results_tc {fn : Func} {a u : Tmp} {t : TypeId} (h : fn.results = #[.tmp u, .cell a t]) (tmps : Array Value) (P : Program) (w : World) (v : Value) (p : Addr) (hp : tmps.getD a undef = .pointer (some p)) (hl : (loadVar t p).run P w = .ok v w) : (results fn tmps).run P w = .ok (.tuple #[tmps.getD u undef, v]) w := by
  have hp2 : tmps[a]?.getD undef = .pointer (some p) := by rw [← hp]; simp
  simp [results, h, hp2, hl, asAddr]
def LogOut (B : Nat) (v : Value) (l : Nat) (w : World) (e : Ending) (w' : World) : Prop := (∃ s : ByteArray, e = .returned (.string s) ∧ s.size ≤ 53300) ∧ Drew B v l w w'
set_option maxHeartbeats 4000000 in
set_option maxRecDepth 100000 in
theorem l10Log_any (B : Nat) (v : Value) (l : Nat) (w : World) (h : Cur w B v l) :
    Calls Tryz.prog 23 #[.pointer (some ⟨B, 0, none⟩)] w fun e w' => LogOut B v l w e w' := by
  go_enter Tryz.func23, Tryz.ntmps23
  go_wp2_with fail
  refine Calls.mono (l01Below_any 5 B v l w h (by omega) (by omega)) ?_
  rintro e w1 ⟨⟨m, rfl, m0, m1⟩, hd1⟩
  obtain ⟨n, rfl⟩ : ∃ n : Nat, m = n := ⟨m.toNat, by omega⟩
  have hn : n ≤ 4 := by omega
  clear m0 m1 h
  go_wp2_with fail
  go_loopw [3, 5] (fun o i wr => ∃ (k : Nat) (s : ByteArray), k ≤ n ∧ o = .string s ∧ i = .int .i64 k ∧ s.size ≤ 13308 * k ∧ Drew B v l w wr) (fun _ i _ => n - (intOf i).toNat)
  case atStart => exact ⟨0, ⟨#[]⟩, Nat.zero_le _, rfl, rfl, by decide, hd1⟩
  case round =>
    clear hd1
    obtain ⟨k, s, hk, rfl, rfl, hs, hD⟩ := hrel
    by_cases hlt : k < n
    · have hkI : (k : Int) < n := by omega
      go_wp2_with fail
      refine Calls.mono (l10Step_any B v l wr hD.cur) ?_
      rintro e w2 ⟨⟨x, uc, ur, g, F, rfl, hO, hX⟩, hd2⟩
      have hD2 := hD.trans hd2
      obtain ⟨⟨ac, cc, rfl, _, _⟩, ar, cr, rfl, _, _⟩ := hO.is.shape
      go_wp2_with fail
      refine Calls.mono (specAppend_any s x _ _ w2 (by omega) (std_wf hX) hO.is) ?_
      rintro e w3 ⟨rfl, hb3⟩
      have hD3 := hD2.below hb3
      have hz := appA_size s (putT x)
      have hz2 := std_size hX
      generalize appA s (putT x) = s3 at *
      clear hO hX hd2 hb3 hD2 hD
      go_wp2
      exact ⟨⟨k + 1, s3, hlt, rfl, by simp, by omega, hD3⟩, by simp [intOf]; omega⟩
    · obtain rfl : k = n := by omega
      go_wp2_with fail
      refine Calls.mono (l10Spoil_any s B v l wr hD.cur (by omega)) ?_
      rintro e w2 ⟨⟨x, rfl, hx⟩, hd2⟩
      go_wp2
      go_returns
      exact ⟨⟨_, rfl, by omega⟩, hD.trans hd2⟩
def DapOut (w : World) (e : Ending) (w' : World) : Prop := (∃ (log : ByteArray) (x : T5) (uc ur : Value) (g F : List Nat), e = .returned (.tuple #[.string log, .agg #[.int .i64 x.k, .string x.s, uc, .string x.q, ur]]) ∧ log.size ≤ 53300 ∧ StpOwn w' w.heap.size uc ur x g F ∧ StD x) ∧ Below w.heap.size w w'
theorem StW.fin2 {w wr : World} {B : Nat} {v : Value} {l : Nat} {k : Int} {s : ByteArray} {cs : List ByteArray} {q : ByteArray} {rs : List R3} {uc ur : Value} {g F : List Nat} (rb : wr.heap[w.heap.size]? = some (.cells #[.int .i64 0, .string ⟨#[]⟩, .slice none 0 0, .string ⟨#[]⟩, .slice none 0 0] 27 (0, 0))) (ho : StpOwn wr (w.heap.size + 1) uc ur ⟨k, s, cs, q, rs⟩ g F) (hb : Below w.heap.size w wr) :
    (((((wr.setCell ⟨w.heap.size, 0, none⟩ (.int .i64 k)).setCell ⟨w.heap.size, 1, none⟩ (.string s)).setCell ⟨w.heap.size, 2, none⟩ uc).setCell ⟨w.heap.size, 3, none⟩ (.string q)).setCell ⟨w.heap.size, 4, none⟩ ur).cell? ⟨w.heap.size, 0, none⟩ = some (.int .i64 k) ∧
    (((((wr.setCell ⟨w.heap.size, 0, none⟩ (.int .i64 k)).setCell ⟨w.heap.size, 1, none⟩ (.string s)).setCell ⟨w.heap.size, 2, none⟩ uc).setCell ⟨w.heap.size, 3, none⟩ (.string q)).setCell ⟨w.heap.size, 4, none⟩ ur).cell? ⟨w.heap.size, 1, none⟩ = some (.string s) ∧
    (((((wr.setCell ⟨w.heap.size, 0, none⟩ (.int .i64 k)).setCell ⟨w.heap.size, 1, none⟩ (.string s)).setCell ⟨w.heap.size, 2, none⟩ uc).setCell ⟨w.heap.size, 3, none⟩ (.string q)).setCell ⟨w.heap.size, 4, none⟩ ur).cell? ⟨w.heap.size, 2, none⟩ = some uc ∧
    (((((wr.setCell ⟨w.heap.size, 0, none⟩ (.int .i64 k)).setCell ⟨w.heap.size, 1, none⟩ (.string s)).setCell ⟨w.heap.size, 2, none⟩ uc).setCell ⟨w.heap.size, 3, none⟩ (.string q)).setCell ⟨w.heap.size, 4, none⟩ ur).cell? ⟨w.heap.size, 3, none⟩ = some (.string q) ∧
    (((((wr.setCell ⟨w.heap.size, 0, none⟩ (.int .i64 k)).setCell ⟨w.heap.size, 1, none⟩ (.string s)).setCell ⟨w.heap.size, 2, none⟩ uc).setCell ⟨w.heap.size, 3, none⟩ (.string q)).setCell ⟨w.heap.size, 4, none⟩ ur).cell? ⟨w.heap.size, 4, none⟩ = some ur ∧
    StpOwn (((((wr.setCell ⟨w.heap.size, 0, none⟩ (.int .i64 k)).setCell ⟨w.heap.size, 1, none⟩ (.string s)).setCell ⟨w.heap.size, 2, none⟩ uc).setCell ⟨w.heap.size, 3, none⟩ (.string q)).setCell ⟨w.heap.size, 4, none⟩ ur) w.heap.size uc ur ⟨k, s, cs, q, rs⟩ g F ∧
    Below w.heap.size w (((((wr.setCell ⟨w.heap.size, 0, none⟩ (.int .i64 k)).setCell ⟨w.heap.size, 1, none⟩ (.string s)).setCell ⟨w.heap.size, 2, none⟩ uc).setCell ⟨w.heap.size, 3, none⟩ (.string q)).setCell ⟨w.heap.size, 4, none⟩ ur) := by
  have hc : (((((wr.setCell ⟨w.heap.size, 0, none⟩ (.int .i64 k)).setCell ⟨w.heap.size, 1, none⟩ (.string s)).setCell ⟨w.heap.size, 2, none⟩ uc).setCell ⟨w.heap.size, 3, none⟩ (.string q)).setCell ⟨w.heap.size, 4, none⟩ ur).heap[w.heap.size]? = some (.cells #[.int .i64 k, .string s, uc, .string q, ur] 27 (0, 0)) := setB (i := 4) (setB (i := 3) (setB (i := 2) (setB (i := 1) (setB (i := 0) rb))))
  obtain ⟨c0, c1, c2, c3, c4, _⟩ := cells5 hc
  refine ⟨c0, c1, c2, c3, c4, (ho.keep (by simp) fun b h1 _ => ?_).weak (by omega), ((((hb.setCell (p := ⟨w.heap.size, 0, none⟩) (Nat.le_refl _) _).setCell (p := ⟨w.heap.size, 1, none⟩) (Nat.le_refl _) _).setCell (p := ⟨w.heap.size, 2, none⟩) (Nat.le_refl _) _).setCell (p := ⟨w.heap.size, 3, none⟩) (Nat.le_refl _) _).setCell (p := ⟨w.heap.size, 4, none⟩) (Nat.le_refl _) _⟩
  iterate 5 rw [Below.heap_setCell _ _ _ _ (by simp; omega)]
set_option maxHeartbeats 4000000 in
set_option maxRecDepth 100000 in
theorem drawAppend_any (v : Value) (l : Nat) (w : World) (h : BytesB w w.heap.size v l) :
    Calls Tryz.prog 5 #[v] w fun e w' => DapOut w e w' := by
  have hb0 := (Below.refl w.heap.size w).alloc (Nat.le_refl _) (.cells #[.int .i64 0, .string ⟨#[]⟩, .slice none 0 0, .string ⟨#[]⟩, .slice none 0 0] 27)
  have hR0 := heap_alloc_new w (.cells #[.int .i64 0, .string ⟨#[]⟩, .slice none 0 0, .string ⟨#[]⟩, .slice none 0 0] 27)
  go_enter Tryz.func5, Tryz.ntmps5
  go_wp2_with fail
  refine (l01New_at (w.heap.size + 1) v l _ (by simp) (h.up hb0 (by omega))).mono ?_
  rintro e w1 ⟨rfl, hc1, hb1⟩
  have hR1 := (hb1.block w.heap.size (by simp)).trans hR0
  have hB0 := fun w2 => Drew.new (w2 := w2) (v := v) (l := l) hb0 hb1 (by simp) hc1.lt
  have hz1 := hb1.size
  simp only [World.size_alloc] at hz1
  clear hb1 hb0 h hR0
  go_wp2_with fail
  refine Calls.mono (l10Log_any _ v l w1 hc1) ?_
  rintro e w2 ⟨⟨log, rfl, hlog⟩, hd2⟩
  go_wp2_with fail
  refine Calls.mono (l10Step_any _ v l w2 hd2.cur) ?_
  rintro e w3 ⟨⟨x, uc, ur, g, F, rfl, hO, hX⟩, hd3⟩
  have hz2 := hd2.chg.size
  have hR3 := (hd2.trans hd3).cellsB hR1 (by omega)
  have hBel := hB0 w3 (hd2.trans hd3)
  obtain ⟨⟨ac, cc, rfl, _, _⟩, ar, cr, rfl, _, _⟩ := hO.is.shape
  obtain ⟨y0, y1, y2, y3, y4, hO2, hB2⟩ := StW.fin2 (B := 0) (v := v) (l := l) hR3 (hO.weak (by omega)) hBel
  obtain ⟨r0, r1, r2, r3, r4, rf⟩ := cells5 hR3
  have hRl : w.heap.size < w3.heap.size := heap_ltA hR3
  have HO : Hid _ := hO2
  have HB : Hid _ := hB2
  have HX : Hid _ := hX
  have H0 : Hid _ := y0
  have H1 : Hid _ := y1
  have H2 : Hid _ := y2
  have H3 : Hid _ := y3
  have H4 : Hid _ := y4
  clear hO2 hB2 hX y0 y1 y2 y3 y4 hO hBel hB0 hd2 hd3 hR1 hR3 hc1
  go_wp2
  exact bodyPost_ret (results_tc rfl _ _ _ _ ⟨w.heap.size, 0, none⟩ rfl (load5s H0.out H1.out H2.out H3.out H4.out)) rfl ⟨⟨log, x, _, _, g, F, rfl, hlog, HO.out, HX.out⟩, HB.out⟩
set_option maxHeartbeats 4000000 in
set_option maxRecDepth 100000 in
theorem drawGetStep_any (v : Value) (l : Nat) (w : World) (h : BytesB w w.heap.size v l) :
    Calls Tryz.prog 9 #[v] w fun e w' => (∃ s : ByteArray, e = .returned (.string s) ∧ s.size ≤ 1048576) ∧ Below w.heap.size w w' := by
  go_enter Tryz.func9, Tryz.ntmps9
  go_wp2_with fail
  refine (l01New_at w.heap.size v l _ rfl h).mono ?_
  rintro e w1 ⟨rfl, hc1, hb1⟩
  have hB0 := fun w2 => Drew.new (w2 := w2) (v := v) (l := l) (Below.refl w.heap.size w) hb1 rfl hc1.lt
  clear hb1 h
  go_wp2_with fail
  refine Calls.mono (l10Step_any _ v l w1 hc1) ?_
  rintro e w2 ⟨⟨x, uc, ur, g, F, rfl, hO, hX⟩, hd2⟩
  obtain ⟨⟨ac, cc, rfl, _, _⟩, ar, cr, rfl, _, _⟩ := hO.is.shape
  go_wp2_with fail
  refine Calls.mono (specPutStep_any x _ _ w2 (std_wf hX) hO.is) ?_
  rintro e w3 ⟨rfl, hb3⟩
  have hz := std_size hX
  have hD3 := hd2.below hb3
  generalize putT x = s at *
  clear hO hX hd2 hb3
  go_wp2_with fail
  refine Calls.mono (l10Spoil_any s _ v l w3 hD3.cur (by omega)) ?_
  rintro e w4 ⟨⟨t, rfl, ht⟩, hd4⟩
  have hB := hB0 w4 (hD3.trans hd4)
  clear hB0
  go_wp2
  go_returns
  exact ⟨⟨_, rfl, by omega⟩, hB⟩
end Go.Proofs.YtbmoimfimeiglaaGreat
namespace Go.Proofs.YtbmoimfimeiglaaGreat
open Go.RowKit Go.Deep
set_option linter.unusedVariables false
theorem ar1 {S f n : Nat} (h : f + n ≤ S) : ¬ ((S : Int) - (f : Int) < (n : Int)) := by omega
theorem ar2 {S f n : Nat} (h : f + n ≤ S) (hs : S ≤ 1048576) : wrap64 ((f : Int) + (n : Int)) = ((f + n : Nat) : Int) := by unfold wrap64; omega
theorem ar3 {S f n : Nat} (h : f + n ≤ S) (hs : S ≤ 1048576) : IntKind.i64.wrap ((f : Int) + (n : Int)) = ((f + n : Nat) : Int) := by rw [IntKind.wrap_i64]; omega
theorem ar4 {S f n : Nat} (h : ¬ f + n ≤ S) : (S : Int) - (f : Int) < (n : Int) := by omega
theorem ar5 {s : ByteArray} {f n : Nat} (hs : s.size ≤ 1048576) : (s.extract f (f + n)).size ≤ 1048576 := by rw [ByteArray.size_extract]; omega
theorem ar6 {S : Int} (h : 0 ≤ S ∧ S < 4294967296) : IntKind.i64.wrap S = S ∧ wrap64 S = S := by
  constructor
  · rw [IntKind.wrap_i64]; omega
  · unfold wrap64; omega
theorem ar7 {n : Nat} (h : n ≤ 1048576) : n ≤ maxLen := by unfold maxLen; omega
theorem ps_at (a : Nat) : ps (a, false) = (a : Int) := rfl
theorem gnV_of {s : ByteArray} {k : Nat} {q : Nat × Bool} (h : (nm s s.size k q).2.2 = false) : gnV s k q = (nm s s.size k q).1 := by unfold gnV; rw [if_neg (by rw [h]; decide)]
theorem okM_of {s : ByteArray} {a : Nat} : okM s a = (!(lB s a).2.2 && decide (lN s a ≤ s.size) && ((sumB (s.extract (lB s a).2.1 (lN s a)) : Int) == (lB s a).1) && gO (s.extract (lB s a).2.1 (lN s a))) := rfl
set_option maxHeartbeats 4000000 in
set_option maxRecDepth 100000 in
theorem specReadLog_any (s : ByteArray) (w : World) (hs : s.size ≤ 1048576) :
    Calls Tryz.prog 7 #[.string s] w fun r w' => RlOut s w r w' := by
  obtain ⟨i0, hi, hz0, hz1, hz2⟩ := info_parts infoT5
  have hE0 : StsOwn (w.alloc (.cells #[] 27)) w.heap.size (.slice (some ⟨w.heap.size, 0, none⟩) 0 0) [] [] [] := StsOwn.empty' rfl
  have bal0 : Below w.heap.size w (w.alloc (.cells #[] 27)) := (Below.refl _ _).alloc (Nat.le_refl _) _
  by_cases hbig : 100000 < s.size
  · have hbI : decide ((s.size : Int) ≤ 100000) = false := by simp; omega
    have HR : Hid (rlT s = [] ∧ rlE s = 0) := by
      show _ ∧ _
      unfold rlT rlE
      rw [if_neg (by omega), if_neg (by omega)]
      exact ⟨rfl, rfl⟩
    go_enter Tryz.func7, Tryz.ntmps7
    go_wp2
    go_loopw [4, 5] (fun y e wr => y = .slice (some ⟨w.heap.size, 0, none⟩) 0 0 ∧ e = .int .i64 0 ∧ wr = w.alloc (.cells #[] 27)) (fun _ _ _ => 0)
    case atStart => exact ⟨rfl, rfl, rfl⟩
    case round =>
      obtain ⟨rfl, rfl, rfl⟩ := hrel
      go_wp2
      go_returns
      refine ⟨⟨.slice (some ⟨w.heap.size, 0, none⟩) 0 0, [], [], ?_, ?_⟩, bal0⟩
      · rw [HR.out.2]; rfl
      · rw [HR.out.1]; exact hE0
  have hsm : s.size ≤ 100000 := by omega
  have hsI : decide ((s.size : Int) ≤ 100000) = true := by simp; omega
  clear hbig
  go_enter Tryz.func7, Tryz.ntmps7
  go_wp2
  go_loopw [4, 5] (fun y e wr => ∃ (k a : Nat) (ts : List T5) (us : List (Value × Value)) (G : List (List Nat)), e = .int .i64 a ∧ RlInv s k a ts ∧ StsOwn wr w.heap.size y ts us G ∧ Below w.heap.size w wr) (fun _ e _ => s.size - (intOf e).toNat)
  case atStart => exact ⟨_, 0, _, _, _, rfl, RlInv.start s, hE0, bal0⟩
  case round =>
    clear hE0 bal0
    obtain ⟨k, a, ts, us, G, rfl, hI, hQ, hb⟩ := hrel
    have ha := hI.at'
    have hlen := hI.len
    have hzb := hb.size
    obtain ⟨ay, cy, rfl⟩ := hQ.shape
    have HStop : Hid (okM s a = false → ∀ w', Below wr.heap.size wr w' → RlOut s w (.returned (.tuple #[.slice ay ts.length cy, .int .i64 a])) w') := fun ho w' hb' => by
      obtain ⟨h1, h2⟩ := hI.stop ho
      refine ⟨⟨.slice ay ts.length cy, us, G, ?_, ?_⟩, hb.trans (hb'.mono hzb)⟩
      · unfold rlE; rw [if_pos hsm, ← h2]
      · unfold rlT; rw [if_pos hsm, ← h1]; exact hQ.below hb'
    have hA1 : (lA s a).2.1 ≤ s.size := nm_at (s := s) (k := 4) (q := (a, false)) ha
    have hB1 := lB_at ha
    have hN1 := l10Num_any s (a, false) 4 wr ha hs (by omega)
    have hN2 := l10Num_any s (lA s a).2 4 wr hA1 hs (by omega)
    rw [ps_at] at hN1
    replace hN1 : Calls Tryz.prog 29 #[.string s, .int .i64 (a : Int), .int .i64 4] wr fun e w' => e = .returned (.tuple #[.int .i64 (gnV s 4 (a, false)), .int .i64 (ps (lA s a).2)]) ∧ w' = wr := hN1
    replace hN2 : Calls Tryz.prog 29 #[.string s, .int .i64 (ps (lA s a).2), .int .i64 4] wr fun e w' => e = .returned (.tuple #[.int .i64 (gnV s 4 (lA s a).2), .int .i64 (ps (lB s a).2)]) ∧ w' = wr := hN2
    cases ht : (lB s a).2.2
    · have hAt : (lA s a).2.2 = false := nm_torn (s := s) (e := s.size) (k := 4) ht
      rw [ps_ge ht] at hN2
      rw [gnV_of (show (nm s s.size 4 (a, false)).2.2 = false from hAt)] at hN1
      rw [gnV_of (show (nm s s.size 4 (lA s a).2).2.2 = false from ht)] at hN2
      obtain ⟨hAb1, hAb2⟩ := lA_bd ha
      obtain ⟨hBb1, hBb2⟩ := lB_bd ha
      have hOM := okM_of (s := s) (a := a)
      rw [ht] at hOM
      have hAe : (nm s s.size 4 (a, false)).1 = ((lA s a).1.toNat : Int) := by show (lA s a).1 = _; omega
      rw [hAe] at hN1
      replace hN2 : Calls Tryz.prog 29 #[.string s, .int .i64 (ps (lA s a).2), .int .i64 4] wr fun e w' => e = .returned (.tuple #[.int .i64 (lB s a).1, .int .i64 ((lB s a).2.1 : Int)]) ∧ w' = wr := hN2
      have hNx : RlInv s k a ts := hI
      have hLN : lN s a = (lB s a).2.1 + (lA s a).1.toNat := rfl
      have HNext : Hid (okM s a = true → a < lN s a ∧ ∃ k', RlInv s k' (lN s a) (ts ++ [lX s a])) := fun h => ⟨(okM_at h).1, hI.next h⟩
      have HLX : Hid (lX s a = gT (s.extract (lB s a).2.1 (lN s a))) := rfl
      generalize (lA s a).1.toNat = n at *
      generalize ps (lA s a).2 = pA at *
      generalize (lB s a).2.1 = f at *
      generalize (lB s a).1 = NB at *
      generalize lX s a = x at *
      generalize lN s a = q at *
      subst hLN
      have hneg : ¬ ((f : Int) < 0) := by omega
      have HN1 : Hid _ := hN1
      have HN2 : Hid _ := hN2
      clear hN1 hN2 hI hNx hAe hA1 hAb1 hAb2 hBb1 hBb2 hAt
      by_cases hgt : f + n ≤ s.size
      · have hcmp := ar1 hgt
        have hwa := ar2 hgt hs
        have hwi := ar3 hgt hs
        have hTz : (s.extract f (f + n)).size ≤ 1048576 := ar5 hs
        have hsb := sumB_bd (s.extract f (f + n))
        have T5' : ∀ wz : World, Calls Tryz.prog 18 #[.string (s.extract f (f + n))] wz fun e w' => e = .returned (.int .u32 (sumB (s.extract f (f + n)))) ∧ w' = wz := fun wz => specSum_any (s.extract f (f + n)) wz (ar7 hTz)
        have T6 : ∀ wz : World, Calls Tryz.prog 11 #[.string (s.extract f (f + n))] wz fun r w' => GsOut (s.extract f (f + n)) wz r w' := fun wz => specGetStep_any (s.extract f (f + n)) wz hTz
        generalize sumB (s.extract f (f + n)) = SB at *
        have HT5 : Hid _ := T5'
        have HT6 : Hid _ := T6
        clear T5' T6
        obtain ⟨hws, hwt⟩ := ar6 hsb
        cases hne : (SB == NB)
        · have hne2 : (NB != SB) = true := by
            rw [bne_iff_ne]; intro e; rw [e] at hne; simp at hne
          have hM : okM s a = false := by rw [hOM, hne]; simp
          have HS : Hid (∀ w', Below wr.heap.size wr w' → RlOut s w (.returned (.tuple #[.slice ay ts.length cy, .int .i64 a])) w') := HStop.out hM
          clear HStop HNext HLX HT6 hM
          go_wp2_with fail
          refine Calls.mono HN1.out ?_
          rintro r w1 ⟨rfl, rfl⟩
          go_wp2_with fail
          refine Calls.mono HN2.out ?_
          rintro r w1 ⟨rfl, rfl⟩
          go_wp2_with fail
          refine Calls.mono (HT5.out _) ?_
          rintro r w1 ⟨rfl, rfl⟩
          go_wp2
          go_returns
          exact HS.out _ (Below.refl _ _)
        · have hne2 : (NB != SB) = false := by
            have := eq_of_beq hne
            subst this
            simp
          have HOM : Hid (okM s a = gO (s.extract f (f + n))) := by
            show _ = _
            rw [hOM, hne, decide_eq_true hgt]; simp
          have hOx : Hid (gT (s.extract f (f + n)) = x) := HLX.out.symm
          clear hOM HLX
          go_wp2_with fail
          refine Calls.mono HN1.out ?_
          rintro r w1 ⟨rfl, rfl⟩
          go_wp2_with fail
          refine Calls.mono HN2.out ?_
          rintro r w1 ⟨rfl, rfl⟩
          go_wp2_with fail
          refine Calls.mono (HT5.out _) ?_
          rintro r w1 ⟨rfl, rfl⟩
          go_wp2_with fail
          refine Calls.mono (HT6.out _) ?_
          rintro r w3 ⟨⟨uc, ur, g, F, rfl, hO⟩, hb3⟩
          rw [hOx.out] at hO
          rw [hOx.out]
          have hz3 := hb3.size
          obtain ⟨⟨ac, cc, rfl, _, _⟩, ar, cr, rfl, _, _⟩ := hO.is.shape
          clear HT5 HT6 HN1 HN2
          cases hgo : gO (s.extract f (f + n))
          · have hM : okM s a = false := by rw [HOM.out]; exact hgo
            have HS : Hid (∀ w', Below w1.heap.size w1 w' → RlOut s w (.returned (.tuple #[.slice ay ts.length cy, .int .i64 a])) w') := HStop.out hM
            clear HStop HNext hQ
            go_wp2
            go_returns
            exact HS.out _ (bex)
          · have hM : okM s a = true := by rw [HOM.out]; exact hgo
            obtain ⟨hqa, k', hI'⟩ := HNext.out hM
            obtain ⟨hS3, hOw3⟩ := hO.stpF
            have bal : Below w3.heap.size w3 ((w3.alloc (.cells #[.int .i64 x.k, .string x.s, .slice ac x.cs.length cc, .string x.q, .slice ar x.rs.length cr] 27)).alloc (.cells #[.int .i64 x.k, .string x.s, .slice ac x.cs.length cc, .string x.q, .slice ar x.rs.length cr] 27)) := ((Below.refl _ _).alloc (Nat.le_refl _) _).alloc (by simp) _
            have bA : Below w1.heap.size w1 ((w3.alloc (.cells #[.int .i64 x.k, .string x.s, .slice ac x.cs.length cc, .string x.q, .slice ar x.rs.length cr] 27)).alloc (.cells #[.int .i64 x.k, .string x.s, .slice ac x.cs.length cc, .string x.q, .slice ar x.rs.length cr] 27)) := hb3.trans (bal.mono hz3)
            have hE4 := hQ.below bA
            have hS4 := hS3.below bal
            have hO4 := hOw3.below hS3.lt bal
            have hul := ownsRow_lt hQ.own
            have hGl := hQ.lt
            have hge : ∀ b ∈ g ++ F, w1.heap.size ≤ b := hOw3.2.1
            have hnb := alloc2_new w3 (.cells #[.int .i64 x.k, .string x.s, .slice ac x.cs.length cc, .string x.q, .slice ar x.rs.length cr] 27) (.cells #[.int .i64 x.k, .string x.s, .slice ac x.cs.length cc, .string x.q, .slice ar x.rs.length cr] 27)
            clear HStop HNext hQ hO hS3 hOw3
            go_wp2_with (at_builtin; refine wpList_append_own_at _ rfl _ _ 30 rfl w.heap.size 27 i0 _ 5 88 Tryz.underlying30 hi hz0 hz1 hz2 rfl (by decide) (.slice ay ts.length cy) ts.length (rct us ts) rfl hE4.own ⟨w3.heap.size + 1, 0, none⟩ 1 1 [.int .i64 x.k, .string x.s, .slice ac x.cs.length cc, .string x.q, .slice ar x.rs.length cr] rfl (by simp) ?c1 ?c2 ?c3 ?c4 ?c5 ?_)
            case c1 => exact World.news_of_block (cs := #[.int .i64 x.k, .string x.s, .slice ac x.cs.length cc, .string x.q, .slice ar x.rs.length cr]) (t := 27) (fr := (0, 0)) hnb
            case c2 => simp [Value.oneCell']
            case c3 => unfold maxLen; omega
            case c4 => omega
            case c5 => simp; omega
            intro v5 w5 hown5 hgr5 _ hat5
            have hsz5 := hgr5.size
            have hp := StsOwn.push (u := (.slice ac x.cs.length cc, .slice ar x.rs.length cr)) (x := x) hE4 hS4 ⟨hO4.1, fun b hb => by have := hge b hb; omega, hO4.2.2⟩ (fun b hb hb2 => by have := hge b hb2; have := hGl b hb; omega) (fun b hb hb2 => by have := hge b hb2; have := (hul b hb).2; omega) hown5 hgr5 (fun b hb5 => by
              rcases hat5 with h | h
              · left; rw [← h]; exact hb5
              · right; rw [h] at hb5; cases hb5; (first | exact Nat.le_refl _ | (simp; done) | (simp; omega)))
            have bel5 : Below w.heap.size w w5 := (hb.trans (bA.mono hzb)).grown hgr5 (by simp; omega) (fun q hq => (hul q hq).1)
            obtain ⟨a5, c5, rfl⟩ := hp.shape
            clear hown5 hgr5 hat5 hE4 hS4 hO4 hnb bA bal
            go_wp2
            exact ⟨⟨k', f + n, _, _, _, by first | rfl | (congr 1; omega), hI', hp, bel5⟩, by simp [intOf]; omega⟩
      · have hcmp := ar4 hgt
        have hM : okM s a = false := by rw [hOM, decide_eq_false hgt]; simp
        have HS : Hid (∀ w', Below wr.heap.size wr w' → RlOut s w (.returned (.tuple #[.slice ay ts.length cy, .int .i64 a])) w') := HStop.out hM
        clear HStop HNext HLX hM
        go_wp2_with fail
        refine Calls.mono HN1.out ?_
        rintro r w1 ⟨rfl, rfl⟩
        go_wp2_with fail
        refine Calls.mono HN2.out ?_
        rintro r w1 ⟨rfl, rfl⟩
        go_wp2
        go_returns
        exact HS.out _ (Below.refl _ _)
    · have hM : okM s a = false := by rw [okM_of, ht]; rfl
      have HS : Hid (∀ w', Below wr.heap.size wr w' → RlOut s w (.returned (.tuple #[.slice ay ts.length cy, .int .i64 a])) w') := HStop.out hM
      rw [ps_lt ht] at hN2
      have HN1 : Hid _ := hN1
      have HN2 : Hid _ := hN2
      clear hN1 hN2 HStop hM hQ hI
      go_wp2_with fail
      refine Calls.mono HN1.out ?_
      rintro r w1 ⟨rfl, rfl⟩
      go_wp2_with fail
      refine Calls.mono HN2.out ?_
      rintro r w1 ⟨rfl, rfl⟩
      go_wp2
      go_returns
      exact HS.out _ (Below.refl _ _)
end Go.Proofs.YtbmoimfimeiglaaGreat
namespace Go.Proofs.YtbmoimfimeiglaaGreat
open Go.RowKit Go.Deep Go.ChangeShapes Go.WideShapes
set_option linter.unusedVariables false
theorem put_again {s : ByteArray} (h : gO s = true) : putT (gT s) = s := by
  have h0 : sO s s.size (0, false) = true := h
  have h1 : (sE s s.size (0, false)).2.2 = false := by
    unfold sO sT at h0
    simp only [Bool.and_eq_true, Bool.not_eq_true', Bool.or_eq_false_iff] at h0
    exact h0.1.1
  have h2 := ((step_same s h1).2 h).2
  unfold gT
  rw [if_pos h0]
  exact h2
theorem gT_wf (s : ByteArray) (hs : s.size ≤ 1048576) : (gT s).wf := by
  unfold gT
  split
  · exact sX_wf (s := s) (e := s.size) (q := (0, false)) (Nat.le_refl _) hs (Nat.zero_le _)
  · exact ⟨wf_64 (by decide) (by decide), by unfold maxLen; decide, fun y hy => (by cases hy), by unfold maxLen; decide, fun y hy => (by cases hy)⟩
theorem Reads.len {s : ByteArray} : ∀ {ts : List T5} {a b : Nat}, Reads s a ts b → a + ts.length ≤ b
  | [], a, b, h => by have : a = b := h; simp; omega
  | t :: ts, a, b, h => by
    have h1 := (okM_at h.1).1
    have h2 := Reads.len h.2.2
    simp only [List.length_cons]
    omega
theorem rlT_len (s : ByteArray) : (rlT s).length ≤ rlE s := by
  have := (rl_reads s).1.len
  omega
structure VT (w : World) (b : Nat) (x : T5) (uc ur : Value) : Prop where
  lt : b < w.heap.size
  c0 : w.cell? ⟨b, 0, none⟩ = some (.int .i64 x.k)
  c1 : w.cell? ⟨b, 1, none⟩ = some (.string x.s)
  c2 : w.cell? ⟨b, 2, none⟩ = some uc
  c3 : w.cell? ⟨b, 3, none⟩ = some (.string x.q)
  c4 : w.cell? ⟨b, 4, none⟩ = some ur
  is : StpIs w uc ur x
theorem VT.below {w w' : World} {b : Nat} {x : T5} {uc ur : Value} (h : VT w b x uc ur) (hb : Below w.heap.size w w') : VT w' b x uc ur :=
  have e := hb.block b h.lt
  ⟨Nat.lt_of_lt_of_le h.lt hb.size, (cell_blk e).trans h.c0, (cell_blk e).trans h.c1, (cell_blk e).trans h.c2, (cell_blk e).trans h.c3, (cell_blk e).trans h.c4, h.is.below hb⟩
theorem VT.alloc {w : World} {b : Nat} {x : T5} {uc ur : Value} (h : VT w b x uc ur) (o : Obj) : VT (w.alloc o) b x uc ur := h.below ((Below.refl _ _).alloc (Nat.le_refl _) _)
theorem VT.new (w : World) (x : T5) (uc ur : Value) (h : StpIs w uc ur x) : VT (w.alloc (.cells #[.int .i64 x.k, .string x.s, uc, .string x.q, ur] 27)) w.heap.size x uc ur :=
  ⟨by simp, by simp, by simp, by simp, by simp, by simp, h.below ((Below.refl _ _).alloc (Nat.le_refl _) _)⟩
structure SL (w : World) (v : Value) (ts : List T5) : Prop where
  is : StsIs w v ts
theorem SL.below {w w' : World} {v : Value} {ts : List T5} (h : SL w v ts) (hb : Below w.heap.size w w') : SL w' v ts := ⟨h.is.below hb⟩
theorem SL.alloc {w : World} {v : Value} {ts : List T5} (h : SL w v ts) (o : Obj) : SL (w.alloc o) v ts := h.below ((Below.refl _ _).alloc (Nat.le_refl _) _)
structure ByC (w : World) (b : Nat) (s : ByteArray) : Prop where
  lt : b < w.heap.size
  c : ∀ j, j < s.size → w.cell? ⟨b, j, none⟩ = some (.int .u8 (bAt s j : Int))
  f : ∀ j, j < s.size → w.frozen? ⟨b, j, none⟩ = false
theorem ByC.below {w w' : World} {b : Nat} {s : ByteArray} (h : ByC w b s) (hb : Below w.heap.size w w') : ByC w' b s :=
  have e := hb.block b h.lt
  ⟨Nat.lt_of_lt_of_le h.lt hb.size, fun j hj => (cell_blk e).trans (h.c j hj), fun j hj => (frozen_blk e).trans (h.f j hj)⟩
theorem ByC.new {w : World} {s : ByteArray} {b cap : Nat} (hw : w.heap[b]? = some (.cells (bytesRow s cap) 5 ((bytesRow s cap).size, (bytesRow s cap).size + 1))) : ByC w b s := by
  have hz : s.size ≤ (bytesRow s cap).size := by
    unfold bytesRow
    have : s.data.size = s.size := rfl
    simp only [Array.size_append, Array.size_map, Array.size_replicate]
    omega
  refine ⟨heap_ltA hw, fun j hj => ?_, fun j hj => ?_⟩
  · have e := bytesRow_at s cap j hj
    have e2 : (s.data[j].toNat : Int) = (bAt s j : Int) := by
      have := bAt_eq s j hj
      rw [← this]
      rfl
    simp only [World.cell?, hw]
    simp only [Option.isSome_none, Bool.false_eq_true, if_false]
    rw [e, e2]
  · simp only [World.frozen?, hw]
    simp
    omega
theorem conv_new (w : World) (s : ByteArray) : ∃ cap wb, (convert 9 22 (.string s)).run Tryz.prog w = .ok (.slice (some ⟨w.heap.size, 0, none⟩) s.size cap) wb ∧ ByC wb w.heap.size s ∧ Below w.heap.size w wb := by
  refine ⟨_, _, run_bytes_of_string (P := Tryz.prog) w 9 22 5 s Tryz.underlying9 Tryz.underlying22 Tryz.underlying5, ByC.new (cap := grownCap w s.size 0 5) ?_, ?_⟩
  · exact heap_alloc_new w.drew _
  · exact ((Below.refl w.heap.size w).drew).alloc (Nat.le_refl _) _
def setB1 (s : ByteArray) (i : Nat) (z : Int) : ByteArray := ⟨(s.data.toList.set i (UInt8.ofNat z.toNat)).toArray⟩
theorem setB1_size (s : ByteArray) (i : Nat) (z : Int) : (setB1 s i z).size = s.size := by
  unfold setB1
  show (s.data.toList.set i (UInt8.ofNat z.toNat)).toArray.size = s.data.size
  simp
theorem setB1_at (s : ByteArray) (i : Nat) (z : Int) (hi : i < s.size) (h0 : 0 ≤ z) (h1 : z < 256) (j : Nat) : (bAt (setB1 s i z) j : Int) = if j = i then z else (bAt s j : Int) := by
  have hl : s.data.toList.length = s.size := rfl
  unfold bAt setB1
  rw [List.getD_eq_getElem?_getD, List.getD_eq_getElem?_getD]
  by_cases e : j = i
  · subst e
    rw [if_pos rfl, List.getElem?_set_self (by omega)]
    show ((UInt8.ofNat z.toNat).toNat : Int) = z
    rw [UInt8.toNat_ofNat']
    omega
  · rw [if_neg e, List.getElem?_set_ne (fun h => e h.symm)]
theorem ByC.set {w : World} {b : Nat} {s : ByteArray} (h : ByC w b s) {i : Nat} {z : Int} (hi : i < s.size) (h0 : 0 ≤ z) (h1 : z < 256) : ByC (w.setCell ⟨b, i, none⟩ (.int .u8 z)) b (setB1 s i z) := by
  refine ⟨by simpa using h.lt, fun j hj => ?_, fun j hj => ?_⟩
  · rw [setB1_size] at hj
    rw [setB1_at s i z hi h0 h1]
    by_cases e : j = i
    · subst e
      rw [if_pos rfl]
      exact World.cell?_setCell_same _ _ _ (h.c j hj)
    · rw [if_neg e]
      exact (World.cell?_setCell_other _ _ _ _ (by simp <;> omega)).trans (h.c j hj)
  · rw [setB1_size] at hj
    rw [World.frozen?_setCell]
    exact h.f j hj
theorem ByC.conv {w : World} {b : Nat} {s : ByteArray} (h : ByC w b s) (cap : Nat) : (convert 22 9 (.slice (some ⟨b, 0, none⟩) s.size cap)).run Tryz.prog w = .ok (.string s) w := by
  have e := run_convert_bytes_arg (P := Tryz.prog) w 22 5 Tryz.underlying22 Tryz.underlying5 b 0 s.size cap (txN s) (txN_len s) (fun i hi => ?_) 9 Tryz.underlying9
  · rw [nums_txN] at e
    exact e
  · rw [Nat.zero_add, h.c i hi]
    congr 2
    unfold txN nb bAt
    rw [List.getD_eq_getElem?_getD, List.getD_eq_getElem?_getD, List.getElem?_map]
    have hl : s.data.toList.length = s.size := rfl
    rw [List.getElem?_eq_getElem (by omega)]
    rfl
theorem xor_byte {a m : Nat} (ha : a < 256) (hm : m < 256) (h0 : m ≠ 0) : 0 ≤ bits .xor .u8 (a : Int) (m : Int) ∧ bits .xor .u8 (a : Int) (m : Int) < 256 ∧ bits .xor .u8 (a : Int) (m : Int) ≠ (a : Int) := by
  rw [u8_xor_nat a m ha hm]
  have h := Nat.xor_lt_two_pow (n := 8) ha hm
  refine ⟨by omega, by omega, fun e => h0 ?_⟩
  have e2 : a ^^^ m = a ^^^ 0 := by rw [Nat.xor_zero]; omega
  exact xor_l e2
end Go.Proofs.YtbmoimfimeiglaaGreat
