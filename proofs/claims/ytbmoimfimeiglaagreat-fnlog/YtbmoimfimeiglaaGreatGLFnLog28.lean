/- Own texts, joined: contracts that the law's proof goes by. -/
import Derived.Test.YtbmoimfimeiglaaGreatGLFnLog23
import Derived.Test.YtbmoimfimeiglaaGreatGLFnLog26
namespace Go.Proofs.YtbmoimfimeiglaaGreat
open Go.RowKit
set_option linter.unusedVariables false
set_option linter.unusedSimpArgs false
theorem num_back (n : Int) (h0 : -9223372036854775808 ≤ n) (h1 : n ≤ 9223372036854775807) : wrap64 (be (((List.range 8).map (numB n)).map (fun n => UInt8.ofNat n.toNat))) = n := by
  have e : (List.range 8).map (numB n) = [numB n 0, numB n 1, numB n 2, numB n 3, numB n 4, numB n 5, numB n 6, numB n 7] := rfl
  have hb : ∀ x : Int, 0 ≤ x → x < 256 → ((UInt8.ofNat x.toNat).toNat : Int) = x := by
    intro x h0 h1
    rw [UInt8.toNat_ofNat']
    omega
  have hu : 0 ≤ IntKind.u64.wrap n ∧ IntKind.u64.wrap n < 18446744073709551616 ∧ (IntKind.u64.wrap n = n ∨ IntKind.u64.wrap n = n + 18446744073709551616) := by rw [IntKind.wrap_u64]; omega
  rw [e]
  simp only [List.map_cons, List.map_nil]
  rw [be8]
  simp only [numB]
  generalize IntKind.u64.wrap n = u at hu ⊢
  rw [hb _ (by omega) (by omega), hb _ (by omega) (by omega), hb _ (by omega) (by omega), hb _ (by omega) (by omega), hb _ (by omega) (by omega), hb _ (by omega) (by omega), hb _ (by omega) (by omega), hb _ (by omega) (by omega)]
  have hs : ((((((((u / 2 ^ (8 * (7 - 0)) % 256) * 256 + (u / 2 ^ (8 * (7 - 1)) % 256)) * 256 + (u / 2 ^ (8 * (7 - 2)) % 256)) * 256 + (u / 2 ^ (8 * (7 - 3)) % 256)) * 256 + (u / 2 ^ (8 * (7 - 4)) % 256)) * 256 + (u / 2 ^ (8 * (7 - 5)) % 256)) * 256 + (u / 2 ^ (8 * (7 - 6)) % 256)) * 256 + (u / 2 ^ (8 * (7 - 7)) % 256)) = u := by
    simp only [show (8 * (7 - 0) : Nat) = 56 from rfl, show (8 * (7 - 1) : Nat) = 48 from rfl, show (8 * (7 - 2) : Nat) = 40 from rfl, show (8 * (7 - 3) : Nat) = 32 from rfl, show (8 * (7 - 4) : Nat) = 24 from rfl, show (8 * (7 - 5) : Nat) = 16 from rfl, show (8 * (7 - 6) : Nat) = 8 from rfl, show (8 * (7 - 7) : Nat) = 0 from rfl]
    omega
  rw [hs]
  unfold wrap64
  omega
theorem data_app (a b : ByteArray) : (a ++ b).data.toList = a.data.toList ++ b.data.toList := by rw [ByteArray.data_append, Array.toList_append]
end Go.Proofs.YtbmoimfimeiglaaGreat
namespace Go.Proofs.YtbmoimfimeiglaaGreat
open Go.RowKit
set_option linter.unusedVariables false
set_option linter.unusedSimpArgs false
theorem at_list (s : ByteArray) (a j : Nat) : bAt s (a + j) = ((s.data.toList.drop a).getD j 0).toNat := by
  unfold bAt
  rw [List.getD_eq_getElem?_getD, List.getD_eq_getElem?_getD, List.getElem?_drop]
theorem size_list {s : ByteArray} {a : Nat} {l : List UInt8} (h : s.data.toList.drop a = l) (hl : 0 < l.length) : a + l.length = s.size := by
  have e := congrArg List.length h
  rw [List.length_drop] at e
  have : s.data.toList.length = s.size := rfl
  omega
theorem drop_more {s : ByteArray} {a : Nat} {l r : List UInt8} (h : s.data.toList.drop a = l ++ r) : s.data.toList.drop (a + l.length) = r := by
  rw [← List.drop_drop, h, List.drop_left']
  rfl
theorem val_at (s : ByteArray) (a : Nat) (x : V3) (rest : List UInt8) (h0 : -9223372036854775808 ≤ x.n) (h1 : x.n ≤ 9223372036854775807) (hok : okB x.k x.n x.s = true) (hd : s.data.toList.drop a = vB x ++ rest) :
    getT s a = (x.k, x.n, x.s, (a : Int) + ((vB x).length : Int)) := by
  obtain ⟨k, n, t⟩ := x
  dsimp only at *
  unfold vB at *
  dsimp only at *
  by_cases k0 : k = 0
  · subst k0
    have h := hok
    rw [okB_0] at h
    simp at h
    obtain ⟨rfl, h⟩ := h
    obtain rfl := nil_of t h
    rw [putS_0 _ _ hok, strOfNums_data] at hd ⊢
    have hz := size_list hd (by simp)
    simp at hz
    rw [getT_in s a (by omega), getN_0 _ _ (by have := at_list s a 0; rw [hd] at this; simpa using this)]
    rfl
  by_cases k1 : k = 1
  · subst k1
    have h := hok
    rw [okB_1] at h
    simp at h
    obtain rfl := nil_of t h
    rw [putS_1 _ _ hok, strOfNums_data] at hd ⊢
    have hl : (List.map (fun n => UInt8.ofNat n.toNat) (numL n 8)).length = 9 := by rw [List.length_map, numL_len]
    have hz := size_list hd (by rw [List.length_append]; omega)
    rw [List.length_append, hl] at hz
    rw [getT_in s a (by omega), getN_1 _ _ (by have e := at_list s a 0; rw [hd] at e; exact e.trans rfl) (by omega), hl]
    have : numAt s (a + 1) = n := by
      unfold numAt
      rw [← List.drop_drop, hd]
      have e : (List.drop 1 (List.map (fun n => UInt8.ofNat n.toNat) (numL n 8) ++ rest)).take 8 = ((List.range 8).map (numB n)).map (fun n => UInt8.ofNat n.toNat) := rfl
      rw [e]
      exact num_back n h0 h1
    rw [this]
    rfl
  by_cases k2 : k = 2
  · subst k2
    have h := hok
    rw [okB_2] at h
    simp at h
    obtain ⟨hn, h⟩ := h
    obtain rfl := nil_of t h
    rw [putS_2 _ _ hok, strOfNums_data] at hd ⊢
    have hz := size_list hd (by simp)
    simp at hz
    have hb : bAt s (a + 1) = n.toNat := by
      have := at_list s a 1
      rw [hd] at this
      rw [this]
      show (UInt8.ofNat n.toNat).toNat = n.toNat
      rw [UInt8.toNat_ofNat']; omega
    rw [getT_in s a (by omega), getN_2 _ _ (by have := at_list s a 0; rw [hd] at this; simpa using this) (by omega) (by rw [hb]; omega), hb]
    rw [show ((n.toNat : Nat) : Int) = n by omega]
    rfl
  by_cases k3 : k = 3
  · subst k3
    have h := hok
    rw [okB_3] at h
    simp at h
    obtain ⟨rfl, hs⟩ := h
    have hv : (putS 3 0 t).data.toList = 3 :: UInt8.ofNat t.size :: t.data.toList := by rw [putS_3 _ _ hok, data_app, strOfNums_data]; rfl
    rw [hv] at hd ⊢
    have htl : t.data.toList.length = t.size := rfl
    have hz := size_list hd (by simp)
    simp at hz
    have hb : bAt s (a + 1) = t.size := by
      have := at_list s a 1
      rw [hd] at this
      rw [this]
      show (UInt8.ofNat t.size).toNat = t.size
      rw [UInt8.toNat_ofNat']; omega
    rw [getT_in s a (by omega), getN_3 _ _ (by have := at_list s a 0; rw [hd] at this; simpa using this) (by omega) (by rw [hb]; omega) (by rw [hb]; exact hs), hb]
    have he : s.extract (a + 2) (a + 2 + t.size) = t := by
      apply ByteArray.ext
      apply Array.toList_inj.1
      rw [extract_list, ← List.drop_drop, hd]
      show List.take (a + 2 + t.size - (a + 2)) (t.data.toList ++ rest) = t.data.toList
      rw [show a + 2 + t.size - (a + 2) = t.data.toList.length by omega, List.take_left']
      rfl
    rw [he]
    simp
    omega
  · exfalso
    rw [okB_x k n t k0 k1 k2 k3] at hok
    cases hok
def NumOk (x : V3) : Prop := -9223372036854775808 ≤ x.n ∧ x.n ≤ 9223372036854775807
theorem vals_at (s : ByteArray) : ∀ (vs : List V3) (a : Nat) (rest : List UInt8), (∀ x ∈ vs, NumOk x ∧ okW x = true) → s.data.toList.drop a = rowU vs ++ rest →
    valsV s vs.length a = vs ∧ valsJ s vs.length a = (a : Int) + ((rowU vs).length : Int)
  | [], a, rest, _, _ => ⟨rfl, by simp [valsJ, rowU]⟩
  | x :: vs, a, rest, ho, hd => by
    have e : rowU (x :: vs) = vB x ++ rowU vs := by unfold rowU vB; rw [List.flatMap_cons]
    rw [e, List.append_assoc] at hd
    have hx := ho x (List.mem_cons_self ..)
    have hg := val_at s a x _ hx.1.1 hx.1.2 hx.2 hd
    have hV : tV s a = x := by unfold tV; rw [hg]
    have hJ : tJ s a = ((a + (vB x).length : Nat) : Int) := by unfold tJ; rw [hg]; simp
    have ih := vals_at s vs (a + (vB x).length) rest (fun y hy => ho y (List.mem_cons_of_mem _ hy)) (drop_more hd)
    refine ⟨?_, ?_⟩
    · show tV s a :: valsV s vs.length (tJ s a) = x :: vs
      rw [hV, hJ, ih.1]
    · show valsJ s vs.length (tJ s a) = _
      rw [hJ, ih.2, e, List.length_append]
      omega
theorem run_at (s : ByteArray) (W : Nat) : ∀ (cs : List C2) (n a : Nat) (acc : List C2), cs.length < n → acc.length + cs.length ≤ 400 → (∀ c ∈ cs, c.r.length = W ∧ (-9223372036854775808 ≤ c.n ∧ c.n ≤ 9223372036854775807) ∧ ∀ x ∈ c.r, NumOk x ∧ okW x = true) → s.data.toList.drop a = csU cs →
    runI s W n a acc = some (acc ++ cs)
  | [], n, a, acc, hn, hl, ho, hd => by
    obtain ⟨n, rfl⟩ : ∃ m, n = m + 1 := ⟨n - 1, by simp at hn; omega⟩
    have hz : s.size ≤ a := by
      have e := congrArg List.length hd
      rw [List.length_drop] at e
      have : s.data.toList.length = s.size := rfl
      simp [csU] at e
      omega
    rw [runI, if_neg (by omega)]
    simp
  | c :: cs, n, a, acc, hn, hl, ho, hd => by
    obtain ⟨n, rfl⟩ : ∃ m, n = m + 1 := ⟨n - 1, by simp at hn; omega⟩
    obtain ⟨hW, hnn, hvs⟩ := ho c (List.mem_cons_self ..)
    have hok : okB 1 c.n ⟨#[]⟩ = true := by rw [okB_1]; simp
    have hv : vB ⟨1, c.n, ⟨#[]⟩⟩ = (numL c.n 8).map (fun n => UInt8.ofNat n.toNat) := by unfold vB; rw [putS_1 _ _ hok, strOfNums_data]
    have hlen : (vB ⟨1, c.n, ⟨#[]⟩⟩).length = 9 := by rw [hv, List.length_map, numL_len]
    rw [csU_cons, ← hv, List.append_assoc] at hd
    have hz := size_list hd (by rw [List.length_append]; omega)
    have hg := val_at s a ⟨1, c.n, ⟨#[]⟩⟩ _ hnn.1 hnn.2 hok hd
    have hV : tV s a = ⟨1, c.n, ⟨#[]⟩⟩ := by unfold tV; rw [hg]
    have hJ : tJ s a = ((a + (vB ⟨1, c.n, ⟨#[]⟩⟩).length : Nat) : Int) := by unfold tJ; rw [hg]; simp
    have hd2 := drop_more hd
    have hr := vals_at s c.r _ _ hvs hd2
    rw [hW] at hr
    have hE : endS s W a = ((a + (vB ⟨1, c.n, ⟨#[]⟩⟩).length + (rowU c.r).length : Nat) : Int) := by unfold endS; rw [hJ, hr.2]; simp
    have hS : rowS s W a = c := by
      unfold rowS
      rw [hJ, hr.1, hV]
    rw [List.length_append] at hz
    have h1 : acc.length + (cs.length + 1) ≤ 400 := hl
    have h2 : cs.length + 1 < n + 1 := hn
    rw [runI, if_pos ⟨by omega, by omega⟩, hV, hE, hS, if_neg (by simp only []; omega)]
    rw [run_at s W cs n _ _ (by omega) (by rw [List.length_append]; simp; omega) (fun y hy => ho y (List.mem_cons_of_mem _ hy)) (drop_more hd2)]
    simp
theorem okCs_row {W : Int} : ∀ {cs : List C2} {p : Option C2}, okCs W p cs = true → ∀ c ∈ cs, okRow c.r W = true
  | [], _, _, c, hc => by simp at hc
  | x :: xs, p, h, c, hc => by
    simp only [okCs, Bool.and_eq_true] at h
    rcases List.mem_cons.1 hc with rfl | hc
    · exact h.1.1.1
    · exact okCs_row h.2 c hc
theorem csU_pos : ∀ (cs : List C2), cs.length ≤ (csU cs).length
  | [] => by simp
  | c :: cs => by
    rw [csU_cons, List.length_append, List.length_append, List.length_map, numL_len]
    have := csU_pos cs
    simp
    omega
theorem bag_back {W : Int} {cs : List C2} (hok : okBag W cs = true) (hn : ∀ c ∈ cs, (-9223372036854775808 ≤ c.n ∧ c.n ≤ 9223372036854775807) ∧ ∀ x ∈ c.r, NumOk x) :
    0 < (putB W cs).size ∧ aW (putB W cs) = W ∧ aC (putB W cs) = cs ∧ aB (putB W cs) = true := by
  obtain ⟨hW0, hW1, hl, _⟩ := okBag_facts hok
  have ho : okCs W none cs = true := by
    unfold okBag at hok
    simp only [Bool.and_eq_true] at hok
    exact hok.2
  have hdat : (putB W cs).data.toList = UInt8.ofNat W.toNat :: csU cs := by
    unfold putB
    rw [if_pos hok, strOfNums_data]
    unfold bagN
    rw [List.map_cons, csN_back]
  have hsz : (putB W cs).size = 1 + (csU cs).length := by
    have : (putB W cs).data.toList.length = (putB W cs).size := rfl
    rw [← this, hdat, List.length_cons]; omega
  generalize putB W cs = s at hdat hsz ⊢
  have hb0 : bAt s 0 = W.toNat := by
    unfold bAt
    rw [hdat]
    show (UInt8.ofNat W.toNat).toNat = W.toNat
    rw [UInt8.toNat_ofNat']; omega
  have hd1 : s.data.toList.drop 1 = csU cs := by rw [hdat]; rfl
  have hcl := csU_pos cs
  have hrun : runI s W.toNat (s.size + 1) (1 : Nat) [] = some ([] ++ cs) := run_at s W.toNat cs (s.size + 1) 1 [] (by omega) (by simpa using hl) (fun c hc => by
    have hr := okCs_row ho c hc
    unfold okRow at hr
    simp only [Bool.and_eq_true, decide_eq_true_eq, List.all_eq_true] at hr
    exact ⟨by omega, (hn c hc).1, fun x hx => ⟨(hn c hc).2 x hx, hr.2 x hx⟩⟩) hd1
  have hans : ansB s = some cs := by
    unfold ansB resI
    rw [if_neg (by omega), hb0]
    have h1 : runI s W.toNat (s.size + 1) 1 [] = some cs := hrun
    rw [h1]
    dsimp only
    rw [show ((W.toNat : Nat) : Int) = W by omega, if_pos hok]
  obtain ⟨e1, e2, e3⟩ := ans_some hans
  exact ⟨by omega, by rw [e1, hb0]; omega, e2, e3⟩
end Go.Proofs.YtbmoimfimeiglaaGreat
