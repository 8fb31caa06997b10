/- Own text. The text of a plan. -/
import Derived.Test.YtlpgkhdmilnbgaaDoorExtP
import Derived.Test.YtlpgkhdmilnbgaaDoorTxtL
import Derived.Test.YtlpgkhdmilnbgaaDoorPlK
namespace Go.Proofs.YtlpgkhdmilnbgaaDoor
open Go.RowKit
set_option linter.unusedVariables false
theorem joinL_any (N yb yc n : Nat) (ls : List (List UInt8)) (sep : ByteArray) (w : World) (h : TxtsAt w N yb yc n ls) (hm : (Lib.join ls sep.data.toList).length ≤ 140737488355328) (hn : n ≤ 140737488355328) :
    Calls Tryd.prog 37 #[.slice (some ⟨yb, 0, none⟩) n yc, .string sep] w fun e w' => e = .returned (.string (bs (Lib.join ls sep.data.toList))) ∧ Below w.heap.size w w' := by
  obtain ⟨hc, hcell⟩ := h.cells
  have hlen : (ls.map bs).length = n := by rw [List.length_map]; exact h.2
  have h1 := Tryd.strings_Join yb 0 yc (ls.map bs) sep w hcell h.lt.2 (by omega) (by omega) (by rw [map_bs_back]; exact hm)
  rw [hlen, map_bs_back] at h1
  exact h1
theorem join_sum (ls : List (List UInt8)) (sep : List UInt8) : (Lib.join ls sep).length ≤ (ls.map fun l => l.length + sep.length).sum := by
  cases ls with
  | nil => simp [Lib.join_nil]
  | cons x r =>
    rw [Lib.join_cons, List.length_append, List.map_cons, List.sum_cons]
    have h2 : (Lib.joinTail sep r).length ≤ (r.map fun l => l.length + sep.length).sum := by
      unfold Lib.joinTail
      induction r with
      | nil => simp
      | cons y r ih =>
        rw [List.map_cons, List.flatten_cons, List.length_append, List.length_append, List.map_cons, List.sum_cons]
        omega
    omega
theorem join_push (ls : List (List UInt8)) (l sep : List UInt8) : Lib.join (ls ++ [l]) sep = if ls = [] then l else Lib.join ls sep ++ (sep ++ l) := by
  cases ls with
  | nil => simp [Lib.join_one]
  | cons x r =>
    rw [if_neg (by simp), List.cons_append, Lib.join_cons, Lib.join_cons, List.append_assoc]
    congr 1
    simp [Lib.joinTail]
/-- expressions in square brackets. -/
def esTs (es : List E7) : List (List UInt8) := es.map expText
def lstT (es : List E7) : List UInt8 := 91 :: (Lib.join (esTs es) [44, 32] ++ [93])
theorem esTs_take {es : List E7} {k : Nat} {x : E7} (h : es[k]? = some x) : esTs (es.take (k + 1)) = esTs (es.take k) ++ [expText x] := by
  obtain ⟨hk, rfl⟩ := List.getElem?_eq_some_iff.1 h
  unfold esTs
  rw [List.take_succ_eq_append_getElem hk, List.map_append]
  rfl
theorem expText_len (e : E7) (w : World) (d : Nat) (u : Value) (F : List Nat) (hw : e.wf) (hk : KidsIs w d u e.ks F) : (expText e).length ≤ 2539520 := by
  unfold expText
  split
  · rename_i h
    have := expT_len 13 e w d u F hw hk h
    have e2 : 310 * 2 ^ 13 = 2539520 := by decide
    omega
  · simp
theorem esT_len {w : World} {d : Nat} {u : Value} {es : List E7} {F : List Nat} (hk : KidsIs w d u es F) : ∀ x ∈ es, (expText x).length ≤ 2539520 := by
  intro x hx
  obtain ⟨d', rfl⟩ := succX hk
  obtain ⟨hw, u', F', hk'⟩ := kidX_of hk hx
  exact expText_len x w d' u' F' hw hk'
theorem joinE_len {w : World} {d : Nat} {u : Value} {es : List E7} {F : List Nat} (hk : KidsIs w d u es F) (k : Nat) : (Lib.join (esTs (es.take k)) [44, 32]).length ≤ 2539522 * es.length := by
  have h1 := join_len (esTs (es.take k)) [44, 32] 2539520 (fun l hl => by
    obtain ⟨x, hx, rfl⟩ := List.mem_map.1 hl
    exact esT_len hk x (List.mem_of_mem_take hx))
  have h2 : (esTs (es.take k)).length ≤ es.length := by simp [esTs]; omega
  have h3 : (2539520 + ([44, 32] : List UInt8).length) * (esTs (es.take k)).length ≤ 2539522 * es.length := Nat.mul_le_mul_left 2539522 h2
  omega
/-- the text of a plan of at most f levels. -/
def planT : Nat → P12 → List UInt8
  | 0, _ => []
  | f + 1, p => if p.k = 0 then p.s.data.toList
      else if p.k = 1 then [102, 105, 108, 116, 101, 114, 40] ++ (expText p.e ++ ([44, 32] ++ (Lib.join (p.ks.map (planT f)) [44, 32] ++ [41])))
      else if p.k = 2 then [112, 114, 111, 106, 101, 99, 116, 40] ++ (lstT p.es ++ ([44, 32] ++ (Lib.join (p.ks.map (planT f)) [44, 32] ++ [41])))
      else if p.k = 3 then [106, 111, 105, 110, 40] ++ (expText p.e ++ ([44, 32] ++ (Lib.join (p.ks.map (planT f)) [44, 32] ++ [41])))
      else if p.k = 4 then [117, 110, 105, 111, 110, 40] ++ (Lib.join (p.ks.map (planT f)) [44, 32] ++ [41])
      else if p.k = 5 then [100, 105, 115, 116, 105, 110, 99, 116, 40] ++ (Lib.join (p.ks.map (planT f)) [44, 32] ++ [41])
      else if p.k = 6 then [103, 114, 111, 117, 112, 40] ++ (Lib.itoa p.n ++ ([44, 32] ++ (lstT p.es ++ ([44, 32] ++ (Lib.join (p.ks.map (planT f)) [44, 32] ++ [41])))))
      else []
/-- the texts of a plan's kids, joined. -/
def ksT (f : Nat) (p : P12) : List UInt8 := Lib.join (p.ks.map (planT f)) [44, 32]
theorem planT_0 {f : Nat} {p : P12} (h : p.k = 0) : planT (f + 1) p = p.s.data.toList := by rw [planT, if_pos h]
theorem planT_1 {f : Nat} {p : P12} (h : p.k = 1) : planT (f + 1) p = [102, 105, 108, 116, 101, 114, 40] ++ (expText p.e ++ ([44, 32] ++ (ksT f p ++ [41]))) := by rw [planT, h]; rfl
theorem planT_2 {f : Nat} {p : P12} (h : p.k = 2) : planT (f + 1) p = [112, 114, 111, 106, 101, 99, 116, 40] ++ (lstT p.es ++ ([44, 32] ++ (ksT f p ++ [41]))) := by rw [planT, h]; rfl
theorem planT_3 {f : Nat} {p : P12} (h : p.k = 3) : planT (f + 1) p = [106, 111, 105, 110, 40] ++ (expText p.e ++ ([44, 32] ++ (ksT f p ++ [41]))) := by rw [planT, h]; rfl
theorem planT_4 {f : Nat} {p : P12} (h : p.k = 4) : planT (f + 1) p = [117, 110, 105, 111, 110, 40] ++ (ksT f p ++ [41]) := by rw [planT, h]; rfl
theorem planT_5 {f : Nat} {p : P12} (h : p.k = 5) : planT (f + 1) p = [100, 105, 115, 116, 105, 110, 99, 116, 40] ++ (ksT f p ++ [41]) := by rw [planT, h]; rfl
theorem planT_6 {f : Nat} {p : P12} (h : p.k = 6) : planT (f + 1) p = [103, 114, 111, 117, 112, 40] ++ (Lib.itoa p.n ++ ([44, 32] ++ (lstT p.es ++ ([44, 32] ++ (ksT f p ++ [41]))))) := by rw [planT, h]; rfl
theorem planT_x {f : Nat} {p : P12} (h0 : ¬ p.k = 0) (h1 : ¬ p.k = 1) (h2 : ¬ p.k = 2) (h3 : ¬ p.k = 3) (h4 : ¬ p.k = 4) (h5 : ¬ p.k = 5) (h6 : ¬ p.k = 6) : planT (f + 1) p = [] := by
  rw [planT, if_neg h0, if_neg h1, if_neg h2, if_neg h3, if_neg h4, if_neg h5, if_neg h6]
theorem kidP_of {w : World} {D d : Nat} {u : Value} {ps : List P12} {F : List Nat} (h : PlansIs w D (d + 1) u ps F) {x : P12} (hx : x ∈ ps) : x.wf ∧ ∃ ue us u' g, ListsP w D (PlansIs w D d) x ue us u' g := by
  obtain ⟨a, c, G, rfl, _, _, hG, _, h⟩ := h
  obtain ⟨b, o, rfl, _, _, hL⟩ := h (List.ne_nil_of_mem hx)
  obtain ⟨i, hi, rfl⟩ := List.mem_iff_getElem.1 hx
  have hi' : i < G.length := by omega
  obtain ⟨hw, ue, us, u, _, hk⟩ := hL i ps[i] G[i] (by simp) (by simp)
  exact ⟨hw, ue, us, u, G[i], hk⟩
theorem succP {w : World} {D d : Nat} {u : Value} {ps : List P12} {F : List Nat} (h : PlansIs w D d u ps F) : ∃ d', d = d' + 1 := by
  cases d with
  | zero => exact h.elim
  | succ d => exact ⟨d, rfl⟩
theorem ks_sum (f : P12 → List UInt8) (M : Nat) : ∀ (ks : List P12), (∀ k ∈ ks, (f k).length + 2 ≤ M * (1 + wtP k)) → ((ks.map f).map fun l => l.length + 2).sum ≤ M * (ks.length + wtPs ks)
  | [], _ => by simp
  | k :: ks, h => by
    have h1 := h k (by simp)
    have h2 := ks_sum f M ks (fun x hx => h x (by simp [hx]))
    rw [List.map_cons, List.map_cons, List.sum_cons, List.length_cons, wtPs]
    have e1 : M * (ks.length + 1 + (wtP k + wtPs ks)) = M * (1 + wtP k) + M * (ks.length + wtPs ks) := by rw [← Nat.mul_add]; congr 1; omega
    rw [e1]
    omega
def PL (f : Nat) : Prop := ∀ (p : P12) (w : World) (D d : Nat) (ue us u : Value) (g : List Nat), p.wf → ListsP w D (PlansIs w D d) p ue us u g → (planT f p).length + 2 ≤ 4000000 * (1 + wtP p)
theorem ksT_len {f : Nat} (ih : PL f) {p : P12} {w : World} {D d : Nat} {ue us u : Value} {g : List Nat} (hL : ListsP w D (PlansIs w D d) p ue us u g) (k : Nat) : (Lib.join ((p.ks.take k).map (planT f)) [44, 32]).length ≤ 4000000 * (p.ks.length + wtPs p.ks) := by
  obtain ⟨Fe, Fs, h, rfl, ke, kes, kp⟩ := hL
  obtain ⟨d', rfl⟩ := succP kp
  have h1 := ks_sum (planT f) 4000000 (p.ks.take k) (fun k hk => by
    obtain ⟨kw, a1, a2, a3, a4, a5⟩ := kidP_of kp (List.mem_of_mem_take hk)
    exact ih k w D d' a1 a2 a3 a4 kw a5)
  have h2 : wtPs (p.ks.take k) ≤ wtPs p.ks := by
    conv => rhs; rw [← List.take_append_drop k p.ks]
    rw [wtPs_app]
    omega
  have h3 : (p.ks.take k).length ≤ p.ks.length := by simp; omega
  have h4 : 4000000 * ((p.ks.take k).length + wtPs (p.ks.take k)) ≤ 4000000 * (p.ks.length + wtPs p.ks) := Nat.mul_le_mul_left _ (by omega)
  exact Nat.le_trans (join_sum _ _) (Nat.le_trans h1 h4)
theorem ksT_len' {f : Nat} (ih : PL f) {p : P12} {w : World} {D d : Nat} {ue us u : Value} {g : List Nat} (hL : ListsP w D (PlansIs w D d) p ue us u g) : (ksT f p).length ≤ 4000000 * (p.ks.length + wtPs p.ks) := by
  have := ksT_len ih hL p.ks.length
  rw [List.take_length] at this
  exact this
theorem lstT_len {w : World} {d : Nat} {u : Value} {es : List E7} {F : List Nat} (hk : KidsIs w d u es F) : (lstT es).length ≤ 2 + 2539522 * es.length := by
  have := joinE_len hk es.length
  rw [List.take_length] at this
  simp only [lstT, List.length_cons, List.length_append, List.length_nil]
  omega
theorem planT_len : ∀ f, PL f
  | 0 => fun p w D d ue us u g hw hL => by
    show (0 : Nat) + 2 ≤ _
    omega
  | f + 1 => fun p w D d ue us u g hw hL => by
    have hk := ksT_len' (planT_len f) hL
    obtain ⟨Fe, Fs, h, rfl, ke, kes, kp⟩ := hL
    have he := expText_len p.e w D ue Fe hw.2.2.1 ke
    have hl := lstT_len kes
    have hwt := wtP_eq p
    obtain ⟨n0, n1⟩ := wf64X p.n hw.2.2.2
    have hi := Lib.itoa_length_le p.n n0 n1
    have hs : p.s.data.toList.length = p.s.size := Array.length_toList
    by_cases h0 : p.k = 0
    · rw [planT_0 h0]; omega
    by_cases h1 : p.k = 1
    · rw [planT_1 h1]; simp only [List.length_append, List.length_cons, List.length_nil]; omega
    by_cases h2 : p.k = 2
    · rw [planT_2 h2]; simp only [List.length_append, List.length_cons, List.length_nil]; omega
    by_cases h3 : p.k = 3
    · rw [planT_3 h3]; simp only [List.length_append, List.length_cons, List.length_nil]; omega
    by_cases h4 : p.k = 4
    · rw [planT_4 h4]; simp only [List.length_append, List.length_cons, List.length_nil]; omega
    by_cases h5 : p.k = 5
    · rw [planT_5 h5]; simp only [List.length_append, List.length_cons, List.length_nil]; omega
    by_cases h6 : p.k = 6
    · rw [planT_6 h6]; simp only [List.length_append, List.length_cons, List.length_nil]; omega
    rw [planT_x h0 h1 h2 h3 h4 h5 h6]
    simp
    omega
theorem ks_take {f : Nat} {ks : List P12} {k : Nat} {x : P12} (h : ks[k]? = some x) : (ks.take (k + 1)).map (planT f) = (ks.take k).map (planT f) ++ [planT f x] := by
  obtain ⟨hk, rfl⟩ := List.getElem?_eq_some_iff.1 h
  rw [List.take_succ_eq_append_getElem hk, List.map_append]
  rfl
theorem hidE {α : Type} (a : α) : ∃ x, Hid (a = x) := ⟨a, show a = a from rfl⟩
end Go.Proofs.YtlpgkhdmilnbgaaDoor
