/- Own text. The names of the tables of a plan: ascending, each once. -/
import Derived.Test.YtjhcachbaebhfaaPlK
import Derived.Test.YtjhcachbaebhfaaNodK
import Derived.Handy
namespace Go.Proofs.Ytjhcachbaebhfaa
open Go.RowKit Go.Deep
set_option linter.unusedVariables false
theorem bytes_same {x y : ByteArray} (h : x.toList = y.toList) : x = y := by
  rw [ByteArray.toList_eq, ByteArray.toList_eq] at h
  exact ByteArray.ext (Array.toList_inj.1 h)
theorem bl_irrefl : ∀ (x : List UInt8), Op.bytesLess x x = false
  | [] => by simp [Op.bytesLess]
  | a :: x => by
    have e : ¬ a < a := by simp
    simp [Op.bytesLess, e, bl_irrefl x]
theorem bl_total : ∀ {x y : List UInt8}, Op.bytesLess x y = false → x ≠ y → Op.bytesLess y x = true
  | [], [], _, h => absurd rfl h
  | [], b :: y, h, _ => by simp [Op.bytesLess] at h
  | a :: x, [], _, _ => by simp [Op.bytesLess]
  | a :: x, b :: y, h, hn => by
    simp only [Op.bytesLess] at h ⊢
    rcases Nat.lt_trichotomy a.toNat b.toNat with h1 | h1 | h1
    · have e : a < b := by simp [UInt8.lt_iff_toNat_lt]; omega
      simp [e] at h
    · obtain rfl : a = b := UInt8.toNat_inj.1 h1
      have e : ¬ a < a := by simp
      simp [e] at h ⊢
      exact bl_total h (by rintro rfl; exact hn rfl)
    · have e : b < a := by simp [UInt8.lt_iff_toNat_lt]; omega
      simp [e]
theorem bl_cons {a b : UInt8} {x y : List UInt8} : Op.bytesLess (a :: x) (b :: y) = true ↔ a.toNat < b.toNat ∨ (a = b ∧ Op.bytesLess x y = true) := by
  simp only [Op.bytesLess]
  rcases Nat.lt_trichotomy a.toNat b.toNat with h1 | h1 | h1
  · have e : a < b := by simp [UInt8.lt_iff_toNat_lt]; omega
    simp [e, h1]
  · obtain rfl : a = b := UInt8.toNat_inj.1 h1
    have e : ¬ a < a := by simp
    simp [e]
  · have e : ¬ a < b := by simp [UInt8.lt_iff_toNat_lt]; omega
    have e' : ¬ a = b := by rintro rfl; omega
    simp [e, e']
    omega
theorem bl_trans : ∀ {x y z : List UInt8}, Op.bytesLess x y = true → Op.bytesLess y z = true → Op.bytesLess x z = true
  | [], [], _, h, _ => by simp [Op.bytesLess] at h
  | [], _ :: _, [], _, h => by simp [Op.bytesLess] at h
  | [], _ :: _, _ :: _, _, _ => by simp [Op.bytesLess]
  | _ :: _, [], _, h, _ => by simp [Op.bytesLess] at h
  | _ :: _, _ :: _, [], _, h => by simp [Op.bytesLess] at h
  | a :: x, b :: y, c :: z, h1, h2 => by
    rw [bl_cons] at h1 h2 ⊢
    rcases h1 with h1 | ⟨rfl, h1⟩
    · rcases h2 with h2 | ⟨rfl, h2⟩
      · exact .inl (by omega)
      · exact .inl h1
    · rcases h2 with h2 | ⟨rfl, h2⟩
      · exact .inl h2
      · exact .inr ⟨rfl, bl_trans h1 h2⟩
/-- whether the text x is less than the text y. -/
abbrev lessS (x y : ByteArray) : Prop := Op.bytesLess x.toList y.toList = true
theorem lessS_no (x : ByteArray) : ¬ lessS x x := by unfold lessS; rw [bl_irrefl]; simp
theorem lessS_trans {x y z : ByteArray} (h1 : lessS x y) (h2 : lessS y z) : lessS x z := bl_trans h1 h2
theorem lessS_or {x y : ByteArray} (h : ¬ lessS x y) (hn : x ≠ y) : lessS y x := bl_total (by unfold lessS at h; simpa using h) fun e => hn (bytes_same e)
/-- an ascending list with one more, where it is not there. -/
def addS : List ByteArray → ByteArray → List ByteArray
  | [], x => [x]
  | y :: ys, x => if lessS y x then y :: addS ys x else if y = x then y :: ys else x :: y :: ys
theorem addS_same : ∀ {ns : List ByteArray} {x : ByteArray} {k : Nat}, (∀ i n, i < k → ns[i]? = some n → lessS n x) → ns[k]? = some x → addS ns x = ns
  | [], x, k, _, h => by simp at h
  | y :: ys, x, 0, h0, h => by
    simp at h
    subst h
    rw [addS, if_neg (lessS_no _), if_pos rfl]
  | y :: ys, x, k + 1, h0, h => by
    have h1 := h0 0 y (by omega) rfl
    rw [addS, if_pos h1, addS_same (k := k) (fun i n hi hn => h0 (i + 1) n (by omega) (by simpa using hn)) (by simpa using h)]
theorem addS_new : ∀ {ns : List ByteArray} {x : ByteArray} {k : Nat}, k ≤ ns.length → (∀ i n, i < k → ns[i]? = some n → lessS n x) → (∀ n, ns[k]? = some n → lessS x n) → addS ns x = ns.take k ++ [x] ++ ns.drop k
  | [], x, k, hk, _, _ => by simp [addS]
  | y :: ys, x, 0, hk, h0, h => by
    have h1 := h y rfl
    rw [addS, if_neg (fun h2 => lessS_no _ (lessS_trans h1 h2)), if_neg (fun e => by subst e; exact lessS_no _ h1)]
    simp
  | y :: ys, x, k + 1, hk, h0, h => by
    have h1 := h0 0 y (by omega) rfl
    rw [addS, if_pos h1, addS_new (k := k) (by simpa using hk) (fun i n hi hn => h0 (i + 1) n (by omega) (by simpa using hn)) (fun n hn => h n (by simpa using hn))]
    simp
theorem mem_addS : ∀ {ns : List ByteArray} {x y : ByteArray}, y ∈ addS ns x ↔ y = x ∨ y ∈ ns
  | [], x, y => by simp [addS]
  | z :: zs, x, y => by
    rw [addS]
    split
    · rw [List.mem_cons, mem_addS, List.mem_cons]
      constructor
      · rintro (h | h | h)
        · exact .inr (.inl h)
        · exact .inl h
        · exact .inr (.inr h)
      · rintro (h | h | h)
        · exact .inr (.inl h)
        · exact .inl h
        · exact .inr (.inr h)
    · split
      · rename_i h
        subst h
        simp
      · simp
theorem asc_addS : ∀ {ns : List ByteArray} {x : ByteArray}, ns.Pairwise lessS → (addS ns x).Pairwise lessS
  | [], x, _ => by simp [addS]
  | z :: zs, x, h => by
    obtain ⟨h1, h2⟩ := List.pairwise_cons.1 h
    rw [addS]
    split
    · rename_i hz
      refine List.pairwise_cons.2 ⟨fun y hy => ?_, asc_addS h2⟩
      rcases mem_addS.1 hy with rfl | hy
      · exact hz
      · exact h1 y hy
    · split
      · exact h
      · rename_i hz hn
        refine List.pairwise_cons.2 ⟨fun y hy => ?_, h⟩
        have hxz := lessS_or hz hn
        rcases List.mem_cons.1 hy with rfl | hy
        · exact hxz
        · exact lessS_trans hxz (h1 y hy)
theorem addS_len (ns : List ByteArray) (x : ByteArray) : (addS ns x).length ≤ ns.length + 1 := by
  induction ns with
  | nil => simp [addS]
  | cons y ys ih =>
    rw [addS]
    split
    · simp; exact ih
    · split <;> simp
/-- the names of the tables of p. -/
def namL : Nat → P12 → List ByteArray
  | 0, _ => []
  | d + 1, p => p.ks.foldl (fun acc k => (namL d k).foldl addS acc) (if p.k = 0 then [p.s] else [])
theorem foldl_addS_mem : ∀ (l : List ByteArray) (acc : List ByteArray) (x : ByteArray), x ∈ l.foldl addS acc ↔ x ∈ acc ∨ x ∈ l
  | [], acc, x => by simp
  | y :: ys, acc, x => by
    rw [List.foldl_cons, foldl_addS_mem ys (addS acc y) x, mem_addS, List.mem_cons]
    constructor
    · rintro ((h | h) | h)
      · exact .inr (.inl h)
      · exact .inl h
      · exact .inr (.inr h)
    · rintro (h | h | h)
      · exact .inl (.inr h)
      · exact .inl (.inl h)
      · exact .inr h
theorem foldl_addS_asc : ∀ (l : List ByteArray) {acc : List ByteArray}, acc.Pairwise lessS → (l.foldl addS acc).Pairwise lessS
  | [], acc, h => h
  | y :: ys, acc, h => foldl_addS_asc ys (asc_addS h)
theorem foldl_nam_mem (f : P12 → List ByteArray) : ∀ (ks : List P12) (acc : List ByteArray) (x : ByteArray), x ∈ ks.foldl (fun acc k => (f k).foldl addS acc) acc ↔ x ∈ acc ∨ ∃ k ∈ ks, x ∈ f k
  | [], acc, x => by simp
  | k :: ks, acc, x => by
    rw [List.foldl_cons, foldl_nam_mem f ks _ x, foldl_addS_mem]
    constructor
    · rintro ((h | h) | ⟨q, hq, h⟩)
      · exact .inl h
      · exact .inr ⟨k, List.mem_cons_self, h⟩
      · exact .inr ⟨q, List.mem_cons_of_mem _ hq, h⟩
    · rintro (h | ⟨q, hq, h⟩)
      · exact .inl (.inl h)
      · rcases List.mem_cons.1 hq with rfl | hq
        · exact .inl (.inr h)
        · exact .inr ⟨q, hq, h⟩
theorem foldl_nam_asc (f : P12 → List ByteArray) : ∀ (ks : List P12) {acc : List ByteArray}, acc.Pairwise lessS → (ks.foldl (fun acc k => (f k).foldl addS acc) acc).Pairwise lessS
  | [], acc, h => h
  | k :: ks, acc, h => foldl_nam_asc f ks (foldl_addS_asc (f k) h)
theorem mem_namL {d : Nat} {p : P12} {x : ByteArray} : x ∈ namL (d + 1) p ↔ (p.k = 0 ∧ x = p.s) ∨ ∃ k ∈ p.ks, x ∈ namL d k := by
  rw [namL, foldl_nam_mem]
  constructor
  · rintro (h | h)
    · left
      split at h
      · rename_i h0; exact ⟨h0, by simpa using h⟩
      · cases h
    · exact .inr h
  · rintro (⟨h0, rfl⟩ | h)
    · left; rw [if_pos h0]; simp
    · exact .inr h
theorem asc_namL : ∀ (d : Nat) (p : P12), (namL d p).Pairwise lessS
  | 0, p => by simp [namL]
  | d + 1, p => by
    rw [namL]
    apply foldl_nam_asc
    split <;> simp
theorem ascS_unique : ∀ {l m : List ByteArray}, l.Pairwise lessS → m.Pairwise lessS → (∀ x, x ∈ l ↔ x ∈ m) → l = m
  | [], [], _, _, _ => rfl
  | [], b :: bs, _, _, h => by have := (h b).2 List.mem_cons_self; cases this
  | a :: r, [], _, _, h => by have := (h a).1 List.mem_cons_self; cases this
  | a :: r, b :: bs, hl, hm, h => by
    obtain ⟨ha, hl2⟩ := List.pairwise_cons.1 hl
    obtain ⟨hb, hm2⟩ := List.pairwise_cons.1 hm
    have e1 : a = b := by
      rcases List.mem_cons.1 ((h a).1 List.mem_cons_self) with h1 | h1
      · exact h1
      · rcases List.mem_cons.1 ((h b).2 List.mem_cons_self) with h2 | h2
        · exact h2.symm
        · exact absurd (lessS_trans (hb a h1) (ha b h2)) (lessS_no _)
    subst e1
    refine congrArg (List.cons a) (ascS_unique hl2 hm2 fun x => ?_)
    constructor
    · intro hx
      rcases List.mem_cons.1 ((h x).1 (List.mem_cons_of_mem _ hx)) with rfl | h1
      · exact absurd (ha x hx) (lessS_no _)
      · exact h1
    · intro hx
      rcases List.mem_cons.1 ((h x).2 (List.mem_cons_of_mem _ hx)) with rfl | h1
      · exact absurd (hb x hx) (lessS_no _)
      · exact h1
end Go.Proofs.Ytjhcachbaebhfaa
