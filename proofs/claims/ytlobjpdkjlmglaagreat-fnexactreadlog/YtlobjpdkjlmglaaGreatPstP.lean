/- Own text. A step's bytes, in plain words; how many they are. -/
import Derived.Test.YtlobjpdkjlmglaaGreatSzP
import Derived.Test.YtlobjpdkjlmglaaGreatStpP
import Derived.Handy
namespace Go.Proofs.YtlobjpdkjlmglaaGreat
open Go.RowKit
set_option linter.unusedVariables false
/-- the bytes of columns. -/
def csL (cs : List ByteArray) : List Int := cs.flatMap fun c => tN c 2
/-- the bytes of a relation. -/
def rlL (r : R3) : List Int := tN r.s 2 ++ tN (putB r.W r.cs) 4
def rlsL (rs : List R3) : List Int := rs.flatMap rlL
/-- the bytes of a step's head, of it with its columns, of it with its question, of the whole. -/
def hdL (x : T5) : List Int := szN x.k 1 ++ tN x.s 2 ++ szN x.cs.length 1
def mdL (x : T5) : List Int := hdL x ++ csL x.cs ++ tN x.q 2 ++ szN x.rs.length 1
def stepL (x : T5) : List Int := mdL x ++ rlsL x.rs
/-- a step's text. -/
def putT (x : T5) : ByteArray := if okStep x = true then strOfNums (stepL x) else ⟨#[]⟩
theorem csL_take {cs : List ByteArray} {k : Nat} {c : ByteArray} (h : cs[k]? = some c) : csL (cs.take (k + 1)) = csL (cs.take k) ++ tN c 2 := by
  obtain ⟨hk, rfl⟩ := List.getElem?_eq_some_iff.1 h
  rw [List.take_succ_eq_append_getElem hk]
  unfold csL
  rw [List.flatMap_append, List.flatMap_singleton]
theorem rlsL_take {rs : List R3} {k : Nat} {r : R3} (h : rs[k]? = some r) : rlsL (rs.take (k + 1)) = rlsL (rs.take k) ++ rlL r := by
  obtain ⟨hk, rfl⟩ := List.getElem?_eq_some_iff.1 h
  rw [List.take_succ_eq_append_getElem hk]
  unfold rlsL
  rw [List.flatMap_append, List.flatMap_singleton]
theorem nameB_size {s : ByteArray} (h : nameB s = true) : s.size ≤ 10 := by
  unfold nameB at h
  rw [Bool.and_eq_true] at h
  have := h.2
  simp [inB] at this
  omega
theorem colsB_names : ∀ {cs pre : List ByteArray}, colsB pre cs = true → ∀ c ∈ cs, nameB c = true
  | [], _, _, c, hc => by cases hc
  | x :: r, pre, h, c, hc => by
    rw [colsB, Bool.and_eq_true, Bool.and_eq_true] at h
    rcases List.mem_cons.1 hc with rfl | hc
    · exact h.1.1
    · exact colsB_names h.2 c hc
theorem okTs_each : ∀ {rs : List R3} {p : Option R3}, okTs p rs = true → ∀ r ∈ rs, nameB r.s = true ∧ okBag r.W r.cs = true
  | [], _, _, c, hc => by cases hc
  | x :: r, p, h, c, hc => by
    rw [okTs, Bool.and_eq_true, Bool.and_eq_true, Bool.and_eq_true] at h
    rcases List.mem_cons.1 hc with rfl | hc
    · exact ⟨h.1.1.1, h.1.1.2⟩
    · exact okTs_each h.2 c hc
theorem putB_size (W : Int) (cs : List C2) : (putB W cs).size ≤ 493201 := by
  unfold putB
  split
  · rename_i h
    obtain ⟨_, _, h1, h2⟩ := okBag_facts h
    rw [nums_size]
    have := csN_len h2
    simp [bagN]
    omega
  · exact Nat.zero_le _
/-- what a right step's parts are bound by. -/
structure Bnd (x : T5) : Prop where
  k0 : 0 ≤ x.k
  k3 : x.k ≤ 3
  s : x.s.size ≤ 10
  cl : x.cs.length ≤ 12
  c : ∀ c ∈ x.cs, c.size ≤ 10
  q : x.q.size ≤ 1000
  rl : x.rs.length ≤ 20
  r : ∀ r ∈ x.rs, r.s.size ≤ 10
theorem empty_size {s : ByteArray} (h : s.toList.isEmpty = true) : s.size = 0 := by
  rw [ByteArray.toList_eq] at h
  have : s.data.toList = [] := by simpa using h
  have e : s.data.size = 0 := by rw [← Array.length_toList, this]; rfl
  exact e
theorem okStep_bnd {x : T5} (h : okStep x = true) : Bnd x := by
  unfold okStep at h
  split at h
  · rename_i hk
    simp only [Bool.and_eq_true] at h
    obtain ⟨⟨h1, h2⟩, h3⟩ := h
    simp only [okSch, okHs, okPrevH, Bool.and_true, Bool.and_eq_true] at h1
    obtain ⟨_, h4, h5⟩ := h1
    simp only [okCols, Bool.and_eq_true] at h5
    have h6 := h5.1
    simp [inB] at h6
    have h7 : x.rs = [] := by simpa using h3
    exact ⟨by omega, by omega, nameB_size h4, by omega, fun c hc => nameB_size (colsB_names h5.2 c hc), by rw [empty_size h2]; omega, by rw [h7]; simp, (by rw [h7]; intro r hr; cases hr)⟩
  split at h
  · rename_i _ hk
    simp only [Bool.and_eq_true] at h
    obtain ⟨⟨⟨h1, h2⟩, h4⟩, h3⟩ := h
    have h7 : x.rs = [] := by simpa using h3
    have h8 : x.cs = [] := by simpa using h2
    exact ⟨by omega, by omega, nameB_size h1, by rw [h8]; simp, (by rw [h8]; intro r hr; cases hr), by simpa using h4, by rw [h7]; simp, (by rw [h7]; intro r hr; cases hr)⟩
  split at h
  · rename_i _ _ hk
    simp only [Bool.and_eq_true] at h
    obtain ⟨⟨⟨h1, h2⟩, h4⟩, h3⟩ := h
    have h7 : x.rs = [] := by simpa using h3
    have h8 : x.cs = [] := by simpa using h2
    exact ⟨by omega, by omega, nameB_size h1, by rw [h8]; simp, (by rw [h8]; intro r hr; cases hr), by rw [empty_size h4]; omega, by rw [h7]; simp, (by rw [h7]; intro r hr; cases hr)⟩
  split at h
  · rename_i _ _ _ hk
    simp only [Bool.and_eq_true] at h
    obtain ⟨⟨⟨h1, h2⟩, h4⟩, h3⟩ := h
    have h8 : x.cs = [] := by simpa using h2
    simp only [okRels, Bool.and_eq_true] at h3
    have h6 := h3.1
    simp [inB] at h6
    exact ⟨by omega, by omega, by rw [empty_size h1]; omega, by rw [h8]; simp, (by rw [h8]; intro r hr; cases hr), by rw [empty_size h4]; omega, by omega, fun r hr => nameB_size (okTs_each h3.2 r hr).1⟩
  · cases h
theorem csL_len {cs : List ByteArray} (h : ∀ c ∈ cs, c.size ≤ 10) : (csL cs).length ≤ 12 * cs.length := by
  induction cs with
  | nil => simp [csL]
  | cons a l ih =>
    have h1 := ih fun c hc => h c (List.mem_cons_of_mem _ hc)
    have h2 := h a List.mem_cons_self
    simp only [csL, List.flatMap_cons, List.length_append, tN_len, List.length_cons] at h1 ⊢
    omega
theorem rlL_len {r : R3} (h : r.s.size ≤ 10) : (rlL r).length ≤ 493300 := by
  have := putB_size r.W r.cs
  simp only [rlL, List.length_append, tN_len]
  omega
theorem rlsL_len {rs : List R3} (h : ∀ r ∈ rs, r.s.size ≤ 10) : (rlsL rs).length ≤ 493300 * rs.length := by
  induction rs with
  | nil => simp [rlsL]
  | cons a l ih =>
    have h1 := ih fun c hc => h c (List.mem_cons_of_mem _ hc)
    have h2 := rlL_len (h a List.mem_cons_self)
    simp only [rlsL, List.flatMap_cons, List.length_append, List.length_cons] at h1 ⊢
    omega
theorem hdL_len {x : T5} (h : Bnd x) : (hdL x).length ≤ 14 := by
  have := h.s
  simp only [hdL, List.length_append, tN_len, szN_len]
  omega
theorem hc_len {x : T5} (h : Bnd x) (k : Nat) : (hdL x ++ csL (x.cs.take k)).length ≤ 158 := by
  have h1 := hdL_len h
  have h2 := csL_len (cs := x.cs.take k) fun c hc => h.c c (List.mem_of_mem_take hc)
  have h3 := h.cl
  rw [List.length_append]
  rw [List.length_take] at h2
  omega
theorem mdL_len {x : T5} (h : Bnd x) : (mdL x).length ≤ 1161 := by
  have h1 := hc_len h x.cs.length
  have h2 := h.q
  rw [List.take_length, List.length_append] at h1
  simp only [mdL, List.length_append, tN_len, szN_len]
  omega
theorem md_len {x : T5} (h : Bnd x) (k : Nat) : (mdL x ++ rlsL (x.rs.take k)).length ≤ 10000000 := by
  have h1 := mdL_len h
  have h2 := rlsL_len (rs := x.rs.take k) fun c hc => h.r c (List.mem_of_mem_take hc)
  have h3 := h.rl
  rw [List.length_append]
  rw [List.length_take] at h2
  omega
theorem stepL_len {x : T5} (h : Bnd x) : (stepL x).length ≤ 10000000 := by
  have := md_len h x.rs.length
  rwa [List.take_length] at this
theorem mdL_ne (x : T5) : stepL x ≠ [] := by
  intro e
  have : (stepL x).length = 0 := by rw [e]; rfl
  simp only [stepL, mdL, hdL, List.length_append, tN_len, szN_len] at this
  omega
end Go.Proofs.YtlobjpdkjlmglaaGreat
