/- Own texts, joined: contracts that the law's proof goes by. -/
import Derived.Test.YtbmoimfimeiglaaGreatGLFnLog27
import Derived.Test.YtbmoimfimeiglaaGreatGLFnLog30
import Derived.Test.YtbmoimfimeiglaaGreatGLFnLog31
import Derived.Test.YtbmoimfimeiglaaGreatGLFnLog32
import Derived.Handy
namespace Go.Proofs.YtbmoimfimeiglaaGreat
open Go.RowKit
set_option linter.unusedVariables false
section
variable (s : ByteArray) (a : Nat)
def lA : Int × (Nat × Bool) := nm s s.size 4 (a, false)
def lB : Int × (Nat × Bool) := nm s s.size 4 (lA s a).2
def lQ : Nat × Bool := enQ s.size (lA s a).1.toNat (lB s a).2
def lE : Nat := enX s.size (lA s a).1.toNat (lB s a).2
def lT : ByteArray := s.extract (lQ s a).1 (lE s a)
def okI : Bool := ((sumB (lT s a) : Int) == (lB s a).1) && sO s (lE s a) (lQ s a)
def okM : Bool := !(lB s a).2.2 && decide ((lB s a).2.1 + (lA s a).1.toNat ≤ s.size) && ((sumB (s.extract (lB s a).2.1 ((lB s a).2.1 + (lA s a).1.toNat)) : Int) == (lB s a).1) && gO (s.extract (lB s a).2.1 ((lB s a).2.1 + (lA s a).1.toNat))
end
theorem lB_at {s : ByteArray} {a : Nat} (h : a ≤ s.size) : (lB s a).2.1 ≤ s.size := nm_at (nm_at h)
theorem lA_bd {s : ByteArray} {a : Nat} (h : a ≤ s.size) : 0 ≤ (lA s a).1 ∧ (lA s a).1 < 4294967296 := nm_bd (Nat.le_refl _) h (by omega)
theorem lB_bd {s : ByteArray} {a : Nat} (h : a ≤ s.size) : 0 ≤ (lB s a).1 ∧ (lB s a).1 < 4294967296 := nm_bd (Nat.le_refl _) (nm_at h) (by omega)
theorem lE_at {s : ByteArray} {a : Nat} (h : a ≤ s.size) : (lQ s a).1 = (lB s a).2.1 ∧ (lQ s a).1 ≤ lE s a ∧ lE s a ≤ s.size := by
  have := lB_at h
  unfold lQ lE enQ enX
  split <;> refine ⟨rfl, ?_, ?_⟩ <;> (try dsimp only) <;> omega
theorem ok_same {s : ByteArray} {a : Nat} (h : a ≤ s.size) : okI s a = okM s a ∧ (okM s a = true → sX s (lE s a) (lQ s a) = gT (s.extract (lB s a).2.1 ((lB s a).2.1 + (lA s a).1.toNat)) ∧ lE s a = (lB s a).2.1 + (lA s a).1.toNat) := by
  have hb := lB_at h
  unfold okI okM lT
  by_cases hle : (lB s a).2.1 + (lA s a).1.toNat ≤ s.size
  · have eQ : lQ s a = (lB s a).2 := by unfold lQ enQ; rw [if_pos hle]
    have eE : lE s a = (lB s a).2.1 + (lA s a).1.toNat := by unfold lE enX; rw [if_pos hle]
    rw [eQ, eE, decide_eq_true hle]
    cases ht : (lB s a).2.2 with
    | true =>
      rw [torn_no ht]
      simp
    | false =>
      have e2 : (lB s a).2 = ((lB s a).2.1, false) := by rw [← ht]
      obtain ⟨h1, h2⟩ := part_sh (s := s) (a := (lB s a).2.1) (e := (lB s a).2.1 + (lA s a).1.toNat) hle (by omega)
      rw [e2]
      dsimp only
      rw [h2]
      refine ⟨by simp, fun hk => ⟨?_, rfl⟩⟩
      rw [h1]
      have hg : gO (s.extract (lB s a).2.1 ((lB s a).2.1 + (lA s a).1.toNat)) = true := by
        simp only [Bool.and_eq_true] at hk; exact hk.2
      exact (if_pos (show sO _ _ _ = true from hg)).symm
  · have eQ : (lQ s a).2 = true := by unfold lQ enQ; rw [if_neg hle]
    rw [torn_no eQ, decide_eq_false hle]
    simp
def rdL (s : ByteArray) : Nat → Nat → List T5 × Nat
  | 0, a => ([], a)
  | k + 1, a => if okM s a = true then (gT (s.extract (lB s a).2.1 ((lB s a).2.1 + (lA s a).1.toNat)) :: (rdL s k ((lB s a).2.1 + (lA s a).1.toNat)).1, (rdL s k ((lB s a).2.1 + (lA s a).1.toNat)).2) else ([], a)
end Go.Proofs.YtbmoimfimeiglaaGreat
namespace Go.Proofs.YtbmoimfimeiglaaGreat
open Go.RowKit
set_option linter.unusedVariables false
def lN (s : ByteArray) (a : Nat) : Nat := (lB s a).2.1 + (lA s a).1.toNat
def lX (s : ByteArray) (a : Nat) : T5 := gT (s.extract (lB s a).2.1 (lN s a))
theorem tk_ge {s : ByteArray} {e n : Nat} {q : Nat × Bool} : q.1 ≤ (tk s e n q).2.1 := by
  unfold tk
  split <;> simp
theorem okM_at {s : ByteArray} {a : Nat} (h : okM s a = true) : a < lN s a ∧ lN s a ≤ s.size ∧ (lB s a).2.2 = false := by
  unfold okM at h
  simp only [Bool.and_eq_true, Bool.not_eq_true', decide_eq_true_eq] at h
  refine ⟨?_, h.1.1.2, h.1.1.1⟩
  have h1 : a ≤ (lA s a).2.1 := tk_ge (s := s) (e := s.size) (n := 4) (q := (a, false))
  have h2 := h.1.1.1
  unfold lN
  unfold lB nm tk at h2 ⊢
  split at h2
  · rename_i hle
    rw [if_pos hle]
    dsimp only
    omega
  · cases h2
theorem rdL_no {s : ByteArray} {a : Nat} (h : okM s a = false) (k : Nat) : rdL s k a = ([], a) := by
  cases k with
  | zero => rfl
  | succ k => rw [rdL, if_neg (by rw [h]; decide)]
theorem rdL_yes {s : ByteArray} {a : Nat} (h : okM s a = true) (k : Nat) : rdL s (k + 1) a = (lX s a :: (rdL s k (lN s a)).1, (rdL s k (lN s a)).2) := by
  rw [rdL, if_pos h]
  rfl
def rlT (s : ByteArray) : List T5 := if s.size ≤ 100000 then (rdL s s.size 0).1 else []
def rlE (s : ByteArray) : Nat := if s.size ≤ 100000 then (rdL s s.size 0).2 else 0
structure RlInv (s : ByteArray) (k a : Nat) (ts : List T5) : Prop where
  all : ts ++ (rdL s k a).1 = (rdL s s.size 0).1
  fin : (rdL s k a).2 = (rdL s s.size 0).2
  le : s.size ≤ a + k
  at' : a ≤ s.size
  len : ts.length ≤ a
theorem RlInv.start (s : ByteArray) : RlInv s s.size 0 [] := ⟨rfl, rfl, by omega, by omega, by simp⟩
theorem RlInv.next {s : ByteArray} {k a : Nat} {ts : List T5} (h : RlInv s k a ts) (ho : okM s a = true) : ∃ k', RlInv s k' (lN s a) (ts ++ [lX s a]) := by
  obtain ⟨h1, h2, h3⟩ := okM_at ho
  have hl := h.le
  have hn := h.len
  cases k with
  | zero => omega
  | succ k =>
    have e := rdL_yes ho k
    have ha := h.all
    have hf := h.fin
    rw [e] at ha hf
    exact ⟨k, by rw [← ha]; simp, hf, by omega, h2, by simp; omega⟩
theorem RlInv.stop {s : ByteArray} {k a : Nat} {ts : List T5} (h : RlInv s k a ts) (ho : okM s a = false) : ts = (rdL s s.size 0).1 ∧ a = (rdL s s.size 0).2 := by
  have ha := h.all
  have hf := h.fin
  rw [rdL_no ho] at ha hf
  exact ⟨by rw [← ha]; simp, hf⟩
theorem sO_at {s : ByteArray} {e : Nat} {q : Nat × Bool} (h : sO s e q = true) : sT s e q = false ∧ (sE s e q).2.1 = e := by
  unfold sO at h
  rw [Bool.and_eq_true] at h
  have h1 : sT s e q = false := by simpa using h.1
  refine ⟨h1, ?_⟩
  unfold sT at h1
  simp at h1
  exact h1.2
end Go.Proofs.YtbmoimfimeiglaaGreat
