/- Own text. What a row more does to a bag's length and counts; two bags together (sumC): the contract of spec.l02Sum. -/
import Derived.Test.YtobbfmcfibmicaaPutP
namespace Go.Proofs.Ytobbfmcfibmicaa
open Go.RowKit
set_option linter.unusedVariables false
theorem putC_len (cs : List C2) (row : List V3) (n : Int) : (putC cs row n).length ≤ cs.length + 1 := by
  unfold putC
  have hle := ahead_le cs row
  split
  · split
    · split
      · simp
      · simp; omega
    · split
      · simp; omega
      · omega
  · split
    · simp; omega
    · omega
theorem putC_bound {cs : List C2} {row : List V3} {n M m : Int} (h : ∀ c ∈ cs, -M ≤ c.n ∧ c.n ≤ M) (hn : -m ≤ n ∧ n ≤ m) (hM : 0 ≤ M) (hm : 0 ≤ m) : ∀ c ∈ putC cs row n, -(M + m) ≤ c.n ∧ c.n ≤ M + m := by
  have hw : ∀ c ∈ cs, -(M + m) ≤ c.n ∧ c.n ≤ M + m := fun c hc => by have := h c hc; omega
  have ins : ∀ c ∈ cs.take (ahead cs row) ++ (⟨row, n⟩ : C2) :: cs.drop (ahead cs row), -(M + m) ≤ c.n ∧ c.n ≤ M + m := by
    intro c hc
    rcases List.mem_append.1 hc with h1 | h1
    · exact hw c (List.mem_of_mem_take h1)
    · rcases List.mem_cons.1 h1 with rfl | h1
      · dsimp only; omega
      · exact hw c (List.mem_of_mem_drop h1)
  unfold putC
  split
  · rename_i x hx
    have hxm := h x (List.mem_of_getElem? hx)
    split
    · split
      · intro c hc
        rcases List.mem_or_eq_of_mem_set hc with h1 | rfl
        · exact hw c h1
        · dsimp only; omega
      · intro c hc
        rcases List.mem_append.1 hc with h1 | h1
        · exact hw c (List.mem_of_mem_take h1)
        · exact hw c (List.mem_of_mem_drop h1)
    · split
      · exact ins
      · exact hw
  · split
    · exact ins
    · exact hw
/-- two bags together, the other one n times. -/
def sumC (cs ds : List C2) (n : Int) : List C2 := ds.foldl (fun t x => putC t x.r (n * x.n)) cs
theorem sumC_snoc (cs ds : List C2) (x : C2) (n : Int) : sumC cs (ds ++ [x]) n = putC (sumC cs ds n) x.r (n * x.n) := by simp [sumC]
theorem sumC_all {n : Int} : ∀ {ds cs : List C2}, Asc cs → (∀ c ∈ cs, c.n ≠ 0) →
    Asc (sumC cs ds n) ∧ (∀ c ∈ sumC cs ds n, c.n ≠ 0) ∧ ∀ q, cntC (sumC cs ds n) q = cntC cs q + (ds.map fun x => if cmpRow x.r q = 0 then n * x.n else 0).sum
  | [], cs, h, hz => ⟨h, hz, fun q => by simp [sumC]⟩
  | x :: ds, cs, h, hz => by
    obtain ⟨h1, h2, h3⟩ := put_all x.r (n * x.n) h hz
    obtain ⟨k1, k2, k3⟩ := sumC_all (n := n) (ds := ds) h1 h2
    refine ⟨k1, k2, fun q => ?_⟩
    show cntC (sumC (putC cs x.r (n * x.n)) ds n) q = _
    rw [k3 q, h3 q]
    simp only [List.map_cons, List.sum_cons]
    omega
theorem sumC_bound {cs : List C2} {n M m : Int} (h : ∀ c ∈ cs, -M ≤ c.n ∧ c.n ≤ M) (hM : 0 ≤ M) (hm : 0 ≤ m) : ∀ {ds : List C2}, (∀ x ∈ ds, -m ≤ n * x.n ∧ n * x.n ≤ m) → (sumC cs ds n).length ≤ cs.length + ds.length ∧ ∀ c ∈ sumC cs ds n, -(M + ds.length * m) ≤ c.n ∧ c.n ≤ M + ds.length * m := by
  intro ds
  induction ds generalizing cs M with
  | nil => intro _; exact ⟨by simp [sumC], fun c hc => by have := h c hc; simp; omega⟩
  | cons x ds ih =>
    intro hd
    have hx := hd x (List.mem_cons_self ..)
    obtain ⟨h1, h2⟩ := ih (cs := putC cs x.r (n * x.n)) (M := M + m) (putC_bound h hx hM hm) (by omega) (fun y hy => hd y (List.mem_cons_of_mem _ hy))
    have hl := putC_len cs x.r (n * x.n)
    refine ⟨by show (sumC (putC cs x.r (n * x.n)) ds n).length ≤ _; simp; omega, fun c hc => ?_⟩
    have hc2 := h2 c hc
    have e : ((x :: ds).length : Int) * m = ds.length * m + m := by simp [Int.add_mul]
    omega
end Go.Proofs.Ytobbfmcfibmicaa
