/- Own text. The weight of bags that are put together. -/
import Derived.Test.YtobbfmcfibmicaaBagC
import Derived.Test.YtobbfmcfibmicaaSumP
import Derived.Handy
namespace Go.Proofs.Ytobbfmcfibmicaa
open Go.RowKit
set_option linter.unusedVariables false
theorem wtb_app (a b : List C2) : wtb (a ++ b) = wtb a + wtb b := by simp [wtb, wtcs]; omega
theorem wtb_one (x : C2) (b : List C2) : wtb (x :: b) = 1 + wt x.r + wtb b := by simp [wtb, wtcs]; omega
theorem wtb_cut (cs : List C2) (k : Nat) : wtb (cs.take k) + wtb (cs.drop k) = wtb cs := by rw [← wtb_app, List.take_append_drop]
theorem wtb_putC (cs : List C2) (row : List V3) (n : Int) : wtb (putC cs row n) ≤ wtb cs + (1 + wt row) := by
  have h := wtb_cut cs (ahead cs row)
  have ins : wtb (cs.take (ahead cs row) ++ (⟨row, n⟩ : C2) :: cs.drop (ahead cs row)) = wtb cs + (1 + wt row) := by rw [wtb_app, wtb_one]; simp only []; omega
  unfold putC
  split
  · rename_i x hx
    have hd : cs.drop (ahead cs row) = x :: cs.drop (ahead cs row + 1) := by
      obtain ⟨hk, rfl⟩ := List.getElem?_eq_some_iff.1 hx
      exact List.drop_eq_getElem_cons hk
    have hlt : ahead cs row < cs.length := (List.getElem?_eq_some_iff.1 hx).1
    split
    · split
      · rw [List.set_eq_take_append_cons_drop, if_pos hlt, wtb_app, wtb_one]
        rw [hd, wtb_one] at h
        simp only []
        omega
      · rw [wtb_app]
        rw [hd, wtb_one] at h
        omega
    · split
      · omega
      · omega
  · split
    · omega
    · omega
theorem wtb_sumC (n : Int) : ∀ (ds cs : List C2), wtb (sumC cs ds n) ≤ wtb cs + wtb ds
  | [], cs => by simp [sumC]
  | x :: ds, cs => by
    have h1 := wtb_sumC n ds (putC cs x.r (n * x.n))
    have h2 := wtb_putC cs x.r (n * x.n)
    have h3 := wtb_one x ds
    show wtb (sumC (putC cs x.r (n * x.n)) ds n) ≤ _
    omega
end Go.Proofs.Ytobbfmcfibmicaa
