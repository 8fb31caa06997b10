/- Own text. The contract of spec.PlanText. -/
import Derived.Test.YtlpgkhdmilnbgaaDoorLtS
import Derived.Test.YtlpgkhdmilnbgaaDoorBoxP
import Derived.Test.YtlpgkhdmilnbgaaDoorTake
import Derived.Handy
import Derived.Deep.RegionHeld3
namespace Go.Proofs.YtlpgkhdmilnbgaaDoor
open Go.RowKit
set_option linter.unusedVariables false
/-- l04Text of a plan where f levels are told. -/
def TpS (f : Nat) : Prop := ∀ (p : P12) (ue us u : Value) (g : List Nat) (D d : Nat) (w : World), p.wf → ListsP w D (PlansIs w D d) p ue us u g → wtP p ≤ 1048576 → f ≤ 21 → Env w →
    Calls Tryd.prog 12 #[(.agg #[.int .i64 p.k, .string p.s, .int .i64 p.e.k, .int .i64 p.e.n, .int .i64 p.e.v.k, .int .i64 p.e.v.n, .string p.e.v.s, .string p.e.p, ue, us, .int .i64 p.n, u]), .int .i64 ((f : Int) - 1)] w fun x w' => x = .returned (.string (bs (planT f p))) ∧ Below w.heap.size w w'
theorem tpS_zero : TpS 0 := by
  intro p ue us u g D d w hw hL hn hf hE
  obtain ⟨a_e, a_E, a_s, a_S, a_k, a_K, rfl, rfl, rfl, _, _, _, _, _, _⟩ := hL.shape
  clear hL hE hw
  simp only [planT]
  go_enter Tryd.func12, Tryd.ntmps12
  go_wp2
  go_returns
  exact ⟨rfl, by repeat (first | (with_reducible exact Below.refl _ _) | (with_reducible refine Below.drew ?_) | (with_reducible refine Below.alloc ?_ ?hh _; case hh => first | (simp; done) | (simp; omega) | omega) | (with_reducible refine Below.setCell ?_ ?hh _; case hh => first | (simp; done) | (simp; omega) | omega) | refine bstep (by assumption) (by first | (simp; done) | (simp; omega) | omega) ?_)⟩
set_option maxHeartbeats 4000000 in
set_option maxRecDepth 100000 in
theorem l04Kids_in (k : Int) (w : World) (h : k = 0 ∨ k = 1 ∨ k = 2 ∨ k = 3 ∨ k = 4 ∨ k = 5 ∨ k = 6) :
    Calls Tryd.prog 21 #[.int .i64 k] w fun e w' => (∃ z : Int, e = .returned (.int .i64 z) ∧ (z < 0) = False) ∧ Below w.heap.size w w' := by
  rcases h with rfl | rfl | rfl | rfl | rfl | rfl | rfl <;> (
    go_enter Tryd.func21, Tryd.ntmps21
    go_wp2
    go_returns
    exact ⟨⟨_, rfl, by decide⟩, by repeat (first | (with_reducible exact Below.refl _ _) | (with_reducible refine Below.drew ?_) | (with_reducible refine Below.alloc ?_ ?hh _; case hh => first | (simp; done) | (simp; omega) | omega) | (with_reducible refine Below.setCell ?_ ?hh _; case hh => first | (simp; done) | (simp; omega) | omega) | refine bstep (by assumption) (by first | (simp; done) | (simp; omega) | omega) ?_)⟩)
set_option maxHeartbeats 4000000 in
set_option maxRecDepth 100000 in
theorem l04Kids_out (k : Int) (w : World) (h0 : ¬ k = 0) (h1 : ¬ k = 1) (h2 : ¬ k = 2) (h3 : ¬ k = 3) (h4 : ¬ k = 4) (h5 : ¬ k = 5) (h6 : ¬ k = 6) :
    Calls Tryd.prog 21 #[.int .i64 k] w fun e w' => e = .returned (.int .i64 (-1)) ∧ Below w.heap.size w w' := by
  have hI := fun w2 => l01In_is k 0 6 w2
  have e : (decide (0 ≤ k) && decide (k ≤ 6)) = false := by
    rw [Bool.and_eq_false_iff]
    by_cases h : 0 ≤ k
    · exact .inr (by rw [decide_eq_false_iff_not]; omega)
    · exact .inl (by rw [decide_eq_false_iff_not]; exact h)
  rw [e] at hI
  go_enter Tryd.func21, Tryd.ntmps21
  go_wp2_with fail
  refine Calls.mono (hI _) ?_
  rintro x w1 ⟨rfl, hb1⟩
  go_wp2_with fail
  go_returns
  exact ⟨rfl, hb1⟩
theorem ksP_next {f : Nat} {ks : List P12} {k : Nat} {x : P12} (h : ks[k]? = some x) : Lib.join ((ks.take (k + 1)).map (planT f)) [44, 32] = if k = 0 then planT f x else Lib.join ((ks.take k).map (planT f)) [44, 32] ++ ([44, 32] ++ planT f x) := by
  rw [ks_take h, join_push]
  have hk := (List.getElem?_eq_some_iff.1 h).1
  by_cases h0 : k = 0
  · subst h0
    rw [if_pos (by simp), if_pos rfl]
  · have hne : (ks.take k).map (planT f) ≠ [] := by
      intro e
      have := congrArg List.length e
      simp at this
      rcases this with h | h
      · omega
      · rw [h] at hk; simp at hk
    rw [if_neg hne, if_neg h0]
set_option maxHeartbeats 4000000 in
set_option maxRecDepth 100000 in
theorem tpS_x {f : Nat} {p : P12} {ue us u : Value} {g : List Nat} {D d : Nat} {w : World} (hL : ListsP w D (PlansIs w D d) p ue us u g) (h0 : ¬ p.k = 0) (h1 : ¬ p.k = 1) (h2 : ¬ p.k = 2) (h3 : ¬ p.k = 3) (h4 : ¬ p.k = 4) (h5 : ¬ p.k = 5) (h6 : ¬ p.k = 6) :
    Calls Tryd.prog 12 #[(.agg #[.int .i64 p.k, .string p.s, .int .i64 p.e.k, .int .i64 p.e.n, .int .i64 p.e.v.k, .int .i64 p.e.v.n, .string p.e.v.s, .string p.e.p, ue, us, .int .i64 p.n, u]), .int .i64 (((f + 1 : Nat) : Int) - 1)] w fun x w' => x = .returned (.string (bs (planT (f + 1) p))) ∧ Below w.heap.size w w' := by
  rw [planT_x h0 h1 h2 h3 h4 h5 h6]
  obtain ⟨a_e, a_E, a_s, a_S, a_k, a_K, rfl, rfl, rfl, _, _, _, _, _, _⟩ := hL.shape
  obtain ⟨dd, HD⟩ := hidE (((f + 1 : Nat) : Int) - 1)
  rw [HD.out]
  have hd0 : 0 ≤ dd := by have := HD.out; omega
  have hO := fun w2 => l04Kids_out p.k w2 h0 h1 h2 h3 h4 h5 h6
  clear hL h0 h1 h2 h3 h4 h5 h6 HD
  go_enter Tryd.func12, Tryd.ntmps12
  go_wp2_with fail
  refine Calls.mono (hO _) ?_
  rintro x w1 ⟨rfl, hb1⟩
  have bel1 : Below w.heap.size w w1 := by repeat (first | (with_reducible exact Below.refl _ _) | (with_reducible refine Below.drew ?_) | (with_reducible refine Below.alloc ?_ ?hh _; case hh => first | (simp; done) | (simp; omega) | omega) | (with_reducible refine Below.setCell ?_ ?hh _; case hh => first | (simp; done) | (simp; omega) | omega) | refine bstep (by assumption) (by first | (simp; done) | (simp; omega) | omega) ?_)
  clear hO hb1
  go_wp2_with fail
  go_returns
  exact ⟨rfl, bel1⟩
end Go.Proofs.YtlpgkhdmilnbgaaDoor
