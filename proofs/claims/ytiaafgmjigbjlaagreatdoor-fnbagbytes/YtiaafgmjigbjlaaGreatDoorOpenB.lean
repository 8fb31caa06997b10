/- Own text. A slice of bytes that came in. -/
import Derived.Test.YtiaafgmjigbjlaaGreatDoorDrA
namespace Go.Proofs.YtiaafgmjigbjlaaGreatDoor
open Go.RowKit Go.Deep
set_option linter.unusedVariables false
section
variable {H : Type} {enc : TypeId × Value → H} {P : Program} {w : World} {spare : Nat → Bool} {held : Bool}
theorem wf_u8 (n : Int) (h : (Lit.int .u8 n).wf = true) : 0 ≤ n ∧ n ≤ 255 := by
  simp [Lit.wf, IntKind.min, IntKind.max, IntKind.signed, IntKind.bits] at h
  omega
theorem open_bytes {t e : TypeId} {fuel : Nat} {v : Value} {x : DataW H × List MemPlace} (ht : P.underlying t = some (.slice e)) (ce : P.cellsOf e = 1) (u0 : P.underlying e = some (.int .u8))
    (h : DataW.trod enc P w 0 spare held fuel t [v] = some x) : ∃ (a : Option Addr) (l c : Nat), v = .slice a l c ∧ l ≤ c ∧ c ≤ maxLen ∧ ∀ j, j < l → ∃ b o, a = some ⟨b, o, none⟩ ∧ b < w.heap.size ∧ ∃ x : Int, 0 ≤ x ∧ x ≤ 255 ∧ w.cell? ⟨b, o + j, none⟩ = some (.int .u8 x) := by
  rcases open_slice ht h with ⟨h0, _⟩ | ⟨a, len, cap, m, n, D, Pl, hcs, hb, hl, hm, hmm, rfl, hx⟩
  · simp at h0; subst h0
    exact ⟨none, 0, 0, rfl, Nat.le_refl _, by unfold maxLen; omega, fun j hj => absurd hj (by omega)⟩
  simp at hcs; subst hcs
  have hlm : len ≤ m := by rw [hmm]; split <;> omega
  have each : ∀ j, j < len → ∃ z : Int, w.cell? (a.add j) = some (.int .u8 z) ∧ (Lit.int .u8 z).wf = true := by
    intro j hj
    obtain ⟨cs', h1, h2⟩ := hx j (by omega)
    rw [ce] at h1
    obtain ⟨_, hlen, hcell⟩ := World.cells?_some h1
    match cs', hlen with
    | [v0], _ =>
      have e0 := hcell 0 (by omega)
      obtain ⟨z0, q0, _, w0⟩ := DataW.trod_int u0 h2
      simp at q0
      subst q0
      exact ⟨z0, by simpa [Addr.add] using e0, w0⟩
  refine ⟨some a, len, cap, rfl, hl, hm, fun j hj => ?_⟩
  have hs : a.spot = none := by
    obtain ⟨z, hz, _⟩ := each 0 (by omega)
    have := World.cell?_spot hz
    simpa [Addr.add] using this
  obtain ⟨z0, e1, w0⟩ := each j hj
  obtain ⟨b, o, sp⟩ := a
  simp at hs; subst hs
  rw [Go.WideShapes.add_plain] at e1
  have hlt := World.block_lt_of_cell? _ _ e1
  obtain ⟨w1, w2⟩ := wf_u8 z0 w0
  exact ⟨b, o, rfl, by simpa using hlt, z0, w1, w2, e1⟩
end
end Go.Proofs.YtiaafgmjigbjlaaGreatDoor
