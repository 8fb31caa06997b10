/- Own text. Blocks: what a cell and a mark are where a block stays; the blocks of a call's own. -/
import Derived.Test.YtiaafgmjigbjlaaGreatDoorRowK
namespace Go.Proofs.YtiaafgmjigbjlaaGreatDoor
open Go.RowKit Go.Deep
set_option linter.unusedVariables false
theorem cell_blk {w w' : World} {b o : Nat} (h : w'.heap[b]? = w.heap[b]?) : w'.cell? ⟨b, o, none⟩ = w.cell? ⟨b, o, none⟩ := by
  simp only [World.cell?, h]
theorem frozen_blk {w w' : World} {b o : Nat} (h : w'.heap[b]? = w.heap[b]?) : w'.frozen? ⟨b, o, none⟩ = w.frozen? ⟨b, o, none⟩ := by
  simp only [World.frozen?, h]
/-- the blocks of F are the call's own from N on: each once, not frozen. -/
def OwnN (w : World) (N : Nat) (F : List Nat) : Prop := F.Nodup ∧ ∀ b ∈ F, N ≤ b ∧ ∀ o, w.frozen? ⟨b, o, none⟩ = false
theorem OwnN.keep {w w' : World} {N : Nat} {F : List Nat} (h : OwnN w N F) (hF : ∀ b ∈ F, w'.heap[b]? = w.heap[b]?) : OwnN w' N F :=
  ⟨h.1, fun b hb => ⟨(h.2 b hb).1, fun o => (frozen_blk (hF b hb)).trans ((h.2 b hb).2 o)⟩⟩
theorem OwnN.below {w w' : World} {N : Nat} {F : List Nat} (h : OwnN w N F) (hl : ∀ b ∈ F, b < w.heap.size) (hb : Below w.heap.size w w') : OwnN w' N F := h.keep fun b hF => hb.block b (hl b hF)
theorem OwnN.app {w : World} {N M : Nat} {F G : List Nat} (h : OwnN w N F) (k : OwnN w M G) (hM : ∀ b ∈ F, b < M) (hNM : N ≤ M) : OwnN w N (F ++ G) := by
  refine ⟨List.nodup_append.2 ⟨h.1, k.1, fun a ha b hb => ?_⟩, fun b hb => ?_⟩
  · rintro rfl
    have := hM a ha
    have := (k.2 a hb).1
    omega
  · rcases List.mem_append.1 hb with hb | hb
    · exact h.2 b hb
    · exact ⟨Nat.le_trans hNM (k.2 b hb).1, (k.2 b hb).2⟩
theorem OwnN.weak {w : World} {N M : Nat} {F : List Nat} (h : OwnN w N F) (hM : M ≤ N) : OwnN w M F := ⟨h.1, fun b hb => ⟨Nat.le_trans hM (h.2 b hb).1, (h.2 b hb).2⟩⟩
end Go.Proofs.YtiaafgmjigbjlaaGreatDoor
