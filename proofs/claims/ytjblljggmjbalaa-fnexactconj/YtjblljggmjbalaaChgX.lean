/- Own text. What a call may write of an expression: the blocks of a list, and new ones. -/
import Derived.Test.YtjblljggmjbalaaToE
namespace Go.Proofs.Ytjblljggmjbalaa
open Go.RowKit Go.Deep
set_option linter.unusedVariables false
/-- the blocks of F may be written. -/
def FreeE (w : World) (F : List Nat) : Prop := ∀ b ∈ F, ∀ o, w.frozen? ⟨b, o, none⟩ = false
/-- what was there is as it was, the blocks of F aside. -/
structure ChgE (F : List Nat) (w w' : World) : Prop where
  os : w'.os = w.os
  tape : w'.tape = w.tape
  output : w'.output = w.output
  size : w.heap.size ≤ w'.heap.size
  block : ∀ k, k < w.heap.size → k ∉ F → w'.heap[k]? = w.heap[k]?
  free : FreeE w F → FreeE w' F
theorem ChgE.of_below {w w' : World} {F : List Nat} (h : Below w.heap.size w w') (hF : ∀ b ∈ F, b < w.heap.size) : ChgE F w w' :=
  ⟨h.os, h.tape, h.output, h.size, fun k hk _ => h.block k hk, fun f b hb o => (frozen_blk (h.block b (hF b hb))).trans (f b hb o)⟩
theorem ChgE.refl (F : List Nat) (w : World) : ChgE F w w := ⟨rfl, rfl, rfl, Nat.le_refl _, fun _ _ _ => rfl, id⟩
theorem ChgE.trans {a b c : World} {F : List Nat} (h : ChgE F a b) (k : ChgE F b c) : ChgE F a c :=
  ⟨k.os.trans h.os, k.tape.trans h.tape, k.output.trans h.output, Nat.le_trans h.size k.size, fun i hi hF => (k.block i (Nat.lt_of_lt_of_le hi h.size) hF).trans (h.block i hi hF), fun f => k.free (h.free f)⟩
theorem ChgE.setCell {w w' : World} {F : List Nat} (h : ChgE F w w') {p : Addr} (hp : p.block ∈ F) (u : Value) : ChgE F w (w'.setCell p u) :=
  ⟨h.os, h.tape, h.output, by simpa using h.size, fun k hk hF => (Below.heap_setCell _ _ _ _ (by rintro rfl; exact hF hp)).trans (h.block k hk hF), fun f b hb o => by rw [World.frozen?_setCell]; exact h.free f b hb o⟩
theorem ChgE.wide {w w' : World} {F G : List Nat} (h : ChgE F w w') (hs : ∀ b ∈ F, b ∈ G) (hG : ∀ b ∈ G, b ∉ F → b < w.heap.size) : ChgE G w w' :=
  ⟨h.os, h.tape, h.output, h.size, fun k hk hF => h.block k hk fun hx => hF (hs k hx), fun f b hb o => by
    by_cases hx : b ∈ F
    · exact h.free (fun c hc => f c (hs c hc)) b hx o
    · exact (frozen_blk (h.block b (hG b hb hx) hx)).trans (f b hb o)⟩
theorem ChgE.below {w w' : World} {F : List Nat} {N : Nat} (h : ChgE F w w') (hF : ∀ b ∈ F, N ≤ b) (hN : N ≤ w.heap.size) : Below N w w' :=
  ⟨h.os, h.tape, h.output, h.size, fun k hk => h.block k (by omega) fun hx => by have := hF k hx; omega⟩
end Go.Proofs.Ytjblljggmjbalaa
