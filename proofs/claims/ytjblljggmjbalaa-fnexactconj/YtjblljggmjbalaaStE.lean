/- Own text. What a statement on a function from expressions to expressions holds together: behind the world wb (in which the model's answer lies) the argument made anew and the program's answer, each in blocks of its own, and boxes of single expressions; and how it stays so behind calls and marks. -/
import Derived.Test.YtjblljggmjbalaaMarkXe
import Derived.Test.YtjblljggmjbalaaFrE
import Derived.Handy
namespace Go.Proofs.Ytjblljggmjbalaa
open Go.RowKit Go.Deep
set_option linter.unusedVariables false
/-- block b has the seven cells of e, the last of which is u. -/
def Bx7 (w : World) (b : Nat) (e : E7) (u : Value) : Prop :=
  w.cell? ⟨b, 0, none⟩ = some (.int .i64 e.k) ∧ w.cell? ⟨b, 1, none⟩ = some (.int .i64 e.n) ∧ w.cell? ⟨b, 2, none⟩ = some (.int .i64 e.v.k) ∧ w.cell? ⟨b, 3, none⟩ = some (.int .i64 e.v.n) ∧ w.cell? ⟨b, 4, none⟩ = some (.string e.v.s) ∧ w.cell? ⟨b, 5, none⟩ = some (.string e.p) ∧ w.cell? ⟨b, 6, none⟩ = some u
theorem Bx7.keep {w w' : World} {b : Nat} {e : E7} {u : Value} (h : Bx7 w b e u) (hb : w'.heap[b]? = w.heap[b]?) : Bx7 w' b e u := by
  obtain ⟨h0, h1, h2, h3, h4, h5, h6⟩ := h
  exact ⟨(cell_blk hb).trans h0, (cell_blk hb).trans h1, (cell_blk hb).trans h2, (cell_blk hb).trans h3, (cell_blk hb).trans h4, (cell_blk hb).trans h5, (cell_blk hb).trans h6⟩
theorem Bx7.below {w w' : World} {b : Nat} {e : E7} {u : Value} (h : Bx7 w b e u) (hl : b < w.heap.size) (hb : Below w.heap.size w w') : Bx7 w' b e u := h.keep (hb.block b hl)
theorem bx7_new (w : World) (e : E7) (u : Value) (t : TypeId) : Bx7 (w.alloc (.cells #[.int .i64 e.k, .int .i64 e.n, .int .i64 e.v.k, .int .i64 e.v.n, .string e.v.s, .string e.p, u] t)) w.heap.size e u := by
  refine ⟨?_, ?_, ?_, ?_, ?_, ?_, ?_⟩ <;> go_simp
structure StE (wb wi : World) (dx dg : Nat) (x g : Value) (X Y : List E7) (F4 F5 : List Nat) (bs : List (Nat × E7 × Value)) : Prop where
  bel : Below wb.heap.size wb wi
  xx : KidsIs wi dx x X F4
  gg : KidsIs wi dg g Y F5
  o4 : Own wi wb.heap.size F4
  o5 : Own wi wb.heap.size F5
  d45 : ∀ b ∈ F4, b ∉ F5
  bx : ∀ b e u, (b, e, u) ∈ bs → Bx7 wi b e u ∧ b < wi.heap.size ∧ b ∉ F4 ∧ b ∉ F5
section
variable {wb wi wj : World} {dx dg : Nat} {x g : Value} {X Y : List E7} {F4 F5 : List Nat} {bs : List (Nat × E7 × Value)}
theorem StE.below (h : StE wb wi dx dg x g X Y F4 F5 bs) (hb : Below wi.heap.size wi wj) : StE wb wj dx dg x g X Y F4 F5 bs :=
  ⟨h.bel.trans (hb.mono h.bel.size), h.xx.below hb, h.gg.below hb, h.o4.below h.xx.lt hb, h.o5.below h.gg.lt hb, h.d45, fun b e u hm => ⟨(h.bx b e u hm).1.keep (hb.block b (h.bx b e u hm).2.1), Nat.lt_of_lt_of_le (h.bx b e u hm).2.1 hb.size, (h.bx b e u hm).2.2⟩⟩
theorem StE.fx (h : StE wb wi dx dg x g X Y F4 F5 bs) : FreeE wi F4 := fun b hb o => (h.o4.2 b hb).2 o
theorem StE.fg (h : StE wb wi dx dg x g X Y F4 F5 bs) : FreeE wi F5 := fun b hb o => (h.o5.2 b hb).2 o
theorem StE.markX (h : StE wb wi dx dg x g X Y F4 F5 bs) {X' : List E7} (hc : ChgE F4 wi wj) (hx : KidsIs wj dx x X' F4) : StE wb wj dx dg x g X' Y F4 F5 bs :=
  ⟨h.bel.trans (hc.below (fun b hb => (h.o4.2 b hb).1) h.bel.size), hx, h.gg.keep hc.size (fun b hb => hc.block b (h.gg.lt b hb) (fun hb' => h.d45 b hb' hb)), ⟨h.o4.1, fun b hb => ⟨(h.o4.2 b hb).1, hc.free h.fx b hb⟩⟩, h.o5.keep (fun b hb => hc.block b (h.gg.lt b hb) (fun hb' => h.d45 b hb' hb)), h.d45, fun b e u hm => ⟨(h.bx b e u hm).1.keep (hc.block b (h.bx b e u hm).2.1 (h.bx b e u hm).2.2.1), Nat.lt_of_lt_of_le (h.bx b e u hm).2.1 hc.size, (h.bx b e u hm).2.2⟩⟩
theorem StE.markG (h : StE wb wi dx dg x g X Y F4 F5 bs) {Y' : List E7} (hc : ChgE F5 wi wj) (hy : KidsIs wj dg g Y' F5) : StE wb wj dx dg x g X Y' F4 F5 bs :=
  ⟨h.bel.trans (hc.below (fun b hb => (h.o5.2 b hb).1) h.bel.size), h.xx.keep hc.size (fun b hb => hc.block b (h.xx.lt b hb) (h.d45 b hb)), hy, h.o4.keep (fun b hb => hc.block b (h.xx.lt b hb) (h.d45 b hb)), ⟨h.o5.1, fun b hb => ⟨(h.o5.2 b hb).1, hc.free h.fg b hb⟩⟩, h.d45, fun b e u hm => ⟨(h.bx b e u hm).1.keep (hc.block b (h.bx b e u hm).2.1 (h.bx b e u hm).2.2.2), Nat.lt_of_lt_of_le (h.bx b e u hm).2.1 hc.size, (h.bx b e u hm).2.2⟩⟩
theorem StE.box (h : StE wb wi dx dg x g X Y F4 F5 bs) (e : E7) (u : Value) (t : TypeId) : StE wb (wi.alloc (.cells #[.int .i64 e.k, .int .i64 e.n, .int .i64 e.v.k, .int .i64 e.v.n, .string e.v.s, .string e.p, u] t)) dx dg x g X Y F4 F5 ((wi.heap.size, e, u) :: bs) := by
  have h' := h.below (wj := wi.alloc (.cells #[.int .i64 e.k, .int .i64 e.n, .int .i64 e.v.k, .int .i64 e.v.n, .string e.v.s, .string e.p, u] t)) ((Below.refl _ _).alloc (Nat.le_refl _) _)
  refine ⟨h'.bel, h'.xx, h'.gg, h'.o4, h'.o5, h'.d45, fun b e' u' hm => ?_⟩
  rcases List.mem_cons.1 hm with hm | hm
  · injection hm with e1 e2
    injection e2 with e2 e3
    subst e1 e2 e3
    exact ⟨bx7_new _ _ _ _, by simp, fun hb => absurd (h.xx.lt _ hb) (Nat.lt_irrefl _), fun hb => absurd (h.gg.lt _ hb) (Nat.lt_irrefl _)⟩
  · exact h'.bx b e' u' hm
end
end Go.Proofs.Ytjblljggmjbalaa
