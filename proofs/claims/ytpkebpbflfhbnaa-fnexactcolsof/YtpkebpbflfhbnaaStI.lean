/- Own text. What a statement on a function from an expression to numbers holds together. -/
import Derived.Test.YtpkebpbflfhbnaaStE
import Derived.Test.YtpkebpbflfhbnaaColI
import Derived.Handy
namespace Go.Proofs.Ytpkebpbflfhbnaa
open Go.RowKit Go.Deep
set_option linter.unusedVariables false
theorem IntsI.f {w : World} {v : Value} {ns : List Int} (h : IntsI w v ns) : ∃ g, IntsF w v ns g := by
  obtain ⟨b, o, c, rfl, hl, hc, hlt, hcell⟩ := h
  by_cases hne : ns = []
  · exact ⟨[], some ⟨b, o, none⟩, c, rfl, hl, hc, fun _ => rfl, fun h => absurd hne h⟩
  · exact ⟨[b], some ⟨b, o, none⟩, c, rfl, hl, hc, fun h => absurd h hne, fun _ => ⟨b, o, rfl, hlt, rfl, hcell⟩⟩
theorem IntsF.shape {w : World} {v : Value} {ns : List Int} {g : List Nat} (h : IntsF w v ns g) : ∃ a c, v = .slice a ns.length c := by
  obtain ⟨a, c, e, _⟩ := h
  exact ⟨a, c, e⟩
structure StI (wb wi : World) (dx : Nat) (x g : Value) (X : List E7) (Y : List Int) (F4 F5 : List Nat) (bs : List (Nat × E7 × Value)) : Prop where
  bel : Below wb.heap.size wb wi
  xx : KidsIs wi dx x X F4
  gg : IntsF wi g Y F5
  o4 : Own wi wb.heap.size F4
  o5 : Own wi wb.heap.size F5
  d45 : ∀ b ∈ F4, b ∉ F5
  bx : ∀ b e u, (b, e, u) ∈ bs → Bx7 wi b e u ∧ b < wi.heap.size ∧ b ∉ F4 ∧ b ∉ F5
section
variable {wb wi wj : World} {dx : Nat} {x g : Value} {X : List E7} {Y : List Int} {F4 F5 : List Nat} {bs : List (Nat × E7 × Value)}
theorem StI.below (h : StI wb wi dx x g X Y F4 F5 bs) (hb : Below wi.heap.size wi wj) : StI wb wj dx x g X Y F4 F5 bs :=
  ⟨h.bel.trans (hb.mono h.bel.size), h.xx.below hb, h.gg.below hb, h.o4.below h.xx.lt hb, h.o5.below h.gg.lt hb, h.d45, fun b e u hm => ⟨(h.bx b e u hm).1.keep (hb.block b (h.bx b e u hm).2.1), Nat.lt_of_lt_of_le (h.bx b e u hm).2.1 hb.size, (h.bx b e u hm).2.2⟩⟩
theorem StI.fx (h : StI wb wi dx x g X Y F4 F5 bs) : FreeE wi F4 := fun b hb o => (h.o4.2 b hb).2 o
theorem StI.fg (h : StI wb wi dx x g X Y F4 F5 bs) : FreeE wi F5 := fun b hb o => (h.o5.2 b hb).2 o
theorem StI.markX (h : StI wb wi dx x g X Y F4 F5 bs) {X' : List E7} (hc : ChgE F4 wi wj) (hx : KidsIs wj dx x X' F4) : StI wb wj dx x g X' Y F4 F5 bs :=
  ⟨h.bel.trans (hc.below (fun b hb => (h.o4.2 b hb).1) h.bel.size), hx, h.gg.keep hc.size (fun b hb => hc.block b (h.gg.lt b hb) (fun hb' => h.d45 b hb' hb)), ⟨h.o4.1, fun b hb => ⟨(h.o4.2 b hb).1, hc.free h.fx b hb⟩⟩, h.o5.keep (fun b hb => hc.block b (h.gg.lt b hb) (fun hb' => h.d45 b hb' hb)), h.d45, fun b e u hm => ⟨(h.bx b e u hm).1.keep (hc.block b (h.bx b e u hm).2.1 (h.bx b e u hm).2.2.1), Nat.lt_of_lt_of_le (h.bx b e u hm).2.1 hc.size, (h.bx b e u hm).2.2⟩⟩
theorem StI.markG (h : StI wb wi dx x g X Y F4 F5 bs) {Y' : List Int} (hc : ChgE F5 wi wj) (hy : IntsF wj g Y' F5) : StI wb wj dx x g X Y' F4 F5 bs :=
  ⟨h.bel.trans (hc.below (fun b hb => (h.o5.2 b hb).1) h.bel.size), h.xx.keep hc.size (fun b hb => hc.block b (h.xx.lt b hb) (h.d45 b hb)), hy, h.o4.keep (fun b hb => hc.block b (h.xx.lt b hb) (h.d45 b hb)), ⟨h.o5.1, fun b hb => ⟨(h.o5.2 b hb).1, hc.free h.fg b hb⟩⟩, h.d45, fun b e u hm => ⟨(h.bx b e u hm).1.keep (hc.block b (h.bx b e u hm).2.1 (h.bx b e u hm).2.2.2), Nat.lt_of_lt_of_le (h.bx b e u hm).2.1 hc.size, (h.bx b e u hm).2.2⟩⟩
end
end Go.Proofs.Ytpkebpbflfhbnaa
