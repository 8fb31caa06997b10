/- Own text. What a statement on a function from relations to relations holds together: behind the world w3 (in which the model's answer lies) the argument made anew and the program's answer, each in blocks of its own; and how it stays so behind calls and marks. -/
import Derived.Test.YtnbcmkbkiebbdaaToRF
import Derived.Test.YtnbcmkbkiebbdaaMarkR
import Derived.Handy
namespace Go.Proofs.Ytnbcmkbkiebbdaa
open Go.RowKit Go.Deep
set_option linter.unusedVariables false
structure StR (w3 wi : World) (x g : Value) (X Y : List R3) (F4 F5 : List Nat) : Prop where
  bel : Below w3.heap.size w3 wi
  xx : RelsF wi x X F4
  gg : RelsF wi g Y F5
  o4 : Own wi w3.heap.size F4
  o5 : Own wi w3.heap.size F5
  d45 : ∀ b ∈ F4, b ∉ F5
section
variable {w3 wi wj : World} {x g : Value} {X Y : List R3} {F4 F5 : List Nat}
theorem StR.below (h : StR w3 wi x g X Y F4 F5) (hb : Below wi.heap.size wi wj) : StR w3 wj x g X Y F4 F5 :=
  ⟨h.bel.trans (hb.mono h.bel.size), h.xx.below hb, h.gg.below hb, h.o4.below h.xx.lt hb, h.o5.below h.gg.lt hb, h.d45⟩
theorem StR.markX (h : StR w3 wi x g X Y F4 F5) {X' : List R3} (hc : Chg F4 wi wj) (hx : RelsF wj x X' F4) : StR w3 wj x g X' Y F4 F5 :=
  ⟨h.bel.trans (hc.below h.o4.2.1 h.bel.size), hx, h.gg.chg hc (fun b hb hb' => h.d45 b hb' hb), ⟨h.o4.1, h.o4.2.1, hc.free h.o4.2.2⟩, h.o5.keep (fun b hb => hc.block b (h.gg.lt b hb) (fun hb' => h.d45 b hb' hb)), h.d45⟩
theorem StR.markG (h : StR w3 wi x g X Y F4 F5) {Y' : List R3} (hc : Chg F5 wi wj) (hy : RelsF wj g Y' F5) : StR w3 wj x g X Y' F4 F5 :=
  ⟨h.bel.trans (hc.below h.o5.2.1 h.bel.size), h.xx.chg hc h.d45, hy, h.o4.keep (fun b hb => hc.block b (h.xx.lt b hb) (h.d45 b hb)), ⟨h.o5.1, h.o5.2.1, hc.free h.o5.2.2⟩, h.d45⟩
end
end Go.Proofs.Ytnbcmkbkiebbdaa
