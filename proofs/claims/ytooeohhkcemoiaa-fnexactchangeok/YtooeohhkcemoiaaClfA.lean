/- Own text. Small facts of counted rows in memory. -/
import Derived.Test.YtooeohhkcemoiaaCopyC
import Derived.Test.YtooeohhkcemoiaaBagO
import Derived.Test.YtooeohhkcemoiaaRowM
import Derived.Test.YtooeohhkcemoiaaToB
import Derived.Handy
import Derived.Deep.DrawnRows
import Derived.Test.YtooeohhkcemoiaaLastE
namespace Go.Proofs.Ytooeohhkcemoiaa
open Go.RowKit Go.Deep
set_option linter.unusedVariables false
attribute [local go_sem ↓] Go.wp_at_zero Go.wp_at_succ
theorem RowF.shape {w : World} {v : Value} {vs : List V3} {g : List Nat} (h : RowF w v vs g) : ∃ a c, v = .slice a vs.length c := by
  obtain ⟨a, c, h, _⟩ := h
  exact ⟨a, c, h⟩
theorem CLF.at {w w' : World} {b o : Nat} {cs : List C2} {G : List (List Nat)} (h : CLF w b o cs G) (hG : G.length = cs.length) (hlt : b < w.heap.size) (hb : Below w.heap.size w w') {k : Nat} (hk : k < cs.length) :
    ∃ x u g, cs[k]? = some x ∧ G[k]? = some g ∧ w'.cell? ⟨b, o + k * 2, none⟩ = some u ∧ RowF w' u x.r g ∧ w'.cell? ⟨b, o + k * 2 + 1, none⟩ = some (.int .i64 x.n) ∧ b < w'.heap.size := by
  have hk' : k < G.length := by omega
  obtain ⟨u, h0, h1, h2⟩ := h k cs[k] G[k] (by simp) (by simp)
  exact ⟨cs[k], u, G[k], by simp, by simp, (hb.cell (p := ⟨b, _, none⟩) hlt).trans h0, h1.keep hb.size (fun c hc => hb.block c (h1.lt c hc)), (hb.cell (p := ⟨b, _, none⟩) hlt).trans h2, Nat.lt_of_lt_of_le hlt hb.size⟩
theorem RowF.below {w w' : World} {v : Value} {vs : List V3} {g : List Nat} (h : RowF w v vs g) (hb : Below w.heap.size w w') : RowF w' v vs g := h.keep hb.size fun c hc => hb.block c (h.lt c hc)
theorem take_snoc {α : Type} {l : List α} {k : Nat} {x : α} (h : l[k]? = some x) : l.take (k + 1) = l.take k ++ [x] := by
  obtain ⟨hk, rfl⟩ := List.getElem?_eq_some_iff.1 h
  exact List.take_succ_eq_append_getElem hk
end Go.Proofs.Ytooeohhkcemoiaa
