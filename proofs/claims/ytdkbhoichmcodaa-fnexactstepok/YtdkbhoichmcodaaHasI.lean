/- Own text. slices.Contains of texts. -/
import Derived.Test.YtdkbhoichmcodaaStrK
import Derived.Test.YtdkbhoichmcodaaHasP
import Derived.Test.YtdkbhoichmcodaaShelf
import Derived.Handy
namespace Go.Proofs.Ytdkbhoichmcodaa
open Go.RowKit Go.Deep Go.ChangeShapes Go.WideShapes
set_option linter.unusedVariables false
theorem containsS_has (L : List ByteArray) (x : ByteArray) : Lib.containsS L x = hasS L x := by
  rw [Bool.eq_iff_iff, Lib.containsS_iff]
  unfold hasS
  rw [List.any_eq_true]
  constructor
  · exact fun h => ⟨x, h, by simp⟩
  · rintro ⟨y, hy, e⟩
    have e' : y = x := bytes_same (by simpa using e)
    rw [← e']
    exact hy
/-- slices.Contains of texts. -/
theorem contains_any (v : Value) (L : List ByteArray) (g : List Nat) (x : ByteArray) (w : World) (h : StrsF w v L g) :
    Calls Try.prog 142 #[v, .string x] w fun e w' => e = .returned (.bool (hasS L x)) ∧ w' = w := by
  obtain ⟨a, c, rfl, hl, hc, h0, h1⟩ := h
  unfold maxLen at hc
  by_cases hne : L = []
  · subst hne
    exact Try.slices_Contains_string_empty a c x w
  · obtain ⟨b, o, rfl, hlt, rfl, hcell⟩ := h1 hne
    have := Try.slices_Contains_string b o L.length c L x w (Nat.le_refl _) (by omega) fun j hj => by
      rw [hcell j L[j] (by simp)]
      simp [List.getD_eq_getElem?_getD, hj]
    rw [List.take_length, containsS_has] at this
    exact this
end Go.Proofs.Ytdkbhoichmcodaa
