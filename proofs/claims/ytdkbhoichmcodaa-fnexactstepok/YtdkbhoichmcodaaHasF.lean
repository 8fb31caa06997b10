/- Own text. The contract of spec.l03Has at any slice of texts; a slice of texts that is cut. -/
import Derived.Test.YtdkbhoichmcodaaStrK
import Derived.Test.YtdkbhoichmcodaaHasP
import Derived.Handy
import Derived.Below
namespace Go.Proofs.Ytdkbhoichmcodaa
open Go.RowKit Go.Deep
set_option linter.unusedVariables false
theorem StrsF.cut {w : World} {a : Option Addr} {l c : Nat} {ns : List ByteArray} {g : List Nat} (h : StrsF w (.slice a l c) ns g) {k : Nat} (hk : k ≤ ns.length) : ∃ g', StrsF w (.slice a k c) (ns.take k) g' := by
  obtain ⟨a', c', e, hl, hc, h0, h1⟩ := h
  obtain ⟨rfl, rfl, rfl⟩ : a = a' ∧ l = ns.length ∧ c = c' := by injection e with e1 e2 e3; exact ⟨e1, e2, e3⟩
  have hkl : (ns.take k).length = k := by rw [List.length_take]; omega
  by_cases hk0 : k = 0
  · subst hk0
    exact ⟨[], a, c, by simp, by simp, hc, fun _ => rfl, fun h => absurd (by simp) h⟩
  · obtain ⟨b, o, ea, hlt, eg, hC⟩ := h1 (by rintro rfl; simp at hk; omega)
    refine ⟨[b], a, c, by rw [hkl], by rw [hkl]; omega, hc, fun h => ?_, fun _ => ⟨b, o, ea, hlt, rfl, fun i n hn => hC i n ?_⟩⟩
    · exfalso; have := congrArg List.length h; rw [hkl] at this; simp at this; omega
    · rw [List.getElem?_take] at hn
      split at hn
      · exact hn
      · cases hn
set_option maxHeartbeats 2000000 in
set_option maxRecDepth 100000 in
theorem l03HasF_any (v : Value) (L : List ByteArray) (g : List Nat) (x : ByteArray) (w : World) (h : StrsF w v L g) :
    Calls Try.prog 111 #[v, .string x] w fun e w' => e = .returned (.bool (hasS L x)) ∧ w' = w := by
  obtain ⟨a, c, b, o, rfl, hl, hc, _, ha⟩ := h.pick
  unfold maxLen at hc
  clear h
  go_enter Try.func111, Try.ntmps111
  go_wp2
  go_loopw [5] (fun i wr => ∃ k : Nat, k ≤ L.length ∧ i = .int .i64 k ∧ wr = w ∧ hasS L x = hasS (L.drop k) x) (fun i _ => L.length - (intOf i).toNat)
  case atStart => exact ⟨0, Nat.zero_le _, rfl, rfl, by simp⟩
  case round =>
    obtain ⟨k, hk, rfl, hwr, heq⟩ := hrel
    replace hwr := hwr.symm
    subst hwr
    have HE : Hid (hasS L x = hasS (L.drop k) x) := heq
    clear heq
    by_cases hkl : k < L.length
    · obtain ⟨m, hm⟩ : ∃ m, L[k]? = some m := ⟨L[k], by simp [hkl]⟩
      obtain ⟨rfl, hblt, _, hcell⟩ := ha k hkl
      have hc0 := hcell k m hm
      have HS : Hid (hasS (L.drop k) x = (m.toList == x.toList || hasS (L.drop (k + 1)) x)) := hasS_step hm
      clear hcell hm ha
      by_cases hmx : m.toList = x.toList
      · have hme : (m.toList == x.toList) = true := by simpa using hmx
        have HB : Hid ((m.toList == x.toList) = true) := hme
        go_wp2
        go_returns
        exact ⟨ret_bool (by rw [HE.out, HS.out, HB.out, Bool.true_or]), rfl⟩
      · have hme : (m.toList == x.toList) = false := by simpa using hmx
        have HB : Hid ((m.toList == x.toList) = false) := hme
        go_wp2
        exact ⟨⟨k + 1, hkl, by simp, by first | rfl | trivial, by rw [HE.out, HS.out, HB.out, Bool.false_or]⟩, by simp [intOf]; omega⟩
    · obtain rfl : k = L.length := by omega
      clear ha
      go_wp2
      go_returns
      exact ⟨ret_bool (by rw [HE.out, List.drop_length]; rfl), rfl⟩
end Go.Proofs.Ytdkbhoichmcodaa
