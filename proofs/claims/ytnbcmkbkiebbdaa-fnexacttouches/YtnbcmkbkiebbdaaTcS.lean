/- Own text. Whether a change touches the tables of a plan; the contract of spec.Touches. -/
import Derived.Test.YtnbcmkbkiebbdaaNmS
import Derived.Test.YtnbcmkbkiebbdaaRelC
import Derived.Handy
namespace Go.Proofs.Ytnbcmkbkiebbdaa
open Go.RowKit Go.Deep Go.ChangeShapes Go.WideShapes
set_option linter.unusedVariables false
/-- whether the text x stands in L. -/
def hasS (L : List ByteArray) (x : ByteArray) : Bool := L.any fun y => y.toList == x.toList
/-- whether a relation of rs that has rows is named in L. -/
def touchB (L : List ByteArray) (rs : List R3) : Bool := rs.any fun r => decide (0 < r.cs.length) && hasS L r.s
theorem hasS_step {L : List ByteArray} {k : Nat} {y x : ByteArray} (h : L[k]? = some y) : hasS (L.drop k) x = (y.toList == x.toList || hasS (L.drop (k + 1)) x) := by
  obtain ⟨hk, rfl⟩ := List.getElem?_eq_some_iff.1 h
  rw [List.drop_eq_getElem_cons hk]
  rfl
theorem touchB_step {L : List ByteArray} {rs : List R3} {k : Nat} {r : R3} (h : rs[k]? = some r) : touchB L (rs.drop k) = (decide (0 < r.cs.length) && hasS L r.s || touchB L (rs.drop (k + 1))) := by
  obtain ⟨hk, rfl⟩ := List.getElem?_eq_some_iff.1 h
  rw [List.drop_eq_getElem_cons hk]
  rfl
set_option maxHeartbeats 2000000 in
set_option maxRecDepth 100000 in
theorem l03Has_any (v : Value) (L : List ByteArray) (x : ByteArray) (w : World) (h : StrsI w v L) :
    Calls Try.prog 125 #[v, .string x] w fun e w' => e = .returned (.bool (hasS L x)) ∧ Below w.heap.size w w' := by
  obtain ⟨b, o, c, rfl, hl, hc, hlt, hcell⟩ := h
  unfold maxLen at hc
  go_enter Try.func125, Try.ntmps125
  go_wp2
  go_loopw [5] (fun i wr => ∃ k : Nat, k ≤ L.length ∧ i = .int .i64 k ∧ wr = w ∧ hasS L x = hasS (L.drop k) x) (fun i _ => L.length - (intOf i).toNat)
  case atStart => exact ⟨0, Nat.zero_le _, rfl, rfl, by simp⟩
  case round =>
    obtain ⟨k, hk, rfl, hwr, heq⟩ := hrel
    replace hwr := hwr.symm
    subst hwr
    have HE : Hid (hasS L x = hasS (L.drop k) x) := heq
    clear heq
    by_cases hkl : k < L.length
    · obtain ⟨m, hm⟩ : ∃ m, L[k]? = some m := ⟨L[k], by simp [hkl]⟩
      have hc0 := hcell k m hm
      have HS : Hid (hasS (L.drop k) x = (m.toList == x.toList || hasS (L.drop (k + 1)) x)) := hasS_step hm
      clear hcell hm
      by_cases hmx : m.toList = x.toList
      · have hme : (m.toList == x.toList) = true := by simpa using hmx
        have HB : Hid ((m.toList == x.toList) = true) := hme
        go_wp2
        go_returns
        exact ⟨ret_bool (by rw [HE.out, HS.out, HB.out, Bool.true_or]), Below.refl _ _⟩
      · have hme : (m.toList == x.toList) = false := by simpa using hmx
        have HB : Hid ((m.toList == x.toList) = false) := hme
        go_wp2
        exact ⟨⟨k + 1, hkl, by simp, by first | rfl | trivial, by rw [HE.out, HS.out, HB.out, Bool.false_or]⟩, by simp [intOf]; omega⟩
    · obtain rfl : k = L.length := by omega
      clear hcell
      go_wp2
      go_returns
      exact ⟨ret_bool (by rw [HE.out, List.drop_length]; rfl), Below.refl _ _⟩
set_option maxHeartbeats 4000000 in
set_option maxRecDepth 100000 in
theorem specTouches_any (D d : Nat) (v : Value) (rs : List R3) (p : P12) (ue us u : Value) (g : List Nat) (w : World) (hr : RelsIs w v rs) (hL0 : ListsP w D (PlansIs w D d) p ue us u g) (hn : wtP p ≤ 1048576) :
    Calls Try.prog 65 #[v, (.agg #[.int .i64 p.k, .string p.s, .int .i64 p.e.k, .int .i64 p.e.n, .int .i64 p.e.v.k, .int .i64 p.e.v.n, .string p.e.v.s, .string p.e.p, ue, us, .int .i64 p.n, u])] w fun e w' => e = .returned (.bool (touchB (namL d p) rs)) ∧ Below w.heap.size w w' := by
  obtain ⟨ae, ce, ak, ck, ap, cp, rfl, rfl, rfl, _, _, _, _, _, _⟩ := hL0.shape
  obtain ⟨a, c, b, o, rfl, hl, hc, ha⟩ := hr.pick
  unfold maxLen at hc
  obtain ⟨L, hL⟩ : ∃ L, Hid (namL d p = L) := ⟨_, rfl⟩
  rw [hL.out]
  go_enter Try.func65, Try.ntmps65
  go_wp2_with fail
  refine Calls.mono (specNames_any D d p _ _ _ g _ (hL0.below ?hb) hn) ?_
  case hb => repeat (first | (with_reducible exact Below.refl _ _) | (with_reducible refine Below.drew ?_) | (with_reducible refine Below.alloc ?_ ?hh _; case hh => first | (simp; done) | (simp; omega) | omega) | (with_reducible refine Below.setCell ?_ ?hh _; case hh => first | (simp; done) | (simp; omega) | omega) | refine bstep (by assumption) (by first | (simp; done) | (simp; omega) | omega) ?_)
  rintro q w1 ⟨⟨v1, rfl, hI⟩, hb1⟩
  rw [hL.out] at hI
  obtain ⟨yb, yo, yc, e1, _⟩ := id hI
  subst e1
  have hz1 := hb1.size
  simp only [World.size_alloc] at hz1
  have bel1 : Below w.heap.size w w1 := by repeat (first | (with_reducible exact Below.refl _ _) | (with_reducible refine Below.drew ?_) | (with_reducible refine Below.alloc ?_ ?hh _; case hh => first | (simp; done) | (simp; omega) | omega) | (with_reducible refine Below.setCell ?_ ?hh _; case hh => first | (simp; done) | (simp; omega) | omega) | refine bstep (by assumption) (by first | (simp; done) | (simp; omega) | omega) ?_)
  clear hb1 hr hL0
  go_wp2
  go_loopw [6] (fun i wr => ∃ k : Nat, k ≤ rs.length ∧ i = .int .i64 k ∧ Below w1.heap.size w1 wr ∧ touchB L rs = touchB L (rs.drop k)) (fun i _ => rs.length - (intOf i).toNat)
  case atStart => exact ⟨0, Nat.zero_le _, rfl, Below.refl _ _, by simp⟩
  case round =>
    obtain ⟨k, hk, rfl, hb, heq⟩ := hrel
    have HE : Hid (touchB L rs = touchB L (rs.drop k)) := heq
    have hzb := hb.size
    have belr : Below w.heap.size w wr := bel1.trans (hb.mono bel1.size)
    have hIr := hI.below hb
    clear heq
    by_cases hlt : k < rs.length
    · obtain ⟨rfl, hblt, hLr⟩ := ha k hlt
      obtain ⟨x, u, hx, c0, c1, c2, hR, hbr⟩ := hLr.at hblt belr hlt
      obtain ⟨ax, cx, bx, ox, rfl, hlx, hcx, _⟩ := hR.pick
      have HS : Hid (touchB L (rs.drop k) = (decide (0 < x.cs.length) && hasS L x.s || touchB L (rs.drop (k + 1)))) := touchB_step hx
      clear ha hLr hx hR hI
      by_cases hpos : 0 < x.cs.length
      · have hpI : (0 : Int) < x.cs.length := by omega
        have HP : Hid (decide (0 < x.cs.length) = true) := decide_eq_true hpos
        cases hh : hasS L x.s with
        | true =>
          have HH : Hid (hasS L x.s = true) := hh
          clear hh
          go_wp2_with (first | (go_at_call 125; refine Calls.mono (l03Has_any (.slice (some ⟨yb, yo, none⟩) L.length yc) L x.s wr hIr) ?_; rintro q w2 ⟨rfl, hb2⟩; rw [HH.out]; have hz2 := hb2.size) | fail)
          go_returns
          exact ⟨ret_bool (by rw [HE.out, HS.out, HP.out, HH.out]; rfl), belr.trans (hb2.mono belr.size)⟩
        | false =>
          have HH : Hid (hasS L x.s = false) := hh
          clear hh
          go_wp2_with (first | (go_at_call 125; refine Calls.mono (l03Has_any (.slice (some ⟨yb, yo, none⟩) L.length yc) L x.s wr hIr) ?_; rintro q w2 ⟨rfl, hb2⟩; rw [HH.out]; have hz2 := hb2.size) | fail)
          exact ⟨⟨k + 1, hlt, by simp, hb.trans (hb2.mono hzb), by rw [HE.out, HS.out, HP.out, HH.out]; rfl⟩, by simp [intOf]; omega⟩
      · have hpI : ¬ (0 : Int) < x.cs.length := by omega
        have HP : Hid (decide (0 < x.cs.length) = false) := decide_eq_false hpos
        go_wp2_with fail
        exact ⟨⟨k + 1, hlt, by simp, hb, by rw [HE.out, HS.out, HP.out]; rfl⟩, by simp [intOf]; omega⟩
    · obtain rfl : k = rs.length := by omega
      clear ha
      go_wp2
      go_returns
      exact ⟨ret_bool (by rw [HE.out, List.drop_length]; rfl), belr⟩
end Go.Proofs.Ytnbcmkbkiebbdaa
