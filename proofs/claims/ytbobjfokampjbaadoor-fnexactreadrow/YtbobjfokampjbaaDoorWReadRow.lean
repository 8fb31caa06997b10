/- Own text. The walk of the statement on ReadRow. -/
import Derived.Test.YtbobjfokampjbaaDoorRrJ
import Derived.WalkKit
import Derived.WalkSpells
import Derived.WalkLawsBesides
import Derived.Handy
import Derived.Below
import Derived.Deep.RegionHeld3
import Derived.Deep.DeepCutAuto
namespace Go.Proofs.YtbobjfokampjbaaDoor.fnExactReadRow
open Go.RowKit
set_option linter.unusedVariables false
theorem row_len : ∀ (k : Nat) (l : List UInt8) (vs : List V3), rowV k l = some vs → vs.length ≤ l.length + 1
  | 0, l, vs, h => by cases h
  | k + 1, l, vs, h => by
    rw [rowV] at h
    cases ho : oneV l with
    | none => rw [ho] at h; cases h
    | some x =>
      obtain ⟨v, r⟩ := x
      have hl := oneV_len ho
      rw [ho] at h
      cases r with
      | nil => injection h with h; rw [← h]; simp
      | cons c r =>
        dsimp only at h
        split at h
        · cases hr : rowV k r with
          | none => rw [hr] at h; cases h
          | some us =>
            rw [hr] at h
            injection h with h
            have := row_len k r us hr
            rw [← h]
            simp at hl ⊢
            omega
        · cases h
theorem rr_len (l : List UInt8) : (rrR l).length ≤ l.length + 1 := by
  unfold rrR
  cases h : rowV (l.length + 1) l with
  | none => simp
  | some vs => exact row_len _ _ _ h
set_option maxHeartbeats 4000000 in
set_option maxRecDepth 100000 in
theorem walk (s : ByteArray) (hm : s.size ≤ maxLen) (w : World) (hE : EnvR w) :
    Calls Tryd.prog 3 #[.string s] w fun e w' => e = .returned (.bool true) ∧ Below w.heap.size w w' := by
  by_cases hbig : 1048576 < s.size
  · have hbI : (1048576 : Int) < s.size := by omega
    clear hbig
    go_enter Tryd.func3, Tryd.ntmps3
    go_wp2_with fail
    go_returns
    exact ⟨rfl, Below.refl _ _⟩
  have hs : s.size ≤ 1048576 := by omega
  have hsI : decide ((1048576 : Int) < s.size) = false := decide_eq_false (by omega)
  have hsp0 := specReadRow_any s s.data.toList w rfl hs
  have him0 := fun w' (hb : Below w.heap.size w w') => implReadRow_any s s.data.toList w' (bs_of s).symm hs (hE.below hb)
  have hn := rr_len s.data.toList
  have hll : s.data.toList.length = s.size := Array.length_toList
  unfold RrOut at hsp0 him0
  generalize rrR s.data.toList = vs at *
  generalize rrO s.data.toList = bb at *
  have hn2 : vs.length ≤ 1048577 := by omega
  clear hbig hm hE hn hll
  go_enter Tryd.func3, Tryd.ntmps3
  go_wp2_with fail
  refine hsp0.mono ?_
  rintro e w1 ⟨⟨u1, rfl, hB1⟩, hb1⟩
  obtain ⟨a1, c1, rfl⟩ := own_shape3 hB1
  obtain ⟨g1, hG1, _⟩ := own_rowF hB1
  have hI1 := hG1.is
  have hz1 := hb1.size
  clear hsp0 hB1 hG1
  go_wp2_with fail
  refine (him0 _ hb1).mono ?_
  rintro e w2 ⟨⟨u2, rfl, hB2⟩, hb2⟩
  obtain ⟨a2, c2, rfl⟩ := own_shape3 hB2
  obtain ⟨g, hG2, hO2⟩ := own_rowF hB2
  have hz2 := hb2.size
  have hI2 := hI1.below hb2
  clear hB2
  go_wp2_with fail
  refine Calls.mono (eqValueS_same _ _ vs w2 hG2.is hI2) ?_
  rintro e w3 ⟨rfl, hb3⟩
  have hz3 := hb3.size
  have bel13 : Below w1.heap.size w1 w3 := hb2.trans (hb3.mono hz2)
  have hG3 := hG2.keep hz3 (fun b hb => hb3.block b (hG2.lt b hb))
  have hO3 := hO2.below hG2.lt hb3
  clear hb3 hG2 hO2 hI2 hb2
  go_wp2_with fail
  refine Calls.mono (markValueS_any 1 _ vs g w3 hG3 hO3.2.2 (by decide) (by omega)) ?_
  rintro e w4 ⟨rfl, hM4, hc4⟩
  have hz4 := hc4.size
  have bel14 : Below w1.heap.size w1 w4 := bel13.trans (hc4.below hO3.2.1 (by omega))
  have hheld := fun w' (h : RowIs w' (.slice a2 vs.length c2) (mV 1 vs)) => heldValueS_any 1 (.slice a2 vs.length c2) vs w' h (by decide) (by omega)
  have hk0 : ¬ (((1 + 3 * vs.length : Nat) : Int) < 0) := by omega
  have hM4' := hM4.is
  clear hc4 hG3 hO3 hM4 bel13
  generalize ((1 + 3 * vs.length : Nat) : Int) = kg at *
  go_wp2_with fail
  refine Calls.mono (hheld w4 hM4') ?_
  rintro e w5 ⟨rfl, hb5⟩
  have hz5 := hb5.size
  have bel15 : Below w1.heap.size w1 w5 := bel14.trans (hb5.mono (by omega))
  have hM5 := hM4'.below hb5
  clear hb5 hM4' bel14
  go_wp2_with fail
  refine (him0 w5 (hb1.trans (bel15.mono hz1))).mono ?_
  rintro e w6 ⟨⟨u6, rfl, hB6⟩, hb6⟩
  obtain ⟨a6, c6, rfl⟩ := own_shape3 hB6
  obtain ⟨g6, hG6, _⟩ := own_rowF hB6
  have hz6 := hb6.size
  have bel16 : Below w1.heap.size w1 w6 := bel15.trans (hb6.mono (by omega))
  have hM6 := hM5.below hb6
  clear hb6 hM5 bel15 him0 hB6
  go_wp2_with fail
  refine Calls.mono (eqValueS_same _ _ vs w6 hG6.is (hI1.below bel16)) ?_
  rintro e w7 ⟨rfl, hb7⟩
  have hz7 := hb7.size
  have hM7 := hM6.below hb7
  have bel17 : Below w1.heap.size w1 w7 := bel16.trans (hb7.mono (by omega))
  clear hb7 hM6 bel16 hG6
  go_wp2_with fail
  refine Calls.mono (hheld w7 hM7) ?_
  rintro e w8 ⟨rfl, hb8⟩
  have belE : Below w.heap.size w w8 := hb1.trans ((bel17.trans (hb8.mono (by omega))).mono hz1)
  clear hb8 hheld hM7 bel17
  go_wp2_with fail
  go_returns
  exact ⟨rfl, belE⟩
end Go.Proofs.YtbobjfokampjbaaDoor.fnExactReadRow
