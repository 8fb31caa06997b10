/- Own text. The walk of the statement on SchemasOk. -/
import Derived.Test.YtfmdleomfpampaaToH
import Derived.Test.YtfmdleomfpampaaSchS
import Derived.Test.YtfmdleomfpampaaSchI
import Derived.WalkKit
import Derived.WalkSpells
import Derived.WalkLawsBesides
import Derived.Handy
import Derived.Below
import Derived.Deep.RegionHeld3
import Derived.Deep.DeepCutAuto
namespace Go.Proofs.Ytfmdleomfpampaa.fnExactSchemasOk
open Go.RowKit
set_option linter.unusedVariables false
set_option maxHeartbeats 4000000 in
set_option maxRecDepth 100000 in
theorem walk (v : Value) (rs : List S2) (hw : HsWf rs) (w : World) (hr : SchsIs w v rs) :
    Calls Try.prog 3 #[v] w fun e w' => e = .returned (.bool true) ∧ Below w.heap.size w w' := by
  obtain ⟨a, l, c, rfl⟩ := hr.shape
  go_enter Try.func3, Try.ntmps3
  go_wp2_with fail
  refine Calls.mono (szSchemaS_any (.slice a l c) rs 1048576 _ (hr.below ?hb) hw (by decide) (by decide)) ?_
  case hb => repeat (first | exact Below.refl _ _ | refine Below.drew ?_ | refine Below.alloc ?_ (by first | (simp; done) | (simp; omega) | omega) _ | refine Below.setCell ?_ (by first | (simp; done) | (simp; omega) | omega) _ | refine bstep (by assumption) (by first | (simp; done) | (simp; omega) | omega) ?_)
  rintro e w1 ⟨⟨z1, rfl, l1, g1, s1⟩, hb1⟩
  have hz1 := hb1.size
  have hr1 : SchsIs w1 (.slice a l c) rs := hr.below (by repeat (first | exact Below.refl _ _ | refine Below.drew ?_ | refine Below.alloc ?_ (by first | (simp; done) | (simp; omega) | omega) _ | refine Below.setCell ?_ (by first | (simp; done) | (simp; omega) | omega) _ | refine bstep (by assumption) (by first | (simp; done) | (simp; omega) | omega) ?_))
  by_cases hn1 : z1 < 0
  · go_wp2_with fail
    go_returns
    exact ⟨rfl, by repeat (first | exact Below.refl _ _ | refine Below.drew ?_ | refine Below.alloc ?_ (by first | (simp; done) | (simp; omega) | omega) _ | refine Below.setCell ?_ (by first | (simp; done) | (simp; omega) | omega) _ | refine bstep (by assumption) (by first | (simp; done) | (simp; omega) | omega) ?_)⟩
  have hn : wtH rs ≤ 1048576 := by have := s1 (by omega); omega
  clear s1 hr
  go_wp2_with fail
  refine (toSchemaS_schs (.slice a l c) rs w1 hr1 hn).mono ?_
  rintro e w2 ⟨⟨u2, rfl, hU2⟩, hb2⟩
  have hz2 := hb2.size
  have hr2 := hr1.below hb2
  clear hr1
  go_wp2_with fail
  refine (specSchemasOk_any u2 rs w2 hw hU2).mono ?_
  rintro e w3 ⟨rfl, hb3⟩
  have hz3 := hb3.size
  have hr3 := hr2.below hb3
  clear hr2 hU2
  go_wp2_with fail
  refine (toSchemaS_schs (.slice a l c) rs w3 hr3 hn).mono ?_
  rintro e w4 ⟨⟨u4, rfl, hU4⟩, hb4⟩
  obtain ⟨a4, l4, n4, rfl⟩ := hU4.shape
  have hz4 := hb4.size
  have hr4 := hr3.below hb4
  clear hr3
  go_wp2_with fail
  refine (implSchemasOk_any (.slice a4 l4 n4) rs w4 hw hU4).mono ?_
  rintro e w5 ⟨rfl, hb5⟩
  have hz5 := hb5.size
  have hr5 := hr4.below hb5
  have hU5 := hU4.below hb5
  clear hr4 hU4
  go_wp2_with (first | (go_at_call 8; refine Calls.mono (toSchemaS_schs (.slice a l c) rs _ (hr5.below (by repeat (first | exact Below.refl _ _ | refine Below.drew ?_ | refine Below.alloc ?_ (by first | (simp; done) | (simp; omega) | omega) _ | refine Below.setCell ?_ (by first | (simp; done) | (simp; omega) | omega) _ | refine bstep (by assumption) (by first | (simp; done) | (simp; omega) | omega) ?_))) hn) ?_; rintro e w6 ⟨⟨u6, rfl, hU6⟩, hb6⟩; have hz6 := hb6.size; (try simp at hz6)) | (go_at_call 10; refine Calls.mono (eqSchemaS_same (.slice a4 l4 n4) u6 rs _ (hU5.below (by repeat (first | exact Below.refl _ _ | refine Below.drew ?_ | refine Below.alloc ?_ (by first | (simp; done) | (simp; omega) | omega) _ | refine Below.setCell ?_ (by first | (simp; done) | (simp; omega) | omega) _ | refine bstep (by assumption) (by first | (simp; done) | (simp; omega) | omega) ?_))) (hU6.below (by repeat (first | exact Below.refl _ _ | refine Below.drew ?_ | refine Below.alloc ?_ (by first | (simp; done) | (simp; omega) | omega) _ | refine Below.setCell ?_ (by first | (simp; done) | (simp; omega) | omega) _ | refine bstep (by assumption) (by first | (simp; done) | (simp; omega) | omega) ?_)))) ?_; rintro e w7 ⟨rfl, hb7⟩))
  all_goals go_returns
  all_goals exact ⟨rfl, by repeat (first | exact Below.refl _ _ | refine Below.drew ?_ | refine Below.alloc ?_ (by first | (simp; done) | (simp; omega) | omega) _ | refine Below.setCell ?_ (by first | (simp; done) | (simp; omega) | omega) _ | refine bstep (by assumption) (by first | (simp; done) | (simp; omega) | omega) ?_)⟩
end Go.Proofs.Ytfmdleomfpampaa.fnExactSchemasOk
