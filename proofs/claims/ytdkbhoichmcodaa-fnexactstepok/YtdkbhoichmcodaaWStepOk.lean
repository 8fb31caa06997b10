/- Own text. The walk: For every argument, whatever memory it lies in, the statement's function on StepOk returns true, and each argument reads afterwards as it read before; no condition. -/
import Derived.Test.YtdkbhoichmcodaaStpC
import Derived.Test.YtdkbhoichmcodaaStpS
import Derived.WalkKit
import Derived.WalkSpells
import Derived.WalkLawsBesides
import Derived.Handy
import Derived.Below
import Derived.Deep.RegionHeld3
import Derived.Deep.DeepCutAuto
namespace Go.Proofs.Ytdkbhoichmcodaa.fnExactStepOk
open Go.RowKit
set_option linter.unusedVariables false
set_option maxHeartbeats 4000000 in
set_option maxRecDepth 100000 in
theorem walk (x : T5) (uc ur : Value) (hw : x.wf) (w : World) (hr : StpIs w uc ur x) :
    Calls Try.prog 5 #[(.agg #[.int .i64 x.k, .string x.s, uc, .string x.q, ur])] w fun e w' => e = .returned (.bool true) ∧ Below w.heap.size w w' := by
  obtain ⟨⟨ac, cc, rfl, _, _⟩, ar, cr, rfl, _, _⟩ := hr.shape
  obtain ⟨tb, hT⟩ : ∃ tb, Hid (okStep x = tb) := ⟨_, rfl⟩
  go_enter Try.func5, Try.ntmps5
  go_wp2_with fail
  refine Calls.mono (szStep_any x (.slice ac x.cs.length cc) (.slice ar x.rs.length cr) 1048576 _ (hr.below ?hb) hw (by decide) (by decide)) ?_
  case hb => repeat (first | (with_reducible exact Below.refl _ _) | (with_reducible refine Below.drew ?_) | (with_reducible refine Below.alloc ?_ ?hh _; case hh => first | (simp; done) | (simp; omega) | omega) | (with_reducible refine Below.setCell ?_ ?hh _; case hh => first | (simp; done) | (simp; omega) | omega) | refine bstep (by assumption) (by first | (simp; done) | (simp; omega) | omega) ?_)
  rintro e w1 ⟨⟨z1, rfl, l1, g1, s1⟩, hb1⟩
  have hz1 := hb1.size
  simp only [World.size_alloc] at hz1
  have b0 : w1.cell? ⟨w.heap.size, 0, none⟩ = some (.int .i64 x.k) := cell_later hb1 (by go_simp)
  have b1 : w1.cell? ⟨w.heap.size, 1, none⟩ = some (.string x.s) := cell_later hb1 (by go_simp)
  have b2 : w1.cell? ⟨w.heap.size, 2, none⟩ = some (.slice ac x.cs.length cc) := cell_later hb1 (by go_simp)
  have b3 : w1.cell? ⟨w.heap.size, 3, none⟩ = some (.string x.q) := cell_later hb1 (by go_simp)
  have b4 : w1.cell? ⟨w.heap.size, 4, none⟩ = some (.slice ar x.rs.length cr) := cell_later hb1 (by go_simp)
  have hr1 := hr.below (show Below w.heap.size w w1 by repeat (first | (with_reducible exact Below.refl _ _) | (with_reducible refine Below.drew ?_) | (with_reducible refine Below.alloc ?_ ?hh _; case hh => first | (simp; done) | (simp; omega) | omega) | (with_reducible refine Below.setCell ?_ ?hh _; case hh => first | (simp; done) | (simp; omega) | omega) | refine bstep (by assumption) (by first | (simp; done) | (simp; omega) | omega) ?_))
  have bel1 : Below w.heap.size w w1 := by repeat (first | (with_reducible exact Below.refl _ _) | (with_reducible refine Below.drew ?_) | (with_reducible refine Below.alloc ?_ ?hh _; case hh => first | (simp; done) | (simp; omega) | omega) | (with_reducible refine Below.setCell ?_ ?hh _; case hh => first | (simp; done) | (simp; omega) | omega) | refine bstep (by assumption) (by first | (simp; done) | (simp; omega) | omega) ?_)
  by_cases hn1 : z1 < 0
  · go_wp2_with fail
    go_returns
    exact ⟨rfl, bel1⟩
  have hn : wtT x ≤ 1048576 := by have := s1 (by omega); omega
  clear s1 hr hb1
  go_wp2_with fail
  refine (toStep_is x (.slice ac x.cs.length cc) (.slice ar x.rs.length cr) w1 hr1 hn).mono ?_
  rintro e w2 ⟨⟨vc, vr, rfl, hU2⟩, hb2⟩
  obtain ⟨⟨a2, n2, rfl, _, _⟩, r2, m2, rfl, _, _⟩ := hU2.shape
  have hz2 := hb2.size
  have hr2 := hr1.below hb2
  have c0 : w2.cell? ⟨w.heap.size, 0, none⟩ = some (.int .i64 x.k) := cell_later hb2 (by go_simp)
  have c1 : w2.cell? ⟨w.heap.size, 1, none⟩ = some (.string x.s) := cell_later hb2 (by go_simp)
  have c2 : w2.cell? ⟨w.heap.size, 2, none⟩ = some (.slice ac x.cs.length cc) := cell_later hb2 (by go_simp)
  have c3 : w2.cell? ⟨w.heap.size, 3, none⟩ = some (.string x.q) := cell_later hb2 (by go_simp)
  have c4 : w2.cell? ⟨w.heap.size, 4, none⟩ = some (.slice ar x.rs.length cr) := cell_later hb2 (by go_simp)
  have bel2 : Below w.heap.size w w2 := bel1.trans (hb2.mono bel1.size)
  clear hr1 hb2 bel1
  clear b0 b1 b2 b3 b4
  go_wp2_with fail
  refine (specStepOk_any x (.slice a2 x.cs.length n2) (.slice r2 x.rs.length m2) w2 hw hU2).mono ?_
  rw [hT.out]
  rintro e w3 ⟨rfl, hb3⟩
  have hz3 := hb3.size
  have hr3 := hr2.below hb3
  have b0 : w3.cell? ⟨w.heap.size, 0, none⟩ = some (.int .i64 x.k) := cell_later hb3 (by go_simp)
  have b1 : w3.cell? ⟨w.heap.size, 1, none⟩ = some (.string x.s) := cell_later hb3 (by go_simp)
  have b2 : w3.cell? ⟨w.heap.size, 2, none⟩ = some (.slice ac x.cs.length cc) := cell_later hb3 (by go_simp)
  have b3 : w3.cell? ⟨w.heap.size, 3, none⟩ = some (.string x.q) := cell_later hb3 (by go_simp)
  have b4 : w3.cell? ⟨w.heap.size, 4, none⟩ = some (.slice ar x.rs.length cr) := cell_later hb3 (by go_simp)
  have bel3 : Below w.heap.size w w3 := bel2.trans (hb3.mono bel2.size)
  clear hr2 hU2 hb3 bel2
  clear c0 c1 c2 c3 c4
  go_wp2_with fail
  refine (toStep_is x (.slice ac x.cs.length cc) (.slice ar x.rs.length cr) w3 hr3 hn).mono ?_
  rintro e w4 ⟨⟨vc, vr, rfl, hU4⟩, hb4⟩
  obtain ⟨⟨a4, n4, rfl, _, _⟩, r4, m4, rfl, _, _⟩ := hU4.shape
  have hz4 := hb4.size
  have hy4 : w.heap.size < w4.heap.size := by omega
  have hr4 := hr3.below hb4
  have c0 : w4.cell? ⟨w.heap.size, 0, none⟩ = some (.int .i64 x.k) := cell_later hb4 (by go_simp)
  have c1 : w4.cell? ⟨w.heap.size, 1, none⟩ = some (.string x.s) := cell_later hb4 (by go_simp)
  have c2 : w4.cell? ⟨w.heap.size, 2, none⟩ = some (.slice ac x.cs.length cc) := cell_later hb4 (by go_simp)
  have c3 : w4.cell? ⟨w.heap.size, 3, none⟩ = some (.string x.q) := cell_later hb4 (by go_simp)
  have c4 : w4.cell? ⟨w.heap.size, 4, none⟩ = some (.slice ar x.rs.length cr) := cell_later hb4 (by go_simp)
  have bel4 : Below w.heap.size w w4 := bel3.trans (hb4.mono bel3.size)
  clear hr3 hb4 bel3
  clear b0 b1 b2 b3 b4
  go_wp2_with fail
  refine Calls.mono (implStepOk_any x (.slice a4 x.cs.length n4) (.slice r4 x.rs.length m4) _ hw (hU4.below ?hb)) ?_
  case hb => repeat (first | (with_reducible exact Below.refl _ _) | (with_reducible refine Below.drew ?_) | (with_reducible refine Below.alloc ?_ ?hh _; case hh => first | (simp; done) | (simp; omega) | omega) | (with_reducible refine Below.setCell ?_ ?hh _; case hh => first | (simp; done) | (simp; omega) | omega) | refine bstep (by assumption) (by first | (simp; done) | (simp; omega) | omega) ?_)
  rw [hT.out]
  rintro e w5 ⟨rfl, hb5⟩
  have hz5 := hb5.size
  simp at hz5
  have hr5 := hr4.below (show Below w4.heap.size w4 w5 by repeat (first | (with_reducible exact Below.refl _ _) | (with_reducible refine Below.drew ?_) | (with_reducible refine Below.alloc ?_ ?hh _; case hh => first | (simp; done) | (simp; omega) | omega) | (with_reducible refine Below.setCell ?_ ?hh _; case hh => first | (simp; done) | (simp; omega) | omega) | refine bstep (by assumption) (by first | (simp; done) | (simp; omega) | omega) ?_))
  have hU5 := hU4.below (show Below w4.heap.size w4 w5 by repeat (first | (with_reducible exact Below.refl _ _) | (with_reducible refine Below.drew ?_) | (with_reducible refine Below.alloc ?_ ?hh _; case hh => first | (simp; done) | (simp; omega) | omega) | (with_reducible refine Below.setCell ?_ ?hh _; case hh => first | (simp; done) | (simp; omega) | omega) | refine bstep (by assumption) (by first | (simp; done) | (simp; omega) | omega) ?_))
  have bel5 : Below w.heap.size w w5 := bel4.trans ((show Below w4.heap.size w4 w5 by repeat (first | (with_reducible exact Below.refl _ _) | (with_reducible refine Below.drew ?_) | (with_reducible refine Below.alloc ?_ ?hh _; case hh => first | (simp; done) | (simp; omega) | omega) | (with_reducible refine Below.setCell ?_ ?hh _; case hh => first | (simp; done) | (simp; omega) | omega) | refine bstep (by assumption) (by first | (simp; done) | (simp; omega) | omega) ?_)).mono bel4.size)
  have b0 : w5.cell? ⟨w.heap.size, 0, none⟩ = some (.int .i64 x.k) := cell_later hb5 (by go_simp)
  have b1 : w5.cell? ⟨w.heap.size, 1, none⟩ = some (.string x.s) := cell_later hb5 (by go_simp)
  have b2 : w5.cell? ⟨w.heap.size, 2, none⟩ = some (.slice ac x.cs.length cc) := cell_later hb5 (by go_simp)
  have b3 : w5.cell? ⟨w.heap.size, 3, none⟩ = some (.string x.q) := cell_later hb5 (by go_simp)
  have b4 : w5.cell? ⟨w.heap.size, 4, none⟩ = some (.slice ar x.rs.length cr) := cell_later hb5 (by go_simp)
  have y0 : w5.cell? ⟨w4.heap.size, 0, none⟩ = some (.int .i64 x.k) := cell_later hb5 (by go_simp)
  have y1 : w5.cell? ⟨w4.heap.size, 1, none⟩ = some (.string x.s) := cell_later hb5 (by go_simp)
  have y2 : w5.cell? ⟨w4.heap.size, 2, none⟩ = some (.slice a4 x.cs.length n4) := cell_later hb5 (by go_simp)
  have y3 : w5.cell? ⟨w4.heap.size, 3, none⟩ = some (.string x.q) := cell_later hb5 (by go_simp)
  have y4 : w5.cell? ⟨w4.heap.size, 4, none⟩ = some (.slice r4 x.rs.length m4) := cell_later hb5 (by go_simp)
  clear hr4 hU4 hb5 bel4
  clear c0 c1 c2 c3 c4
  have hy5 : w.heap.size < w5.heap.size := by omega
  have hy6 : w4.heap.size < w5.heap.size := by omega
  cases tb <;> (
    go_wp2_with fail
    go_region_held3 (fun w' => w'.cell? ⟨w.heap.size, 0, none⟩ = some (.int .i64 x.k) ∧ w'.cell? ⟨w.heap.size, 1, none⟩ = some (.string x.s) ∧ w'.cell? ⟨w.heap.size, 2, none⟩ = some (.slice ac x.cs.length cc) ∧ w'.cell? ⟨w.heap.size, 3, none⟩ = some (.string x.q) ∧ w'.cell? ⟨w.heap.size, 4, none⟩ = some (.slice ar x.rs.length cr) ∧ w'.cell? ⟨w4.heap.size, 0, none⟩ = some (.int .i64 x.k) ∧ w'.cell? ⟨w4.heap.size, 1, none⟩ = some (.string x.s) ∧ w'.cell? ⟨w4.heap.size, 2, none⟩ = some (.slice a4 x.cs.length n4) ∧ w'.cell? ⟨w4.heap.size, 3, none⟩ = some (.string x.q) ∧ w'.cell? ⟨w4.heap.size, 4, none⟩ = some (.slice r4 x.rs.length m4)) (refine ⟨?_, ?_, ?_, ?_, ?_, ?_, ?_, ?_, ?_, ?_⟩ <;> first | (with_reducible assumption) | (go_simp; done) | (exact cell_later (by assumption) (by go_simp))) (first | (go_at_call 26; refine Calls.mono (toStep_is x (.slice ac x.cs.length cc) (.slice ar x.rs.length cr) _ (hr5.below (by repeat (first | (with_reducible exact Below.refl _ _) | (with_reducible refine Below.drew ?_) | (with_reducible refine Below.alloc ?_ ?hh _; case hh => first | (simp; done) | (simp; omega) | omega) | (with_reducible refine Below.setCell ?_ ?hh _; case hh => first | (simp; done) | (simp; omega) | omega) | refine bstep (by assumption) (by first | (simp; done) | (simp; omega) | omega) ?_))) hn) ?_; rintro e w6 ⟨⟨vc, vr, rfl, hU6⟩, hb6⟩; have hz6 := hb6.size; (try simp at hz6)) | (go_at_call 28; refine Calls.mono (eqStep_same x (.slice a4 x.cs.length n4) (.slice r4 x.rs.length m4) _ _ _ (hU5.below (by repeat (first | (with_reducible exact Below.refl _ _) | (with_reducible refine Below.drew ?_) | (with_reducible refine Below.alloc ?_ ?hh _; case hh => first | (simp; done) | (simp; omega) | omega) | (with_reducible refine Below.setCell ?_ ?hh _; case hh => first | (simp; done) | (simp; omega) | omega) | refine bstep (by assumption) (by first | (simp; done) | (simp; omega) | omega) ?_))) (by assumption)) ?_; rintro e w7 ⟨rfl, hb7⟩; have hz7 := hb7.size; (try simp at hz7)) | fail)
    all_goals go_wp2
    all_goals go_returns
    all_goals (refine ⟨rfl, bel5.trans (Below.mono (?_ : Below w5.heap.size w5 _) bel5.size)⟩; repeat (first | (with_reducible exact Below.refl _ _) | (with_reducible refine Below.drew ?_) | (with_reducible refine Below.alloc ?_ ?hh _; case hh => first | (simp; done) | (simp; omega) | omega) | (with_reducible refine Below.setCell ?_ ?hh _; case hh => first | (simp; done) | (simp; omega) | omega) | refine bstep (by assumption) (by first | (simp; done) | (simp; omega) | omega) ?_)))
end Go.Proofs.Ytdkbhoichmcodaa.fnExactStepOk
