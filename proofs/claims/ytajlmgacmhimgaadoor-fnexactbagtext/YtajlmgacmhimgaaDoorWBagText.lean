/- Own text. The walk of the statement on BagText. -/
import Derived.Test.YtajlmgacmhimgaaDoorToB
import Derived.Test.YtajlmgacmhimgaaDoorBtS
import Derived.Test.YtajlmgacmhimgaaDoorBtI
import Derived.WalkKit
import Derived.WalkSpells
import Derived.WalkLawsBesides
import Derived.Handy
import Derived.Below
import Derived.Deep.RegionHeld3
import Derived.Deep.DeepCutAuto
namespace Go.Proofs.YtajlmgacmhimgaaDoor.fnExactBagText
open Go.RowKit
set_option linter.unusedVariables false
set_option maxHeartbeats 4000000 in
set_option maxRecDepth 100000 in
theorem walk (W : Int) (v : Value) (cs : List C2) (hW : (Lit.int .i64 W).wf = true) (hw : CsWf cs) (w : World) (hr : RowsIs w v cs) (hE : Env w) :
    Calls Tryd.prog 5 #[.agg #[.int .i64 W, v]] w fun e w' => e = .returned (.bool true) ∧ Below w.heap.size w w' := by
  have HE : Hid (∀ w', Below w.heap.size w w' → Env w') := fun w' hb => hE.below hb
  clear hE
  go_enter Tryd.func5, Tryd.ntmps5
  go_wp2_with fail
  refine Calls.mono (szBag_any W v cs 1048576 _ (hr.below ?hb) hw (by decide) (by decide)) ?_
  case hb => repeat (first | exact Below.refl _ _ | refine Below.drew ?_ | refine Below.alloc ?_ (by first | (simp; done) | (simp; omega) | omega) _ | refine Below.setCell ?_ (by first | (simp; done) | (simp; omega) | omega) _ | refine bstep (by assumption) (by first | (simp; done) | (simp; omega) | omega) ?_)
  rintro e w1 ⟨⟨z1, rfl, l1, g1, s1⟩, hb1⟩
  have hz1 := hb1.size
  simp only [World.size_alloc] at hz1
  have b1 : w1.cell? ⟨w.heap.size, 0, none⟩ = some (.int .i64 W) := cell_later hb1 (by go_simp)
  have c1 : w1.cell? ⟨w.heap.size, 1, none⟩ = some (v) := cell_later hb1 (by go_simp)
  have hr1 : RowsIs w1 v cs := hr.below (by repeat (first | exact Below.refl _ _ | refine Below.drew ?_ | refine Below.alloc ?_ (by first | (simp; done) | (simp; omega) | omega) _ | refine Below.setCell ?_ (by first | (simp; done) | (simp; omega) | omega) _ | refine bstep (by assumption) (by first | (simp; done) | (simp; omega) | omega) ?_))
  by_cases hn1 : z1 < 0
  · go_wp2_with fail
    go_returns
    exact ⟨rfl, by repeat (first | exact Below.refl _ _ | refine Below.drew ?_ | refine Below.alloc ?_ (by first | (simp; done) | (simp; omega) | omega) _ | refine Below.setCell ?_ (by first | (simp; done) | (simp; omega) | omega) _ | refine bstep (by assumption) (by first | (simp; done) | (simp; omega) | omega) ?_)⟩
  have hn : wtb cs ≤ 1048576 := by have := s1 (by omega); omega
  clear s1 hr
  go_wp2_with fail
  refine (toBag_rows W v cs w1 hr1 hn).mono ?_
  rintro e w2 ⟨⟨u2, rfl, hU2⟩, hb2⟩
  have hz2 := hb2.size
  have hr2 := hr1.below hb2
  have b2 : w2.cell? ⟨w.heap.size, 0, none⟩ = some (.int .i64 W) := cell_later hb2 (by go_simp)
  have c2 : w2.cell? ⟨w.heap.size, 1, none⟩ = some (v) := cell_later hb2 (by go_simp)
  clear hr1 b1 c1
  go_wp2_with fail
  refine (specBagText_any W u2 cs w2 hw hU2).mono ?_
  rintro e w3 ⟨rfl, hb3⟩
  have hz3 := hb3.size
  have hr3 := hr2.below hb3
  have b3 : w3.cell? ⟨w.heap.size, 0, none⟩ = some (.int .i64 W) := cell_later hb3 (by go_simp)
  have c3 : w3.cell? ⟨w.heap.size, 1, none⟩ = some (v) := cell_later hb3 (by go_simp)
  clear hr2 b2 c2 hU2
  go_wp2_with fail
  refine (toBag_rows W v cs w3 hr3 hn).mono ?_
  rintro e w4 ⟨⟨u4, rfl, hU4⟩, hb4⟩
  obtain ⟨a4, l4, n4, rfl⟩ := hU4.shape
  have hz4 := hb4.size
  have hy4 : w.heap.size < w4.heap.size := by omega
  have hr4 := hr3.below hb4
  have b4 : w4.cell? ⟨w.heap.size, 0, none⟩ = some (.int .i64 W) := cell_later hb4 (by go_simp)
  have c4 : w4.cell? ⟨w.heap.size, 1, none⟩ = some (v) := cell_later hb4 (by go_simp)
  clear hr3 b3 c3
  go_wp2_with fail
  refine Calls.mono (implBagText_any W (.slice a4 l4 n4) cs _ hw (hU4.below ?hb) (HE.out _ ?hb2)) ?_
  case hb => repeat (first | exact Below.refl _ _ | refine Below.drew ?_ | refine Below.alloc ?_ (by first | (simp; done) | (simp; omega) | omega) _ | refine Below.setCell ?_ (by first | (simp; done) | (simp; omega) | omega) _ | refine bstep (by assumption) (by first | (simp; done) | (simp; omega) | omega) ?_)
  case hb2 => repeat (first | exact Below.refl _ _ | refine Below.drew ?_ | refine Below.alloc ?_ (by first | (simp; done) | (simp; omega) | omega) _ | refine Below.setCell ?_ (by first | (simp; done) | (simp; omega) | omega) _ | refine bstep (by assumption) (by first | (simp; done) | (simp; omega) | omega) ?_)
  rintro e w5 ⟨rfl, hb5⟩
  have hz5 := hb5.size
  simp at hz5
  have hr5 : RowsIs w5 v cs := hr4.below (by repeat (first | exact Below.refl _ _ | refine Below.drew ?_ | refine Below.alloc ?_ (by first | (simp; done) | (simp; omega) | omega) _ | refine Below.setCell ?_ (by first | (simp; done) | (simp; omega) | omega) _ | refine bstep (by assumption) (by first | (simp; done) | (simp; omega) | omega) ?_))
  have hU5 : RowsIs w5 (.slice a4 l4 n4) cs := hU4.below (by repeat (first | exact Below.refl _ _ | refine Below.drew ?_ | refine Below.alloc ?_ (by first | (simp; done) | (simp; omega) | omega) _ | refine Below.setCell ?_ (by first | (simp; done) | (simp; omega) | omega) _ | refine bstep (by assumption) (by first | (simp; done) | (simp; omega) | omega) ?_))
  have b5 : w5.cell? ⟨w.heap.size, 0, none⟩ = some (.int .i64 W) := cell_later hb5 (by go_simp)
  have c5 : w5.cell? ⟨w.heap.size, 1, none⟩ = some (v) := cell_later hb5 (by go_simp)
  have x5 : w5.cell? ⟨w4.heap.size, 0, none⟩ = some (.int .i64 W) := cell_later hb5 (by go_simp)
  have y5 : w5.cell? ⟨w4.heap.size, 1, none⟩ = some (.slice a4 l4 n4) := cell_later hb5 (by go_simp)
  clear hr4 b4 c4 hU4
  have hy5 : w.heap.size < w5.heap.size := by omega
  have hy6 : w4.heap.size < w5.heap.size := by omega
  go_wp2_with fail
  go_region_held3 (fun w' => w'.cell? ⟨w.heap.size, 0, none⟩ = some (.int .i64 W) ∧ w'.cell? ⟨w.heap.size, 1, none⟩ = some v ∧ w'.cell? ⟨w4.heap.size, 0, none⟩ = some (.int .i64 W) ∧ w'.cell? ⟨w4.heap.size, 1, none⟩ = some (.slice a4 l4 n4)) (refine ⟨?_, ?_, ?_, ?_⟩ <;> first | (go_simp; done) | (exact cell_later (by assumption) (by go_simp))) (first | (go_at_call 16; refine Calls.mono (toBag_rows W v cs _ (hr5.below (by repeat (first | exact Below.refl _ _ | refine Below.drew ?_ | refine Below.alloc ?_ (by first | (simp; done) | (simp; omega) | omega) _ | refine Below.setCell ?_ (by first | (simp; done) | (simp; omega) | omega) _ | refine bstep (by assumption) (by first | (simp; done) | (simp; omega) | omega) ?_))) hn) ?_; rintro e w6 ⟨⟨u6, rfl, hU6⟩, hb6⟩; have hz6 := hb6.size; (try simp at hz6)) | (go_at_call 18; refine Calls.mono (eqBag_same W (.slice a4 l4 n4) u6 cs _ (hU5.below (by repeat (first | exact Below.refl _ _ | refine Below.drew ?_ | refine Below.alloc ?_ (by first | (simp; done) | (simp; omega) | omega) _ | refine Below.setCell ?_ (by first | (simp; done) | (simp; omega) | omega) _ | refine bstep (by assumption) (by first | (simp; done) | (simp; omega) | omega) ?_))) (hU6.below (by repeat (first | exact Below.refl _ _ | refine Below.drew ?_ | refine Below.alloc ?_ (by first | (simp; done) | (simp; omega) | omega) _ | refine Below.setCell ?_ (by first | (simp; done) | (simp; omega) | omega) _ | refine bstep (by assumption) (by first | (simp; done) | (simp; omega) | omega) ?_)))) ?_; rintro e w7 ⟨rfl, hb7⟩))
  all_goals go_wp2
  all_goals go_returns
  all_goals exact ⟨rfl, by repeat (first | exact Below.refl _ _ | refine Below.drew ?_ | refine Below.alloc ?_ (by first | (simp; done) | (simp; omega) | omega) _ | refine Below.setCell ?_ (by first | (simp; done) | (simp; omega) | omega) _ | refine bstep (by assumption) (by first | (simp; done) | (simp; omega) | omega) ?_)⟩
end Go.Proofs.YtajlmgacmhimgaaDoor.fnExactBagText
