/- Own text. The walk of the statement on ExpText. -/
import Derived.Test.YtajlmgacmhimgaaDoorToE
import Derived.Test.YtajlmgacmhimgaaDoorExtS
import Derived.Test.YtajlmgacmhimgaaDoorExtI
import Derived.WalkKit
import Derived.WalkSpells
import Derived.WalkLawsBesides
import Derived.Handy
import Derived.Below
import Derived.Deep.RegionHeld3
import Derived.Deep.DeepCutAuto
namespace Go.Proofs.YtajlmgacmhimgaaDoor.fnExactExpText
open Go.RowKit
set_option linter.unusedVariables false
set_option maxHeartbeats 4000000 in
set_option maxRecDepth 100000 in
theorem walk (e : E7) (v : Value) (F : List Nat) (d : Nat) (hw : e.wf) (w : World) (hr : KidsIs w d v e.ks F) (hE : Env w) :
    Calls Tryd.prog 6 #[(.agg #[.int .i64 e.k, .int .i64 e.n, .int .i64 e.v.k, .int .i64 e.v.n, .string e.v.s, .string e.p, v])] w fun x w' => x = .returned (.bool true) ∧ Below w.heap.size w w' := by
  obtain ⟨a0, c0, rfl, _, _⟩ := hr.shape
  have HE : Hid (∀ w', Below w.heap.size w w' → Env w') := fun w' hb => hE.below hb
  clear hE
  go_enter Tryd.func6, Tryd.ntmps6
  go_wp2_with fail
  refine Calls.mono (szExp_any e (.slice a0 e.ks.length c0) F 1048576 _ hw (hr.below ?hb) (by decide) (by decide)) ?_
  case hb => repeat (first | (with_reducible exact Below.refl _ _) | (with_reducible refine Below.drew ?_) | (with_reducible refine Below.alloc ?_ ?hh _; case hh => first | (simp; done) | (simp; omega) | omega) | (with_reducible refine Below.setCell ?_ ?hh _; case hh => first | (simp; done) | (simp; omega) | omega) | refine bstep (by assumption) (by first | (simp; done) | (simp; omega) | omega) ?_)
  rintro x w1 ⟨⟨z1, rfl, l1, g1, s1⟩, hb1⟩
  have hz1 := hb1.size
  simp only [World.size_alloc] at hz1
  have b1 : w1.cell? ⟨w.heap.size, 0, none⟩ = some (.int .i64 e.k) := cell_later hb1 (by go_simp)
  have c1 : w1.cell? ⟨w.heap.size, 1, none⟩ = some (.int .i64 e.n) := cell_later hb1 (by go_simp)
  have d1 : w1.cell? ⟨w.heap.size, 2, none⟩ = some (.int .i64 e.v.k) := cell_later hb1 (by go_simp)
  have f1 : w1.cell? ⟨w.heap.size, 3, none⟩ = some (.int .i64 e.v.n) := cell_later hb1 (by go_simp)
  have g1 : w1.cell? ⟨w.heap.size, 4, none⟩ = some (.string e.v.s) := cell_later hb1 (by go_simp)
  have h1 : w1.cell? ⟨w.heap.size, 5, none⟩ = some (.string e.p) := cell_later hb1 (by go_simp)
  have k1 : w1.cell? ⟨w.heap.size, 6, none⟩ = some (.slice a0 e.ks.length c0) := cell_later hb1 (by go_simp)
  have hr1 : KidsIs w1 d (.slice a0 e.ks.length c0) e.ks F := hr.below (by repeat (first | (with_reducible exact Below.refl _ _) | (with_reducible refine Below.drew ?_) | (with_reducible refine Below.alloc ?_ ?hh _; case hh => first | (simp; done) | (simp; omega) | omega) | (with_reducible refine Below.setCell ?_ ?hh _; case hh => first | (simp; done) | (simp; omega) | omega) | refine bstep (by assumption) (by first | (simp; done) | (simp; omega) | omega) ?_))
  by_cases hn1 : z1 < 0
  · go_wp2_with fail
    go_returns
    exact ⟨rfl, by repeat (first | (with_reducible exact Below.refl _ _) | (with_reducible refine Below.drew ?_) | (with_reducible refine Below.alloc ?_ ?hh _; case hh => first | (simp; done) | (simp; omega) | omega) | (with_reducible refine Below.setCell ?_ ?hh _; case hh => first | (simp; done) | (simp; omega) | omega) | refine bstep (by assumption) (by first | (simp; done) | (simp; omega) | omega) ?_)⟩
  have hn : wtE e ≤ 1048576 := by have := s1 (by omega); omega
  clear s1 hr
  go_wp2_with fail
  refine (toExp_any e (.slice a0 e.ks.length c0) F w1 hr1 hn).mono ?_
  rintro x w2 ⟨⟨u2, F2, rfl, hU2, _⟩, hb2⟩
  obtain ⟨a2, n2, rfl, _, _⟩ := hU2.shape
  have hz2 := hb2.size
  have hr2 := hr1.below hb2
  have b2 : w2.cell? ⟨w.heap.size, 0, none⟩ = some (.int .i64 e.k) := cell_later hb2 (by go_simp)
  have c2 : w2.cell? ⟨w.heap.size, 1, none⟩ = some (.int .i64 e.n) := cell_later hb2 (by go_simp)
  have d2 : w2.cell? ⟨w.heap.size, 2, none⟩ = some (.int .i64 e.v.k) := cell_later hb2 (by go_simp)
  have f2 : w2.cell? ⟨w.heap.size, 3, none⟩ = some (.int .i64 e.v.n) := cell_later hb2 (by go_simp)
  have g2 : w2.cell? ⟨w.heap.size, 4, none⟩ = some (.string e.v.s) := cell_later hb2 (by go_simp)
  have h2 : w2.cell? ⟨w.heap.size, 5, none⟩ = some (.string e.p) := cell_later hb2 (by go_simp)
  have k2 : w2.cell? ⟨w.heap.size, 6, none⟩ = some (.slice a0 e.ks.length c0) := cell_later hb2 (by go_simp)
  clear hr1 b1 c1 d1 f1 g1 h1 k1
  go_wp2_with fail
  refine (specExpText_any e (.slice a2 e.ks.length n2) F2 d w2 hw hU2 (HE.out _ (by repeat (first | (with_reducible exact Below.refl _ _) | (with_reducible refine Below.drew ?_) | (with_reducible refine Below.alloc ?_ ?hh _; case hh => first | (simp; done) | (simp; omega) | omega) | (with_reducible refine Below.setCell ?_ ?hh _; case hh => first | (simp; done) | (simp; omega) | omega) | refine bstep (by assumption) (by first | (simp; done) | (simp; omega) | omega) ?_)))).mono ?_
  rintro x w3 ⟨rfl, hb3⟩
  have hz3 := hb3.size
  have hr3 := hr2.below hb3
  have b3 : w3.cell? ⟨w.heap.size, 0, none⟩ = some (.int .i64 e.k) := cell_later hb3 (by go_simp)
  have c3 : w3.cell? ⟨w.heap.size, 1, none⟩ = some (.int .i64 e.n) := cell_later hb3 (by go_simp)
  have d3 : w3.cell? ⟨w.heap.size, 2, none⟩ = some (.int .i64 e.v.k) := cell_later hb3 (by go_simp)
  have f3 : w3.cell? ⟨w.heap.size, 3, none⟩ = some (.int .i64 e.v.n) := cell_later hb3 (by go_simp)
  have g3 : w3.cell? ⟨w.heap.size, 4, none⟩ = some (.string e.v.s) := cell_later hb3 (by go_simp)
  have h3 : w3.cell? ⟨w.heap.size, 5, none⟩ = some (.string e.p) := cell_later hb3 (by go_simp)
  have k3 : w3.cell? ⟨w.heap.size, 6, none⟩ = some (.slice a0 e.ks.length c0) := cell_later hb3 (by go_simp)
  clear hr2 hU2 b2 c2 d2 f2 g2 h2 k2
  go_wp2_with fail
  refine (toExp_any e (.slice a0 e.ks.length c0) F w3 hr3 hn).mono ?_
  rintro x w4 ⟨⟨u4, F4, rfl, hU4, _⟩, hb4⟩
  obtain ⟨a4, n4, rfl, _, _⟩ := hU4.shape
  have hz4 := hb4.size
  have hy4 : w.heap.size < w4.heap.size := by omega
  have hr4 := hr3.below hb4
  have b4 : w4.cell? ⟨w.heap.size, 0, none⟩ = some (.int .i64 e.k) := cell_later hb4 (by go_simp)
  have c4 : w4.cell? ⟨w.heap.size, 1, none⟩ = some (.int .i64 e.n) := cell_later hb4 (by go_simp)
  have d4 : w4.cell? ⟨w.heap.size, 2, none⟩ = some (.int .i64 e.v.k) := cell_later hb4 (by go_simp)
  have f4 : w4.cell? ⟨w.heap.size, 3, none⟩ = some (.int .i64 e.v.n) := cell_later hb4 (by go_simp)
  have g4 : w4.cell? ⟨w.heap.size, 4, none⟩ = some (.string e.v.s) := cell_later hb4 (by go_simp)
  have h4 : w4.cell? ⟨w.heap.size, 5, none⟩ = some (.string e.p) := cell_later hb4 (by go_simp)
  have k4 : w4.cell? ⟨w.heap.size, 6, none⟩ = some (.slice a0 e.ks.length c0) := cell_later hb4 (by go_simp)
  clear hr3 b3 c3 d3 f3 g3 h3 k3
  go_wp2_with fail
  refine Calls.mono (implExpText_any e (.slice a4 e.ks.length n4) F4 d _ hw (hU4.below ?hb) (HE.out _ ?hb2)) ?_
  case hb => repeat (first | (with_reducible exact Below.refl _ _) | (with_reducible refine Below.drew ?_) | (with_reducible refine Below.alloc ?_ ?hh _; case hh => first | (simp; done) | (simp; omega) | omega) | (with_reducible refine Below.setCell ?_ ?hh _; case hh => first | (simp; done) | (simp; omega) | omega) | refine bstep (by assumption) (by first | (simp; done) | (simp; omega) | omega) ?_)
  case hb2 => repeat (first | (with_reducible exact Below.refl _ _) | (with_reducible refine Below.drew ?_) | (with_reducible refine Below.alloc ?_ ?hh _; case hh => first | (simp; done) | (simp; omega) | omega) | (with_reducible refine Below.setCell ?_ ?hh _; case hh => first | (simp; done) | (simp; omega) | omega) | refine bstep (by assumption) (by first | (simp; done) | (simp; omega) | omega) ?_)
  rintro x w5 ⟨rfl, hb5⟩
  have hz5 := hb5.size
  simp at hz5
  have hr5 : KidsIs w5 d (.slice a0 e.ks.length c0) e.ks F := hr4.below (by repeat (first | (with_reducible exact Below.refl _ _) | (with_reducible refine Below.drew ?_) | (with_reducible refine Below.alloc ?_ ?hh _; case hh => first | (simp; done) | (simp; omega) | omega) | (with_reducible refine Below.setCell ?_ ?hh _; case hh => first | (simp; done) | (simp; omega) | omega) | refine bstep (by assumption) (by first | (simp; done) | (simp; omega) | omega) ?_))
  have hU5 : KidsIs w5 d (.slice a4 e.ks.length n4) e.ks F4 := hU4.below (by repeat (first | (with_reducible exact Below.refl _ _) | (with_reducible refine Below.drew ?_) | (with_reducible refine Below.alloc ?_ ?hh _; case hh => first | (simp; done) | (simp; omega) | omega) | (with_reducible refine Below.setCell ?_ ?hh _; case hh => first | (simp; done) | (simp; omega) | omega) | refine bstep (by assumption) (by first | (simp; done) | (simp; omega) | omega) ?_))
  have b5 : w5.cell? ⟨w.heap.size, 0, none⟩ = some (.int .i64 e.k) := cell_later hb5 (by go_simp)
  have c5 : w5.cell? ⟨w.heap.size, 1, none⟩ = some (.int .i64 e.n) := cell_later hb5 (by go_simp)
  have d5 : w5.cell? ⟨w.heap.size, 2, none⟩ = some (.int .i64 e.v.k) := cell_later hb5 (by go_simp)
  have f5 : w5.cell? ⟨w.heap.size, 3, none⟩ = some (.int .i64 e.v.n) := cell_later hb5 (by go_simp)
  have g5 : w5.cell? ⟨w.heap.size, 4, none⟩ = some (.string e.v.s) := cell_later hb5 (by go_simp)
  have h5 : w5.cell? ⟨w.heap.size, 5, none⟩ = some (.string e.p) := cell_later hb5 (by go_simp)
  have k5 : w5.cell? ⟨w.heap.size, 6, none⟩ = some (.slice a0 e.ks.length c0) := cell_later hb5 (by go_simp)
  have B5 : w5.cell? ⟨w4.heap.size, 0, none⟩ = some (.int .i64 e.k) := cell_later hb5 (by go_simp)
  have C5 : w5.cell? ⟨w4.heap.size, 1, none⟩ = some (.int .i64 e.n) := cell_later hb5 (by go_simp)
  have D5 : w5.cell? ⟨w4.heap.size, 2, none⟩ = some (.int .i64 e.v.k) := cell_later hb5 (by go_simp)
  have F5 : w5.cell? ⟨w4.heap.size, 3, none⟩ = some (.int .i64 e.v.n) := cell_later hb5 (by go_simp)
  have G5 : w5.cell? ⟨w4.heap.size, 4, none⟩ = some (.string e.v.s) := cell_later hb5 (by go_simp)
  have H5 : w5.cell? ⟨w4.heap.size, 5, none⟩ = some (.string e.p) := cell_later hb5 (by go_simp)
  have K5 : w5.cell? ⟨w4.heap.size, 6, none⟩ = some (.slice a4 e.ks.length n4) := cell_later hb5 (by go_simp)
  clear hr4 hU4 b4 c4 d4 f4 g4 h4 k4
  have hy5 : w.heap.size < w5.heap.size := by omega
  have hy6 : w4.heap.size < w5.heap.size := by omega
  go_wp2_with fail
  go_region_with (first | (go_at_call 21; refine (toExp_any e (.slice a0 e.ks.length c0) F _ (hr5.below (by repeat (first | (with_reducible exact Below.refl _ _) | (with_reducible refine Below.drew ?_) | (with_reducible refine Below.alloc ?_ ?hh _; case hh => first | (simp; done) | (simp; omega) | omega) | (with_reducible refine Below.setCell ?_ ?hh _; case hh => first | (simp; done) | (simp; omega) | omega) | refine bstep (by assumption) (by first | (simp; done) | (simp; omega) | omega) ?_))) hn).mono ?_; rintro x w6 ⟨⟨u6, F6, rfl, hU6, _⟩, hb6⟩; obtain ⟨a6, n6, rfl, _, _⟩ := hU6.shape; have hz6 := hb6.size; (try simp at hz6); have B6 : w6.cell? ⟨w4.heap.size, 0, none⟩ = some (.int .i64 e.k) := cell_later hb6 (by go_simp); have C6 : w6.cell? ⟨w4.heap.size, 1, none⟩ = some (.int .i64 e.n) := cell_later hb6 (by go_simp); have D6 : w6.cell? ⟨w4.heap.size, 2, none⟩ = some (.int .i64 e.v.k) := cell_later hb6 (by go_simp); have F6 : w6.cell? ⟨w4.heap.size, 3, none⟩ = some (.int .i64 e.v.n) := cell_later hb6 (by go_simp); have G6 : w6.cell? ⟨w4.heap.size, 4, none⟩ = some (.string e.v.s) := cell_later hb6 (by go_simp); have H6 : w6.cell? ⟨w4.heap.size, 5, none⟩ = some (.string e.p) := cell_later hb6 (by go_simp); have K6 : w6.cell? ⟨w4.heap.size, 6, none⟩ = some (.slice a4 e.ks.length n4) := cell_later hb6 (by go_simp)) | (go_at_call 23; refine (eqExp_same e (.slice a4 e.ks.length n4) (.slice a6 e.ks.length n6) _ _ _ (hU5.below (by repeat (first | (with_reducible exact Below.refl _ _) | (with_reducible refine Below.drew ?_) | (with_reducible refine Below.alloc ?_ ?hh _; case hh => first | (simp; done) | (simp; omega) | omega) | (with_reducible refine Below.setCell ?_ ?hh _; case hh => first | (simp; done) | (simp; omega) | omega) | refine bstep (by assumption) (by first | (simp; done) | (simp; omega) | omega) ?_))) (hU6.below (by repeat (first | (with_reducible exact Below.refl _ _) | (with_reducible refine Below.drew ?_) | (with_reducible refine Below.alloc ?_ ?hh _; case hh => first | (simp; done) | (simp; omega) | omega) | (with_reducible refine Below.setCell ?_ ?hh _; case hh => first | (simp; done) | (simp; omega) | omega) | refine bstep (by assumption) (by first | (simp; done) | (simp; omega) | omega) ?_)))).mono ?_; rintro x w7 ⟨rfl, hb7⟩))
  all_goals go_wp2
  all_goals go_returns
  all_goals exact ⟨rfl, by repeat (first | (with_reducible exact Below.refl _ _) | (with_reducible refine Below.drew ?_) | (with_reducible refine Below.alloc ?_ ?hh _; case hh => first | (simp; done) | (simp; omega) | omega) | (with_reducible refine Below.setCell ?_ ?hh _; case hh => first | (simp; done) | (simp; omega) | omega) | refine bstep (by assumption) (by first | (simp; done) | (simp; omega) | omega) ?_)⟩
end Go.Proofs.YtajlmgacmhimgaaDoor.fnExactExpText
