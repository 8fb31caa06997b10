/- Own text. Steps: how much one weighs (szStep), a new one that is the same (toStep), eqStep at one step twice. -/
import Derived.Test.YtdkbhoichmcodaaStpK
import Derived.Test.YtdkbhoichmcodaaRelC
import Derived.Test.YtdkbhoichmcodaaToR
import Derived.Test.YtdkbhoichmcodaaToRF
import Derived.Test.YtdkbhoichmcodaaStrC
import Derived.Handy
import Derived.Deep.RegionHeld3
namespace Go.Proofs.Ytdkbhoichmcodaa
open Go.RowKit Go.Deep
set_option linter.unusedVariables false
set_option maxHeartbeats 2000000 in
set_option maxRecDepth 100000 in
theorem szStep_any (x : T5) (uc ur : Value) (left : Int) (w : World) (hr : StpIs w uc ur x) (hw : x.wf) (h0 : 0 ≤ left) (h1 : left ≤ 1048576) :
    Calls Try.prog 24 #[(.agg #[.int .i64 x.k, .string x.s, uc, .string x.q, ur]), .int .i64 left] w fun e w' => (∃ z : Int, e = .returned (.int .i64 z) ∧ -1 ≤ z ∧ z ≤ left ∧ (0 ≤ z → z + wtT x = left)) ∧ Below w.heap.size w w' := by
  obtain ⟨_, ws, wc, wq, wr⟩ := hw
  unfold maxLen at ws wq
  obtain ⟨⟨ac, cc, rfl, _, _⟩, ar, cr, rfl, _, _⟩ := hr.shape
  obtain ⟨⟨g, hS⟩, hR⟩ := hr
  unfold wtT
  by_cases hb1 : left - x.s.size < 0
  · go_enter Try.func24, Try.ntmps24
    go_wp2_with fail
    go_returns
    exact ⟨⟨-1, rfl, by omega, by omega, by omega⟩, by repeat (first | exact Below.refl _ _ | refine Below.drew ?_ | refine Below.alloc ?_ (by first | (simp; done) | (simp; omega) | omega) _ | refine Below.setCell ?_ (by first | (simp; done) | (simp; omega) | omega) _ | refine bstep (by assumption) (by first | (simp; done) | (simp; omega) | omega) ?_)⟩
  go_enter Try.func24, Try.ntmps24
  go_wp2_with fail
  refine Calls.mono (szStringS_any (.slice ac x.cs.length cc) x.cs g (left - x.s.size) _ (hS.below ?hb) wc (by omega) (by omega)) ?_
  case hb => repeat (first | exact Below.refl _ _ | refine Below.drew ?_ | refine Below.alloc ?_ (by first | (simp; done) | (simp; omega) | omega) _ | refine Below.setCell ?_ (by first | (simp; done) | (simp; omega) | omega) _ | refine bstep (by assumption) (by first | (simp; done) | (simp; omega) | omega) ?_)
  rintro e w1 ⟨⟨z1, rfl, l1, g1, s1⟩, hb1⟩
  have hz1 := hb1.size
  simp only [World.size_alloc] at hz1
  have qa : w1.cell? ⟨w.heap.size, 3, none⟩ = some (.string x.q) := cell_later hb1 (by go_simp)
  have qb : w1.cell? ⟨w.heap.size, 4, none⟩ = some (.slice ar x.rs.length cr) := cell_later hb1 (by go_simp)
  have bel1 : Below w.heap.size w w1 := by repeat (first | exact Below.refl _ _ | refine Below.drew ?_ | refine Below.alloc ?_ (by first | (simp; done) | (simp; omega) | omega) _ | refine Below.setCell ?_ (by first | (simp; done) | (simp; omega) | omega) _ | refine bstep (by assumption) (by first | (simp; done) | (simp; omega) | omega) ?_)
  clear hb1
  by_cases hn1 : z1 < 0
  · go_wp2_with fail
    go_returns
    exact ⟨⟨-1, rfl, by omega, by omega, by omega⟩, bel1⟩
  have hq1 := s1 (by omega)
  clear s1
  by_cases hb2 : z1 - x.q.size < 0
  · go_wp2_with fail
    go_returns
    exact ⟨⟨-1, rfl, by omega, by omega, by omega⟩, bel1⟩
  go_wp2_with fail
  refine Calls.mono (szRelS_any (.slice ar x.rs.length cr) x.rs (z1 - x.q.size) w1 (hR.below bel1) wr (by omega) (by omega)) ?_
  rintro e w2 ⟨⟨z2, rfl, l2, g2, s2⟩, hb2⟩
  have bel2 : Below w.heap.size w w2 := bel1.trans (hb2.mono bel1.size)
  by_cases hn2 : z2 < 0
  · go_wp2_with fail
    go_returns
    exact ⟨⟨-1, rfl, by omega, by omega, by omega⟩, bel2⟩
  · go_wp2_with fail
    go_returns
    exact ⟨⟨z2, rfl, by omega, by omega, fun h => by have := s2 h; omega⟩, bel2⟩
set_option maxHeartbeats 2000000 in
set_option maxRecDepth 100000 in
theorem eqStep_same (x : T5) (uc ur vc vr : Value) (w : World) (hr : StpIs w uc ur x) (hu : StpIs w vc vr x) :
    Calls Try.prog 28 #[(.agg #[.int .i64 x.k, .string x.s, uc, .string x.q, ur]), (.agg #[.int .i64 x.k, .string x.s, vc, .string x.q, vr])] w fun e w' => e = .returned (.bool true) ∧ Below w.heap.size w w' := by
  obtain ⟨⟨ac, cc, rfl, _, _⟩, ar, cr, rfl, _, _⟩ := hr.shape
  obtain ⟨⟨ac', cc', rfl, _, _⟩, ar', cr', rfl, _, _⟩ := hu.shape
  obtain ⟨⟨g, hS⟩, hR⟩ := hr
  obtain ⟨⟨g', hS'⟩, hR'⟩ := hu
  go_enter Try.func28, Try.ntmps28
  go_wp2_with fail
  refine Calls.mono (eqStringS_same (.slice ac x.cs.length cc) (.slice ac' x.cs.length cc') x.cs g g' _ (hS.below ?hb) (hS'.below ?hc)) ?_
  case hb => repeat (first | exact Below.refl _ _ | refine Below.drew ?_ | refine Below.alloc ?_ (by first | (simp; done) | (simp; omega) | omega) _ | refine Below.setCell ?_ (by first | (simp; done) | (simp; omega) | omega) _ | refine bstep (by assumption) (by first | (simp; done) | (simp; omega) | omega) ?_)
  case hc => repeat (first | exact Below.refl _ _ | refine Below.drew ?_ | refine Below.alloc ?_ (by first | (simp; done) | (simp; omega) | omega) _ | refine Below.setCell ?_ (by first | (simp; done) | (simp; omega) | omega) _ | refine bstep (by assumption) (by first | (simp; done) | (simp; omega) | omega) ?_)
  rintro e w1 ⟨rfl, hb1⟩
  have hz1 := hb1.size
  simp only [World.size_alloc] at hz1
  have qa : w1.cell? ⟨w.heap.size, 3, none⟩ = some (.string x.q) := cell_later hb1 (by go_simp)
  have qb : w1.cell? ⟨w.heap.size, 4, none⟩ = some (.slice ar x.rs.length cr) := cell_later hb1 (by go_simp)
  have qc : w1.cell? ⟨w.heap.size + 1, 3, none⟩ = some (.string x.q) := cell_later hb1 (by go_simp)
  have qd : w1.cell? ⟨w.heap.size + 1, 4, none⟩ = some (.slice ar' x.rs.length cr') := cell_later hb1 (by go_simp)
  have bel1 : Below w.heap.size w w1 := by repeat (first | exact Below.refl _ _ | refine Below.drew ?_ | refine Below.alloc ?_ (by first | (simp; done) | (simp; omega) | omega) _ | refine Below.setCell ?_ (by first | (simp; done) | (simp; omega) | omega) _ | refine bstep (by assumption) (by first | (simp; done) | (simp; omega) | omega) ?_)
  clear hb1
  go_wp2_with fail
  refine Calls.mono (eqRelS_same (.slice ar x.rs.length cr) (.slice ar' x.rs.length cr') x.rs w1 (hR.below bel1) (hR'.below bel1)) ?_
  rintro e w2 ⟨rfl, hb2⟩
  have bel2 : Below w.heap.size w w2 := bel1.trans (hb2.mono bel1.size)
  go_wp2
  go_returns
  exact ⟨rfl, bel2⟩
set_option maxHeartbeats 2000000 in
set_option maxRecDepth 100000 in
theorem toStep_is (x : T5) (uc ur : Value) (w : World) (hr : StpIs w uc ur x) (hn : wtT x ≤ 1048576) :
    Calls Try.prog 26 #[(.agg #[.int .i64 x.k, .string x.s, uc, .string x.q, ur])] w fun e w' => (∃ vc vr, e = .returned (.agg #[.int .i64 x.k, .string x.s, vc, .string x.q, vr]) ∧ StpIs w' vc vr x) ∧ Below w.heap.size w w' := by
  unfold wtT at hn
  obtain ⟨⟨ac, cc, rfl, _, _⟩, ar, cr, rfl, _, _⟩ := hr.shape
  obtain ⟨⟨g, hS⟩, hR⟩ := hr
  go_enter Try.func26, Try.ntmps26
  go_wp2_with fail
  refine Calls.mono (toStringS_any (.slice ac x.cs.length cc) x.cs g _ (hS.below ?hb) (by omega)) ?_
  case hb => repeat (first | (with_reducible exact Below.refl _ _) | (with_reducible refine Below.drew ?_) | (with_reducible refine Below.alloc ?_ ?hh _; case hh => first | (simp; done) | (simp; omega) | omega) | (with_reducible refine Below.setCell ?_ ?hh _; case hh => first | (simp; done) | (simp; omega) | omega) | refine bstep (by assumption) (by first | (simp; done) | (simp; omega) | omega) ?_)
  rintro e w1 ⟨⟨u1, g1, rfl, hS1, hO1⟩, hb1⟩
  have hz1 := hb1.size
  try simp only [World.size_alloc] at hz1 hO1
  try simp only [World.size_setCell] at hz1 hO1
  have hf1 := (bcell hb1).2
  obtain ⟨a1, c1, rfl, _, _⟩ := hS1.shape
  have hy0_1 : w.heap.size < w1.heap.size := by omega
  have hy1_1 : w.heap.size + 1 < w1.heap.size := by omega
  have hy2_1 : w.heap.size + 1 + 1 < w1.heap.size := by omega
  have c3_1 : w1.cell? ⟨w.heap.size, 3, none⟩ = some (.string x.q) := cell_later hb1 (by go_simp)
  have c4_1 : w1.cell? ⟨w.heap.size, 4, none⟩ = some (.slice ar x.rs.length cr) := cell_later hb1 (by go_simp)
  have r0_1 : w1.cell? ⟨w.heap.size + 1, 0, none⟩ = some (.int .i64 0) := cell_later hb1 (by go_simp)
  have r1_1 : w1.cell? ⟨w.heap.size + 1, 1, none⟩ = some (.string ⟨#[]⟩) := cell_later hb1 (by go_simp)
  have r2_1 : w1.cell? ⟨w.heap.size + 1, 2, none⟩ = some (.slice none 0 0) := cell_later hb1 (by go_simp)
  have r3_1 : w1.cell? ⟨w.heap.size + 1, 3, none⟩ = some (.string ⟨#[]⟩) := cell_later hb1 (by go_simp)
  have r4_1 : w1.cell? ⟨w.heap.size + 1, 4, none⟩ = some (.slice none 0 0) := cell_later hb1 (by go_simp)
  have t0_1 : w1.cell? ⟨w.heap.size + 1 + 1, 0, none⟩ = some (.int .i64 x.k) := cell_later hb1 (by go_simp)
  have t1_1 : w1.cell? ⟨w.heap.size + 1 + 1, 1, none⟩ = some (.string x.s) := cell_later hb1 (by go_simp)
  have t2_1 : w1.cell? ⟨w.heap.size + 1 + 1, 2, none⟩ = some (.slice none 0 0) := cell_later hb1 (by go_simp)
  have t3_1 : w1.cell? ⟨w.heap.size + 1 + 1, 3, none⟩ = some (.string ⟨#[]⟩) := cell_later hb1 (by go_simp)
  have t4_1 : w1.cell? ⟨w.heap.size + 1 + 1, 4, none⟩ = some (.slice none 0 0) := cell_later hb1 (by go_simp)
  have bel1 : Below w.heap.size w w1 := by repeat (first | (with_reducible exact Below.refl _ _) | (with_reducible refine Below.drew ?_) | (with_reducible refine Below.alloc ?_ ?hh _; case hh => first | (simp; done) | (simp; omega) | omega) | (with_reducible refine Below.setCell ?_ ?hh _; case hh => first | (simp; done) | (simp; omega) | omega) | refine bstep (by assumption) (by first | (simp; done) | (simp; omega) | omega) ?_)
  clear hb1
  go_wp2_with fail
  refine Calls.mono (toRelS_F (.slice ar x.rs.length cr) x.rs _ (hR.below ?hb) (by omega)) ?_
  case hb => repeat (first | (with_reducible exact bel1) | (with_reducible refine Below.setCell ?_ ?hh _; case hh => (simp; try omega)))
  rintro e w2 ⟨⟨u2, F2, rfl, hR2, hO2⟩, hb2⟩
  have hS2 := StrsF.below (StrsF.keep (w' := ((w1.setCell ⟨w.heap.size + 1 + 1, 2, none⟩ (.slice a1 x.cs.length c1)).setCell ⟨w.heap.size + 1 + 1, 3, none⟩ (.string x.q))) hS1 (by simp) (fun b hb => by have := (hO1.2 b hb).1; repeat rw [Below.heap_setCell _ _ _ _ (by simp; try omega)])) hb2
  have hg1 : ∀ b ∈ g1, b < w1.heap.size := hS1.lt
  have hz2 := hb2.size
  try simp only [World.size_alloc] at hz2 hO2
  try simp only [World.size_setCell] at hz2 hO2
  have hf2 := (bcell hb2).2
  obtain ⟨a2, l2, c2, rfl⟩ := hR2.is.shape
  have hy0_2 : w.heap.size < w2.heap.size := by omega
  have hy1_2 : w.heap.size + 1 < w2.heap.size := by omega
  have hy2_2 : w.heap.size + 1 + 1 < w2.heap.size := by omega
  have r0_2 : w2.cell? ⟨w.heap.size + 1, 0, none⟩ = some (.int .i64 0) := cell_later hb2 (by go_simp)
  have r1_2 : w2.cell? ⟨w.heap.size + 1, 1, none⟩ = some (.string ⟨#[]⟩) := cell_later hb2 (by go_simp)
  have r2_2 : w2.cell? ⟨w.heap.size + 1, 2, none⟩ = some (.slice none 0 0) := cell_later hb2 (by go_simp)
  have r3_2 : w2.cell? ⟨w.heap.size + 1, 3, none⟩ = some (.string ⟨#[]⟩) := cell_later hb2 (by go_simp)
  have r4_2 : w2.cell? ⟨w.heap.size + 1, 4, none⟩ = some (.slice none 0 0) := cell_later hb2 (by go_simp)
  have t0_2 : w2.cell? ⟨w.heap.size + 1 + 1, 0, none⟩ = some (.int .i64 x.k) := cell_later hb2 (by go_simp)
  have t1_2 : w2.cell? ⟨w.heap.size + 1 + 1, 1, none⟩ = some (.string x.s) := cell_later hb2 (by go_simp)
  have t2_2 : w2.cell? ⟨w.heap.size + 1 + 1, 2, none⟩ = some (.slice a1 x.cs.length c1) := cell_later hb2 (by go_simp)
  have t3_2 : w2.cell? ⟨w.heap.size + 1 + 1, 3, none⟩ = some (.string x.q) := cell_later hb2 (by go_simp)
  have t4_2 : w2.cell? ⟨w.heap.size + 1 + 1, 4, none⟩ = some (.slice none 0 0) := cell_later hb2 (by go_simp)
  have bel2 : Below w.heap.size w w2 := by
    refine Below.trans ?_ (hb2.mono ?_)
    · repeat (first | (with_reducible exact bel1) | (with_reducible refine Below.setCell ?_ ?hh _; case hh => (simp; try omega)))
    · simp; omega
  clear hb2
  go_wp2
  refine bodyPost_ret (v := .agg #[.int .i64 x.k, .string x.s, .slice a1 x.cs.length c1, .string x.q, .slice a2 l2 c2]) (by simp [results, Try.results26, go_sem, *]) rfl ⟨⟨_, _, rfl, ⟨g1, ?_⟩, ?_⟩, ?_⟩
  · refine hS2.keep (by simp) fun b hb => ?_
    have := (hO1.2 b hb).1
    iterate 6 rw [Below.heap_setCell _ _ _ _ (by simp; try omega)]
  · refine (hR2.keep (by simp) fun b hb => ?_).is
    have := hO2.2.1 b hb
    iterate 6 rw [Below.heap_setCell _ _ _ _ (by simp; try omega)]
  · repeat (first | (with_reducible exact bel2) | (with_reducible refine Below.setCell ?_ ?hh _; case hh => (simp; try omega)))
end Go.Proofs.Ytdkbhoichmcodaa
