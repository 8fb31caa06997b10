/- Own text. The walk of the statement on GetBag. -/
import Derived.Test.YtglecbghjgdmnaaGetSt
import Derived.WalkKit
import Derived.WalkSpells
import Derived.WalkLawsBesides
import Derived.Handy
import Derived.Below
import Derived.Deep.RegionHeld3
import Derived.Deep.DeepCutAuto
namespace Go.Proofs.Ytglecbghjgdmnaa.fnExactGetBag
open Go.RowKit
set_option linter.unusedVariables false
set_option maxHeartbeats 4000000 in
set_option maxRecDepth 100000 in
theorem walk (s : ByteArray) (hm : s.size ≤ maxLen) (w : World) :
    Calls Try.prog 5 #[.string s] w fun e w' => e = .returned (.bool true) ∧ Below w.heap.size w w' := by
  by_cases hbig : 1048576 < s.size
  · have hbI : (1048576 : Int) < s.size := by omega
    clear hbig
    go_enter Try.func5, Try.ntmps5
    go_wp2_with fail
    go_returns
    exact ⟨rfl, Below.refl _ _⟩
  have hs : s.size ≤ 1048576 := by omega
  have hsI : decide ((1048576 : Int) < s.size) = false := by simp; omega
  have hsp := specGetBag_any s w hs
  have him := fun w' => implGetBag_any s w' hs
  have hn := aC_small s
  generalize aC s = cs at *
  generalize aW s = W at *
  generalize aB s = bb at *
  clear hbig hm
  go_enter Try.func5, Try.ntmps5
  go_wp2_with fail
  refine hsp.mono ?_
  rintro e w1 ⟨⟨u1, us1, G1, rfl, hB1⟩, hb1⟩
  obtain ⟨a1, c1, rfl⟩ := hB1.shape
  obtain ⟨F3, hS1, _⟩ := hB1.rowsF
  have hz1 := hb1.size
  clear hsp hB1
  go_wp2_with fail
  refine (him _).mono ?_
  rintro e w2 ⟨⟨u2, us2, G2, rfl, hB2⟩, hb2⟩
  obtain ⟨a2, c2, rfl⟩ := hB2.shape
  obtain ⟨F5, hG2, hO2⟩ := hB2.rowsF
  have hz2 := hb2.size
  simp only [World.size_alloc] at hz2 hO2
  have bel12 : Below w1.heap.size w1 w2 := by repeat (first | (with_reducible exact Below.refl _ _) | (with_reducible refine Below.drew ?_) | (with_reducible refine Below.alloc ?_ ?hh _; case hh => first | (simp; done) | (simp; omega) | omega) | (with_reducible refine Below.setCell ?_ ?hh _; case hh => first | (simp; done) | (simp; omega) | omega) | refine bstep (by assumption) (by first | (simp; done) | (simp; omega) | omega) ?_)
  have x0 : w2.cell? ⟨w1.heap.size, 0, none⟩ = some (.int .i64 W) := cell_later hb2 (by go_simp)
  have x1 : w2.cell? ⟨w1.heap.size, 1, none⟩ = some (.slice a1 cs.length c1) := cell_later hb2 (by go_simp)
  have hl3 := hS1.lt
  have hl5 := hG2.lt
  have bal : Below w2.heap.size w2 (w2.alloc (.cells #[.int .i64 W, .slice a2 cs.length c2] 26)) := (Below.refl _ _).alloc (Nat.le_refl _) _
  have al : ∀ (o : Obj) (b q : Nat), b < w2.heap.size → (w2.alloc o).cell? ⟨b, q, none⟩ = w2.cell? ⟨b, q, none⟩ := fun o b q hb => cell_blk (Below.heap_alloc _ _ _ hb)
  have st : GS w (w2.alloc (.cells #[.int .i64 W, .slice a2 cs.length c2] 26)) w1.heap.size w2.heap.size W (.slice a1 cs.length c1) (.slice a2 cs.length c2) cs cs F3 F5 := by
    refine ⟨((hb1.trans (bel12.mono (by omega))).alloc (by omega) _), (al _ _ _ (by omega)).trans x0, (al _ _ _ (by omega)).trans x1, by go_simp, by go_simp, (hS1.below bel12).below bal, hG2.below bal, Own.below ⟨hO2.1, fun b hb => by have := hO2.2.1 b hb; omega, hO2.2.2⟩ hl5 bal, by omega, by omega, by simp, ?_, ?_⟩
    · exact ⟨fun h => by have := hO2.2.1 _ h; omega, fun h => by have := hl5 _ h; omega⟩
    · exact fun b hb h => by have := hl3 b hb; have := hO2.2.1 b h; omega
  have hy2 : w1.heap.size < w2.heap.size := by omega
  clear x0 x1 al bal hS1 hG2 hO2 hB2 hb2 bel12 hl3 hl5 hb1
  have a02 := st.a0
  have a12 := st.a1
  have g02 := st.g0
  have g12 := st.g1
  go_wp2_with fail
  refine Calls.mono (eqBag_same W (.slice a2 cs.length c2) (.slice a1 cs.length c1) cs _ st.gg.is st.sp.is) ?_
  rintro e w3 ⟨rfl, hb3⟩
  have hz3 := hb3.size
  simp only [World.size_alloc] at hz3
  have st3 := st.below hb3
  have hy3 : w2.heap.size < w3.heap.size := by omega
  have hy3' : w1.heap.size < w3.heap.size := by omega
  clear hb3 st a02 a12 g02 g12
  have a03 := st3.a0
  have a13 := st3.a1
  have g03 := st3.g0
  have g13 := st3.g1
  go_wp2_with fail
  refine Calls.mono (markBag_any W 1 (.slice a2 cs.length c2) cs F5 w3 st3.gg st3.o5.1 st3.o5.2.2 (by decide) (by omega)) ?_
  rintro e w4 ⟨rfl, hx4, hc4⟩
  have hz4 := hc4.size
  have st4 := st3.markG hc4 hx4
  have hoff := offC_le 1 cs cs.length
  have hheld := fun w' => heldBag_any W 1 (.slice a2 cs.length c2) cs w'
  generalize offC 1 cs cs.length = kg at *
  have hkg : (kg : Int) ≤ 4000000 := by omega
  clear hx4 hc4 st3 a03 a13 g03 g13
  have a04 := st4.a0
  have a14 := st4.a1
  have g04 := st4.g0
  have g14 := st4.g1
  have hy4 : w2.heap.size < w4.heap.size := by omega
  have hy4' : w1.heap.size < w4.heap.size := by omega
  go_wp2_with fail
  refine Calls.mono (hheld w4 st4.gg.is (by decide) (by omega)) ?_
  rintro e w5 ⟨rfl, hb5⟩
  have hz5 := hb5.size
  have st5 := st4.below hb5
  clear hb5 st4 a04 a14 g04 g14
  have a05 := st5.a0
  have a15 := st5.a1
  have g05 := st5.g0
  have g15 := st5.g1
  have hy5 : w2.heap.size < w5.heap.size := by omega
  have hy5' : w1.heap.size < w5.heap.size := by omega
  go_wp2_with fail
  refine (him w5).mono ?_
  rintro e w6 ⟨⟨u6, us6, G6, rfl, hB6⟩, hb6⟩
  obtain ⟨a6, c6, rfl⟩ := hB6.shape
  obtain ⟨F6, hG6, _⟩ := hB6.rowsF
  have hz6 := hb6.size
  have st6 := st5.below hb6
  have bal : Below w6.heap.size w6 (w6.alloc (.cells #[.int .i64 W, .slice a6 cs.length c6] 26)) := (Below.refl _ _).alloc (Nat.le_refl _) _
  have st6' := st6.below bal
  have hG := hG6.below bal
  clear hb6 st5 a05 a15 g05 g15 hB6 him hG6
  have a06 := st6.a0
  have a16 := st6.a1
  have g06 := st6.g0
  have g16 := st6.g1
  have hy6 : w2.heap.size < w6.heap.size := by omega
  have hy6' : w1.heap.size < w6.heap.size := by omega
  go_wp2_with fail
  refine Calls.mono (eqBag_same W (.slice a6 cs.length c6) (.slice a1 cs.length c1) cs _ hG.is st6'.sp.is) ?_
  rintro e w7 ⟨rfl, hb7⟩
  have hz7 := hb7.size
  simp only [World.size_alloc] at hz7
  have st7 := st6'.below hb7
  clear hb7 st6 st6' a06 a16 g06 g16 hG bal
  have a07 := st7.a0
  have a17 := st7.a1
  have g07 := st7.g0
  have g17 := st7.g1
  have hy7 : w2.heap.size < w7.heap.size := by omega
  have hy7' : w1.heap.size < w7.heap.size := by omega
  go_wp2_with fail
  refine Calls.mono (hheld w7 st7.gg.is (by decide) (by omega)) ?_
  rintro e w8 ⟨rfl, hb8⟩
  have hz8 := hb8.size
  have belE : Below w.heap.size w w8 := st7.bel.trans (hb8.mono (by omega))
  clear hb8 st7 hheld a07 a17 g07 g17
  go_wp2_with fail
  go_returns
  exact ⟨rfl, belE⟩
end Go.Proofs.Ytglecbghjgdmnaa.fnExactGetBag
