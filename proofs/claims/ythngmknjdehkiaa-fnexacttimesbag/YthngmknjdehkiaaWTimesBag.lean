/- Own text. The walk of the statement on TimesBag. -/
import Derived.Test.YthngmknjdehkiaaBagSt
import Derived.WalkKit
import Derived.WalkSpells
import Derived.WalkLawsBesides
import Derived.Handy
import Derived.Below
import Derived.Deep.RegionHeld3
import Derived.Deep.DeepCutAuto
namespace Go.Proofs.Ythngmknjdehkiaa.fnExactTimesBag
open Go.RowKit
set_option linter.unusedVariables false
set_option maxHeartbeats 4000000 in
set_option maxRecDepth 100000 in
theorem walk (W : Int) (v : Value) (cs : List C2) (hW : (Lit.int .i64 W).wf = true) (hw : CsWf cs) (n : Int) (hnn : (Lit.int .i64 n).wf = true) (w : World) (hr : RowsIs w v cs) :
    Calls Try.prog 5 #[.agg #[.int .i64 W, v], .int .i64 n] w fun e w' => e = .returned (.bool true) ∧ Below w.heap.size w w' := by
  have hn64 := wf_in hnn
  obtain ⟨av, lv, cv, rfl⟩ := hr.shape
  go_enter Try.func5, Try.ntmps5
  go_wp2_with fail
  refine Calls.mono (szBag_any W (.slice av lv cv) cs 1048576 _ (hr.below ?hb) hw (by decide) (by decide)) ?_
  case hb => repeat (first | (with_reducible exact Below.refl _ _) | (with_reducible refine Below.drew ?_) | (with_reducible refine Below.alloc ?_ ?hh _; case hh => first | (simp; done) | (simp; omega) | omega) | (with_reducible refine Below.setCell ?_ ?hh _; case hh => first | (simp; done) | (simp; omega) | omega) | refine bstep (by assumption) (by first | (simp; done) | (simp; omega) | omega) ?_)
  rintro e w1 ⟨⟨z1, rfl, l1, g1, s1⟩, hb1⟩
  have hz1 := hb1.size
  simp only [World.size_alloc] at hz1
  have b1 : w1.cell? ⟨w.heap.size, 0, none⟩ = some (.int .i64 W) := cell_later hb1 (by go_simp)
  have c1 : w1.cell? ⟨w.heap.size, 1, none⟩ = some (.slice av lv cv) := cell_later hb1 (by go_simp)
  have bel1 : Below w.heap.size w w1 := by repeat (first | (with_reducible exact Below.refl _ _) | (with_reducible refine Below.drew ?_) | (with_reducible refine Below.alloc ?_ ?hh _; case hh => first | (simp; done) | (simp; omega) | omega) | (with_reducible refine Below.setCell ?_ ?hh _; case hh => first | (simp; done) | (simp; omega) | omega) | refine bstep (by assumption) (by first | (simp; done) | (simp; omega) | omega) ?_)
  by_cases hn1 : z1 < 0
  · go_wp2_with fail
    go_returns
    exact ⟨rfl, bel1⟩
  have hn : wtb cs ≤ 1048576 := by have := s1 (by omega); omega
  have hnR : wtb (timesC W n cs) ≤ 1048576 := Nat.le_trans (wtb_timesC W n cs) hn
  clear s1 hb1
  go_wp2_with fail
  refine (toBag_F W (.slice av lv cv) cs w1 (hr.below bel1) hn).mono ?_
  rintro e w2 ⟨⟨u2, F2, rfl, hU2, _⟩, hb2⟩
  obtain ⟨a2, l2, c2, rfl⟩ := hU2.is.shape
  have hz2 := hb2.size
  have b2 := ((bcell hb2).1 w.heap.size 0 (by omega)).trans b1
  have c2' := ((bcell hb2).1 w.heap.size 1 (by omega)).trans c1
  have bel2 : Below w.heap.size w w2 := bel1.trans (hb2.mono (by omega))
  clear b1 c1 hb2
  go_wp2_with fail
  refine (specTimes_any W n (.slice a2 l2 c2) cs F2 w2 hw hU2 hn).mono ?_
  rintro e w3 ⟨⟨s3, F3, rfl, hS3⟩, hb3⟩
  obtain ⟨a3, l3, c3, rfl⟩ := hS3.is.shape
  have hz3 := hb3.size
  have b3 := ((bcell hb3).1 w.heap.size 0 (by omega)).trans b2
  have c3' := ((bcell hb3).1 w.heap.size 1 (by omega)).trans c2'
  have bel3 : Below w.heap.size w w3 := bel2.trans (hb3.mono (by omega))
  have hy3 : w.heap.size < w3.heap.size := by omega
  clear b2 c2' hb3 hU2
  go_wp2_with fail
  refine Calls.mono (toBag_F W (.slice av lv cv) cs _ (hr.below ?hb) hn) ?_
  case hb => exact bel3.alloc (by omega) _
  rintro e w4 ⟨⟨u4, F4, rfl, hU4, hO4⟩, hb4⟩
  obtain ⟨a4, l4, c4, rfl⟩ := hU4.is.shape
  have hz4 := hb4.size
  simp only [World.size_alloc] at hz4 hO4
  have b4 : w4.cell? ⟨w.heap.size, 0, none⟩ = some (.int .i64 W) := ((bcell hb4).1 w.heap.size 0 (by simp; omega)).trans ((cell_blk (Below.heap_alloc _ _ _ (by omega))).trans b3)
  have c4' : w4.cell? ⟨w.heap.size, 1, none⟩ = some (.slice av lv cv) := ((bcell hb4).1 w.heap.size 1 (by simp; omega)).trans ((cell_blk (Below.heap_alloc _ _ _ (by omega))).trans c3')
  have s04 : w4.cell? ⟨w3.heap.size, 0, none⟩ = some (.int .i64 W) := cell_later hb4 (by go_simp)
  have s14 : w4.cell? ⟨w3.heap.size, 1, none⟩ = some (.slice a3 l3 c3) := cell_later hb4 (by go_simp)
  have bel34 : Below w3.heap.size w3 w4 := by repeat (first | (with_reducible exact Below.refl _ _) | (with_reducible refine Below.drew ?_) | (with_reducible refine Below.alloc ?_ ?hh _; case hh => first | (simp; done) | (simp; omega) | omega) | (with_reducible refine Below.setCell ?_ ?hh _; case hh => first | (simp; done) | (simp; omega) | omega) | refine bstep (by assumption) (by first | (simp; done) | (simp; omega) | omega) ?_)
  have bel4 : Below w.heap.size w w4 := bel3.trans (bel34.mono (by omega))
  have hS4 := hS3.below bel34
  have hl3 := hS3.lt
  have hy4 : w.heap.size < w4.heap.size := by omega
  have hy34 : w3.heap.size < w4.heap.size := by omega
  clear b3 c3' hb4 hS3
  go_wp2_with fail
  refine Calls.mono (implTimes_any W n (.slice a4 l4 c4) cs F4 _ hw hn64 (hU4.below ?hb) hn) ?_
  case hb => repeat (first | (with_reducible exact Below.refl _ _) | (with_reducible refine Below.drew ?_) | (with_reducible refine Below.alloc ?_ ?hh _; case hh => first | (simp; done) | (simp; omega) | omega) | (with_reducible refine Below.setCell ?_ ?hh _; case hh => first | (simp; done) | (simp; omega) | omega) | refine bstep (by assumption) (by first | (simp; done) | (simp; omega) | omega) ?_)
  rintro e w5 ⟨⟨g5, F5, rfl, hG5, hO5⟩, hb5⟩
  obtain ⟨a5, l5, c5, rfl⟩ := hG5.is.shape
  have hz5 := hb5.size
  simp only [World.size_alloc] at hz5 hO5
  have bel45 : Below w4.heap.size w4 w5 := by repeat (first | (with_reducible exact Below.refl _ _) | (with_reducible refine Below.drew ?_) | (with_reducible refine Below.alloc ?_ ?hh _; case hh => first | (simp; done) | (simp; omega) | omega) | (with_reducible refine Below.setCell ?_ ?hh _; case hh => first | (simp; done) | (simp; omega) | omega) | refine bstep (by assumption) (by first | (simp; done) | (simp; omega) | omega) ?_)
  have x05 : w5.cell? ⟨w4.heap.size, 0, none⟩ = some (.int .i64 W) := cell_later hb5 (by go_simp)
  have x15 : w5.cell? ⟨w4.heap.size, 1, none⟩ = some (.slice a4 l4 c4) := cell_later hb5 (by go_simp)
  have al : ∀ (o : Obj) (b q : Nat), b < w5.heap.size → (w5.alloc o).cell? ⟨b, q, none⟩ = w5.cell? ⟨b, q, none⟩ := fun o b q hb => cell_blk (Below.heap_alloc _ _ _ hb)
  have hl4 := hU4.lt
  have hl5 := hG5.lt
  have bal : Below w5.heap.size w5 (w5.alloc (.cells #[.int .i64 W, .slice a5 l5 c5] 26)) := (Below.refl _ _).alloc (Nat.le_refl _) _
  have st : St w (w5.alloc (.cells #[.int .i64 W, .slice a5 l5 c5] 26)) w3.heap.size w4.heap.size w5.heap.size W (.slice av lv cv) (.slice a3 l3 c3) (.slice a4 l4 c4) (.slice a5 l5 c5) (timesC W n cs) cs (timesC W n cs) F3 F4 F5 := by
    have m : ∀ b q, b < w4.heap.size → w5.cell? ⟨b, q, none⟩ = w4.cell? ⟨b, q, none⟩ := (bcell bel45).1
    refine ⟨(bel4.trans (bel45.mono (by omega))).alloc (by omega) _, (al _ _ _ (by omega)).trans ((m _ _ (by omega)).trans b4), (al _ _ _ (by omega)).trans ((m _ _ (by omega)).trans c4'), (al _ _ _ (by omega)).trans ((m _ _ (by omega)).trans s04), (al _ _ _ (by omega)).trans ((m _ _ (by omega)).trans s14), (al _ _ _ (by omega)).trans x05, (al _ _ _ (by omega)).trans x15, by go_simp, by go_simp,
      (hS4.below bel45).below bal, (hU4.below bel45).below bal, hG5.below bal, Own.below (Own.below ⟨hO4.1, fun b hb => by have := hO4.2.1 b hb; omega, hO4.2.2⟩ hl4 bel45) (hU4.below bel45).lt bal, Own.below ⟨hO5.1, fun b hb => by have := hO5.2.1 b hb; omega, hO5.2.2⟩ hl5 bal, by omega, by omega, by omega, by simp, ?_, ?_, ?_, ?_, ?_⟩
    · exact ⟨fun h => by have := hO4.2.1 _ h; omega, fun h => by have := hO4.2.1 _ h; omega, fun h => by have := hl4 _ h; omega, fun h => by have := hl4 _ h; omega⟩
    · exact ⟨fun h => by have := hO5.2.1 _ h; omega, fun h => by have := hO5.2.1 _ h; omega, fun h => by have := hO5.2.1 _ h; omega, fun h => by have := hl5 _ h; omega⟩
    · exact fun b hb h => by have := hl3 b hb; have := hO4.2.1 b h; omega
    · exact fun b hb h => by have := hl3 b hb; have := hO5.2.1 b h; omega
    · exact fun b hb h => by have := hl4 b hb; have := hO5.2.1 b h; omega
  have hy5 : w.heap.size < w5.heap.size := by omega
  have hy35 : w3.heap.size < w5.heap.size := by omega
  have hy45 : w4.heap.size < w5.heap.size := by omega
  clear b4 c4' s04 s14 x05 x15 al bal hS4 hU4 hG5 hO4 hO5 hb5 bel45 bel34 hl3 hl4 hl5
  have h05 := st.h0
  have h15 := st.h1
  have a05 := st.a0
  have a15 := st.a1
  have x05 := st.x0
  have x15 := st.x1
  have g05 := st.g0
  have g15 := st.g1
  go_wp2_with fail
  refine Calls.mono (eqBag_same W (.slice a5 l5 c5) (.slice a3 l3 c3) (timesC W n cs) _ st.gg.is st.sp.is) ?_
  rintro e w6 ⟨rfl, hb6⟩
  have hz6 := hb6.size
  simp only [World.size_alloc] at hz6
  have st6 := st.below hb6
  have hy6 : w5.heap.size < w6.heap.size := by omega
  clear hb6 st
  clear h05 h15 a05 a15 x05 x15 g05 g15 
  have h06 := st6.h0
  have h16 := st6.h1
  have a06 := st6.a0
  have a16 := st6.a1
  have x06 := st6.x0
  have x16 := st6.x1
  have g06 := st6.g0
  have g16 := st6.g1
  go_wp2_with fail
  go_region_held3 (fun w' => w'.cell? ⟨w.heap.size, 0, none⟩ = some (.int .i64 W) ∧ w'.cell? ⟨w.heap.size, 1, none⟩ = some (.slice av lv cv) ∧ w'.cell? ⟨w4.heap.size, 0, none⟩ = some (.int .i64 W) ∧ w'.cell? ⟨w4.heap.size, 1, none⟩ = some (.slice a4 l4 c4)) (refine ⟨?_, ?_, ?_, ?_⟩ <;> first | (go_simp; done) | (exact cell_later (by assumption) (by go_simp))) (first | (go_at_call 19; refine Calls.mono (toBag_F W (.slice av lv cv) cs _ (hr.below (st6.bel.drew)) hn) ?_; rintro e w7 ⟨⟨u7, F7, rfl, hU7, _⟩, hb7⟩; have hz7 := hb7.size; have bel67 : Below w6.heap.size w6 w7 := (by repeat (first | (with_reducible exact Below.refl _ _) | (with_reducible refine Below.drew ?_) | (with_reducible refine Below.alloc ?_ ?hh _; case hh => first | (simp; done) | (simp; omega) | omega) | (with_reducible refine Below.setCell ?_ ?hh _; case hh => first | (simp; done) | (simp; omega) | omega) | refine bstep (by assumption) (by first | (simp; done) | (simp; omega) | omega) ?_))) | (go_at_call 12; refine Calls.mono (eqBag_same W (.slice a4 l4 c4) u7 cs _ (st6.below bel67).xx.is hU7.is) ?_; rintro e w8 ⟨rfl, hb8⟩; have bel68 : Below w6.heap.size w6 w8 := bel67.trans (hb8.mono bel67.size)))
  have st8 := st6.below bel68
  have hz8 := bel68.size
  clear hU7 hb7 hb8 bel67 bel68 st6
  clear h06 h16 a06 a16 x06 x16 g06 g16 
  have h08 := st8.h0
  have h18 := st8.h1
  have a08 := st8.a0
  have a18 := st8.a1
  have x08 := st8.x0
  have x18 := st8.x1
  have g08 := st8.g0
  have g18 := st8.g1
  have hy8 : w5.heap.size < w8.heap.size := by omega
  go_wp2_with fail
  refine Calls.mono (markBag_any W 1 (.slice a4 l4 c4) cs F4 w8 st8.xx st8.o4.1 st8.o4.2.2 (by decide) (by omega)) ?_
  rintro e w9 ⟨rfl, hx9, hc9⟩
  have hz9 := hc9.size
  have st9 := st8.markX hc9 hx9
  have hoff := offC_le 1 cs cs.length
  have hop : 0 < offC 1 cs cs.length := by unfold offC; omega
  generalize offC 1 cs cs.length = kx at *
  clear hx9 hc9 st8
  clear h08 h18 a08 a18 x08 x18 g08 g18 
  have h09 := st9.h0
  have h19 := st9.h1
  have a09 := st9.a0
  have a19 := st9.a1
  have x09 := st9.x0
  have x19 := st9.x1
  have g09 := st9.g0
  have g19 := st9.g1
  have hy9 : w5.heap.size < w9.heap.size := by omega
  go_wp2_with fail
  refine Calls.mono (eqBag_same W (.slice a5 l5 c5) (.slice a3 l3 c3) (timesC W n cs) w9 st9.gg.is st9.sp.is) ?_
  rintro e w10 ⟨rfl, hb10⟩
  have hz10 := hb10.size
  have st10 := st9.below hb10
  clear hb10 st9
  clear h09 h19 a09 a19 x09 x19 g09 g19 
  have h010 := st10.h0
  have h110 := st10.h1
  have a010 := st10.a0
  have a110 := st10.a1
  have x010 := st10.x0
  have x110 := st10.x1
  have g010 := st10.g0
  have g110 := st10.g1
  have hy10 : w5.heap.size < w10.heap.size := by omega
  go_wp2_with fail
  refine Calls.mono (markBag_any W 1 (.slice a5 l5 c5) (timesC W n cs) F5 w10 st10.gg st10.o5.1 st10.o5.2.2 (by decide) (by omega)) ?_
  rintro e w11 ⟨rfl, hx11, hc11⟩
  have hz11 := hc11.size
  have st11 := st10.markG hc11 hx11
  have hoff2 := offC_le 1 (timesC W n cs) (timesC W n cs).length
  have hheld := fun w' => heldBag_any W 1 (.slice a5 l5 c5) (timesC W n cs) w'
  generalize offC 1 (timesC W n cs) (timesC W n cs).length = kg at *
  clear hx11 hc11 st10
  clear h010 h110 a010 a110 x010 x110 g010 g110 
  have h011 := st11.h0
  have h111 := st11.h1
  have a011 := st11.a0
  have a111 := st11.a1
  have x011 := st11.x0
  have x111 := st11.x1
  have g011 := st11.g0
  have g111 := st11.g1
  have hy11 : w5.heap.size < w11.heap.size := by omega
  go_wp2_with fail
  refine Calls.mono (hheld w11 st11.gg.is (by decide) (by omega)) ?_
  rintro e w12 ⟨rfl, hb12⟩
  have hz12 := hb12.size
  have st12 := st11.below hb12
  clear hb12 st11
  clear h011 h111 a011 a111 x011 x111 g011 g111 
  have h012 := st12.h0
  have h112 := st12.h1
  have a012 := st12.a0
  have a112 := st12.a1
  have x012 := st12.x0
  have x112 := st12.x1
  have g012 := st12.g0
  have g112 := st12.g1
  have hy12 : w5.heap.size < w12.heap.size := by omega
  go_wp2_with fail
  refine Calls.mono (toBag_F W (.slice av lv cv) cs w12 (hr.below st12.bel) hn) ?_
  rintro e w13 ⟨⟨u13, F13, rfl, hU13, _⟩, hb13⟩
  obtain ⟨a13, l13, c13, rfl⟩ := hU13.is.shape
  have hz13 := hb13.size
  have st13 := st12.below hb13
  clear hb13 st12
  clear h012 h112 a012 a112 x012 x112 g012 g112 
  have h013 := st13.h0
  have h113 := st13.h1
  have a013 := st13.a0
  have a113 := st13.a1
  have x013 := st13.x0
  have x113 := st13.x1
  have g013 := st13.g0
  have g113 := st13.g1
  have hy13 : w5.heap.size < w13.heap.size := by omega
  go_wp2_with fail
  refine Calls.mono (implTimes_any W n (.slice a13 l13 c13) cs F13 w13 hw hn64 hU13 hn) ?_
  rintro e w14 ⟨⟨g14, F14, rfl, hG14, _⟩, hb14⟩
  obtain ⟨a14, l14, c14, rfl⟩ := hG14.is.shape
  have hz14 := hb14.size
  have bal : Below w14.heap.size w14 (w14.alloc (.cells #[.int .i64 W, .slice a14 l14 c14] 26)) := (Below.refl _ _).alloc (Nat.le_refl _) _
  have st14 := st13.below hb14
  have st14' := st14.below bal
  have hG := hG14.below bal
  clear hb14 st13 hU13
  clear h013 h113 a013 a113 x013 x113 g013 g113 
  have h014 := st14.h0
  have h114 := st14.h1
  have a014 := st14.a0
  have a114 := st14.a1
  have x014 := st14.x0
  have x114 := st14.x1
  have g014 := st14.g0
  have g114 := st14.g1
  have hy14 : w5.heap.size < w14.heap.size := by omega
  have hya : w3.heap.size < w14.heap.size := by omega
  go_wp2_with fail
  refine Calls.mono (eqBag_same W (.slice a14 l14 c14) (.slice a3 l3 c3) (timesC W n cs) _ hG.is st14'.sp.is) ?_
  rintro e w15 ⟨rfl, hb15⟩
  have hz15 := hb15.size
  simp only [World.size_alloc] at hz15
  have st15 := st14'.below hb15
  clear hb15 st14 st14' hG hG14 bal
  clear h014 h114 a014 a114 x014 x114 g014 g114 
  have h015 := st15.h0
  have h115 := st15.h1
  have a015 := st15.a0
  have a115 := st15.a1
  have x015 := st15.x0
  have x115 := st15.x1
  have g015 := st15.g0
  have g115 := st15.g1
  have hy15 : w5.heap.size < w15.heap.size := by omega
  go_wp2_with fail
  refine Calls.mono (hheld w15 st15.gg.is (by decide) (by omega)) ?_
  rintro e w16 ⟨rfl, hb16⟩
  have hz16 := hb16.size
  have belE : Below w.heap.size w w16 := st15.bel.trans (hb16.mono (by omega))
  clear hb16 st15 hheld
  clear h015 h115 a015 a115 x015 x115 g015 g115 
  go_wp2
  go_returns
  exact ⟨rfl, belE⟩
end Go.Proofs.Ythngmknjdehkiaa.fnExactTimesBag
