/- Own texts, joined: contracts that the law's proof goes by. -/
import Derived.Test.YtbmoimfimeiglaaGreatGLFnLog48
import Derived.Handy
import Derived.Test.YtbmoimfimeiglaaGreatGLFnLog33
import Derived.Test.YtbmoimfimeiglaaGreatGLFnLog37
import Derived.Test.YtbmoimfimeiglaaGreatGLFnLog29
import Derived.Test.YtbmoimfimeiglaaGreatGLFnLog41
import Derived.Test.YtbmoimfimeiglaaGreatGLFnLog50
import Derived.Laws.IdiomStrings
import Derived.Laws.BytesArg
import Derived.Laws.BitsAllLaws
namespace Go.Proofs.YtbmoimfimeiglaaGreat
open Go.RowKit Go.Deep Go.ChangeShapes Go.WideShapes
set_option linter.unusedVariables false
set_option maxHeartbeats 8000000 in
set_option maxRecDepth 100000 in
theorem l10Step_any (B : Nat) (v : Value) (l : Nat) (w : World) (h : Cur w B v l) :
    Calls Tryz.prog 24 #[.pointer (some ⟨B, 0, none⟩)] w fun e w' => StOut B v l w e w' := by
  have hBl := h.lt
  have hR0 := heap_alloc_new w (.cells #[.int .i64 0, .string ⟨#[]⟩, .slice none 0 0, .string ⟨#[]⟩, .slice none 0 0] 27)
  have hD0 := h.start.alloc (.cells #[.int .i64 0, .string ⟨#[]⟩, .slice none 0 0, .string ⟨#[]⟩, .slice none 0 0] 27)
  have hz0 : w.heap.size < (w.alloc (.cells #[.int .i64 0, .string ⟨#[]⟩, .slice none 0 0, .string ⟨#[]⟩, .slice none 0 0] 27)).heap.size := by simp
  clear h
  go_enter Tryz.func24, Tryz.ntmps24
  go_wp2_with fail
  generalize w.alloc (.cells #[.int .i64 0, .string ⟨#[]⟩, .slice none 0 0, .string ⟨#[]⟩, .slice none 0 0] 27) = wa at *
  refine Calls.mono (l01Below_any 4 B v l wa hD0.cur (by omega) (by omega)) ?_
  rintro e w1 ⟨⟨q, rfl, q0, q1⟩, hd1⟩
  have hz1 := hd1.chg.size
  have hW : StW w (w1.alloc (.cells #[.int .i64 q, .string ⟨#[]⟩, .slice none 0 0, .string ⟨#[]⟩, .slice none 0 0] 27)) w1.heap.size B v l q ⟨#[]⟩ [] ⟨#[]⟩ [] (.slice none 0 0) (.slice none 0 0) [] [] := by
    have bal : Below w1.heap.size w1 (w1.alloc (.cells #[.int .i64 q, .string ⟨#[]⟩, .slice none 0 0, .string ⟨#[]⟩, .slice none 0 0] 27)) := (Below.refl _ _).alloc (Nat.le_refl _) _
    exact ⟨heap_alloc_new w1 _, (bal.block _ (by omega)).trans (hd1.cellsB hR0 (by omega)), by omega, StpOwn.nil' _ _ _, ((hD0.trans hd1).below bal)⟩
  clear hR0 hD0 hd1
  go_upto_region 2 with fail
  generalize w1.alloc (.cells #[.int .i64 q, .string ⟨#[]⟩, .slice none 0 0, .string ⟨#[]⟩, .slice none 0 0] 27) = wS at *
  generalize w1.heap.size = S at *
  obtain ⟨c0, c1, c2, c3, c4, cf⟩ := cells5 hW.sb
  have hSl := hW.slt
  by_cases e0 : q = 0
  · subst e0
    clear q0 q1
    go_wp2_with fail
    refine Calls.mono (pick_lit 1 4 _ B v l wS _ hW.D.cur (by omega) (by omega) (by rfl) rfl) ?_
    rintro e w2 ⟨⟨nm, rfl, hnm⟩, hd2⟩
    replace hW := hW.drew hd2
    clear hd2 c0 c1 c2 c3 c4 cf hSl
    obtain ⟨c0, c1, c2, c3, c4, cf⟩ := cells5 hW.sb
    have hSl := hW.slt
    go_upto_region 6 with fail
    replace hW := hW.set1 nm
    generalize w2.setCell ⟨S, 1, none⟩ (.string nm) = wz at *
    clear c0 c1 c2 c3 c4 cf hSl
    obtain ⟨c0, c1, c2, c3, c4, cf⟩ := cells5 hW.sb
    have hSl := hW.slt
    obtain ⟨w3, hw3⟩ : ∃ x, x = wz := ⟨_, rfl⟩
    subst hw3
    have hS3 := hSl
    have hLit := lit_cols w3
    have bel : Below w3.heap.size w3 ((((w3.alloc (.cells #[.string ⟨#[120]⟩] 9)).alloc (.cells #[.string ⟨#[121]⟩, .string ⟨#[122]⟩] 9)).alloc (.cells #[.string ⟨#[120]⟩, .string ⟨#[121]⟩, .string ⟨#[122]⟩] 9)).alloc (.cells #[.slice (some ⟨w3.heap.size, 0, none⟩) 1 1, .slice (some ⟨w3.heap.size + 1, 0, none⟩) 2 2, .slice (some ⟨w3.heap.size + 2, 0, none⟩) 3 3] 24)) := ((((Below.refl _ _).alloc (Nat.le_refl _) _).alloc (by simp) _).alloc (by simp; omega) _).alloc (by simp; omega) _
    clear c0 c1 c2 c3 c4 cf
    go_wp2_with fail
    refine Calls.mono (l01Below_any 3 B v l _ (hW.below bel).D.cur (by omega) (by omega)) ?_
    rintro e w5 ⟨⟨i, rfl, i0, i1⟩, hd5⟩
    obtain ⟨iN, rfl⟩ : ∃ iN : Nat, i = iN := ⟨i.toNat, by omega⟩
    obtain ⟨gb, cs, hg3, hcl, hcs, hcell, hgl, hstr, hown⟩ := hLit iN (by omega)
    have hgB : gb ≠ B := by have := hW.D.lt; have := hW.D.chg.size; omega
    have hPl : w3.heap.size + 3 < ((((w3.alloc (.cells #[.string ⟨#[120]⟩] 9)).alloc (.cells #[.string ⟨#[121]⟩, .string ⟨#[122]⟩] 9)).alloc (.cells #[.string ⟨#[120]⟩, .string ⟨#[121]⟩, .string ⟨#[122]⟩] 9)).alloc (.cells #[.slice (some ⟨w3.heap.size, 0, none⟩) 1 1, .slice (some ⟨w3.heap.size + 1, 0, none⟩) 2 2, .slice (some ⟨w3.heap.size + 2, 0, none⟩) 3 3] 24)).heap.size := by simp
    have hPB : w3.heap.size + 3 ≠ B := by have := hW.D.lt; have := hW.D.chg.size; omega
    have hcell5 := (cell_blk (o := iN) (hd5.old hPl hPB)).trans hcell
    have hst5 := hstr.keep hd5.chg.size fun b hb => by rcases List.mem_singleton.1 hb with rfl; exact hd5.old hgl hgB
    have hown5 := hown.keep fun b hb => by rcases List.mem_singleton.1 hb with rfl; exact hd5.old hgl hgB
    replace hW := (hW.below bel).drew hd5
    have hPl5 : w3.heap.size + 3 < w5.heap.size := Nat.lt_of_lt_of_le hPl hd5.chg.size
    clear hd5 bel hLit hcell hstr hown hSl
    obtain ⟨c0, c1, c2, c3, c4, cf⟩ := cells5 hW.sb
    have hSl := hW.slt
    have hiN : (iN : Int) < 3 := by omega
    go_upto_region 12 with fail
    replace hW := hW.set2 (.slice (some ⟨gb, 0, none⟩) cs.length cs.length) cs [gb] hst5 ⟨hown5.1, fun b hb => by have := hown5.2.1 b hb; omega, hown5.2.2⟩ (fun b _ hb => by cases hb)
    generalize w5.setCell ⟨S, 2, none⟩ (.slice (some ⟨gb, 0, none⟩) cs.length cs.length) = wz at *
    clear c0 c1 c2 c3 c4 cf hSl
    obtain ⟨c0, c1, c2, c3, c4, cf⟩ := cells5 hW.sb
    have hSl := hW.slt
    clear c0 c1 c2 c3 c4 cf hSl hcell5 hst5 hown5
    obtain ⟨k, s, cs, q, rs, uc, ur, g, F, hW, hX⟩ : ∃ k s cs q rs uc ur g F, StW w wz S B v l k s cs q rs uc ur g F ∧ StD ⟨k, s, cs, q, rs⟩ := ⟨_, _, _, _, _, _, _, _, _, hW, ⟨by dsimp only; omega, by dsimp only; omega, by dsimp only; omega, hcl, hcs, by show 0 ≤ 400; omega, by simp, (fun r hr => by cases hr), by simp [chB]⟩⟩
    obtain ⟨ac, cc, rfl, _, _⟩ := hW.own.1.shape
    obtain ⟨ar, cr, rfl⟩ : ∃ a c, ur = .slice a rs.length c := by obtain ⟨a, c, _, e, _⟩ := hW.own.2.1; exact ⟨a, c, e⟩
    obtain ⟨c0, c1, c2, c3, c4, cf⟩ := cells5 hW.sb
    have hSl := hW.slt
    go_wp2_with fail
    refine Calls.mono (l01Below_any 20 B v l _ hW.D.cur (by omega) (by omega)) ?_
    rintro e w8 ⟨⟨p, rfl, p0, p1⟩, hd8⟩
    replace hW := hW.drew hd8
    clear hd8 c0 c1 c2 c3 c4 cf hSl
    obtain ⟨c0, c1, c2, c3, c4, cf⟩ := cells5 hW.sb
    have hSl := hW.slt
    by_cases f0 : p = 0
    · subst f0
      clear p0 p1
      go_wp2_with fail
      refine Calls.mono (l01Below_any 6 B v l _ hW.D.cur (by omega) (by omega)) ?_
      rintro e w9 ⟨⟨t, rfl, t0, t1⟩, hd9⟩
      replace hW := hW.drew hd9
      clear hd9 c0 c1 c2 c3 c4 cf hSl
      obtain ⟨c0, c1, c2, c3, c4, cf⟩ := cells5 hW.sb
      have hSl := hW.slt
      have e1 : wrap64 (t - 1) = t - 1 := by unfold wrap64; omega
      have e2 : IntKind.i64.wrap (t - 1) = t - 1 := by rw [IntKind.wrap_i64]; omega
      replace hX := hX.setK (k' := t - 1) (by omega) (by omega)
      go_upto_region 17 with fail
      replace hW := hW.set0 (t - 1)
      generalize w9.setCell ⟨S, 0, none⟩ (.int .i64 (t - 1)) = wz at *
      clear c0 c1 c2 c3 c4 cf hSl e1 e2
      obtain ⟨k, hk⟩ : ∃ k, k = t - 1 := ⟨_, rfl⟩
      rw [← hk] at hW hX
      clear hk
      skip
      skip
      obtain ⟨c0, c1, c2, c3, c4, cf⟩ := cells5 hW.sb
      obtain ⟨r0, r1, r2, r3, r4, rf⟩ := cells5 hW.rb
      have hSl := hW.slt
      have hRl := hW.rlt
      have hSR := hW.sl
      obtain ⟨y0, y1, y2, y3, y4, hO, hDD⟩ := hW.fin
      have HO : Hid _ := hO
      have HD : Hid _ := hDD
      have H0 : Hid _ := y0
      have H1 : Hid _ := y1
      have H2 : Hid _ := y2
      have H3 : Hid _ := y3
      have H4 : Hid _ := y4
      have HX : Hid _ := hX
      clear hO hDD y0 y1 y2 y3 y4 hX hW
      go_wp2
      exact bodyPost_ret (results_c rfl _ _ _ _ ⟨w.heap.size, 0, none⟩ rfl (load5s H0.out H1.out H2.out H3.out H4.out)) rfl (StOut.of HO.out HX.out HD.out)
    by_cases f1 : p = 1
    · subst f1
      clear p0 p1 f0
      go_wp2_with fail
      refine Calls.mono (pick_lit 11 3 _ B v l w8 _ hW.D.cur (by omega) (by omega) (by rfl) rfl) ?_
      rintro e w9 ⟨⟨nm, rfl, hnm⟩, hd9⟩
      replace hW := hW.drew hd9
      clear hd9 c0 c1 c2 c3 c4 cf hSl
      obtain ⟨c0, c1, c2, c3, c4, cf⟩ := cells5 hW.sb
      have hSl := hW.slt
      replace hX := hX.setS (s' := nm) hnm
      go_upto_region 17 with fail
      replace hW := hW.set1 nm
      generalize w9.setCell ⟨S, 1, none⟩ (.string nm) = wz at *
      clear c0 c1 c2 c3 c4 cf hSl
      obtain ⟨s, hs⟩ : ∃ s, s = nm := ⟨_, rfl⟩
      rw [← hs] at hW hX
      clear hs
      skip
      skip
      obtain ⟨c0, c1, c2, c3, c4, cf⟩ := cells5 hW.sb
      obtain ⟨r0, r1, r2, r3, r4, rf⟩ := cells5 hW.rb
      have hSl := hW.slt
      have hRl := hW.rlt
      have hSR := hW.sl
      obtain ⟨y0, y1, y2, y3, y4, hO, hDD⟩ := hW.fin
      have HO : Hid _ := hO
      have HD : Hid _ := hDD
      have H0 : Hid _ := y0
      have H1 : Hid _ := y1
      have H2 : Hid _ := y2
      have H3 : Hid _ := y3
      have H4 : Hid _ := y4
      have HX : Hid _ := hX
      clear hO hDD y0 y1 y2 y3 y4 hX hW
      go_wp2
      exact bodyPost_ret (results_c rfl _ _ _ _ ⟨w.heap.size, 0, none⟩ rfl (load5s H0.out H1.out H2.out H3.out H4.out)) rfl (StOut.of HO.out HX.out HD.out)
    have b0 : (p == 0) = false := by simp [f0]
    have b1 : (p == 1) = false := by simp [f1]
    clear p0 p1 f0 f1
    clear c0 c1 c2 c3 c4 cf hSl
    skip
    skip
    obtain ⟨c0, c1, c2, c3, c4, cf⟩ := cells5 hW.sb
    obtain ⟨r0, r1, r2, r3, r4, rf⟩ := cells5 hW.rb
    have hSl := hW.slt
    have hRl := hW.rlt
    have hSR := hW.sl
    obtain ⟨y0, y1, y2, y3, y4, hO, hDD⟩ := hW.fin
    have HO : Hid _ := hO
    have HD : Hid _ := hDD
    have H0 : Hid _ := y0
    have H1 : Hid _ := y1
    have H2 : Hid _ := y2
    have H3 : Hid _ := y3
    have H4 : Hid _ := y4
    have HX : Hid _ := hX
    clear hO hDD y0 y1 y2 y3 y4 hX hW
    go_wp2
    exact bodyPost_ret (results_c rfl _ _ _ _ ⟨w.heap.size, 0, none⟩ rfl (load5s H0.out H1.out H2.out H3.out H4.out)) rfl (StOut.of HO.out HX.out HD.out)
  by_cases e1 : q = 1
  · subst e1
    clear q0 q1 e0
    go_wp2_with fail
    refine Calls.mono (pick_lit 1 3 _ B v l wS _ hW.D.cur (by omega) (by omega) (by rfl) rfl) ?_
    rintro e w2 ⟨⟨nm, rfl, hnm⟩, hd2⟩
    replace hW := hW.drew hd2
    clear hd2 c0 c1 c2 c3 c4 cf hSl
    obtain ⟨c0, c1, c2, c3, c4, cf⟩ := cells5 hW.sb
    have hSl := hW.slt
    go_upto_region 9 with fail
    replace hW := hW.set1 nm
    generalize w2.setCell ⟨S, 1, none⟩ (.string nm) = wz at *
    clear c0 c1 c2 c3 c4 cf hSl
    obtain ⟨c0, c1, c2, c3, c4, cf⟩ := cells5 hW.sb
    have hSl := hW.slt
    obtain ⟨w3, hw3⟩ : ∃ x, x = wz := ⟨_, rfl⟩
    subst hw3
    go_wp2_with fail
    refine Calls.mono (l08Query_any B v l w3 hW.D.cur) ?_
    rintro e w4 ⟨⟨qu, rfl, hqu⟩, hd4⟩
    replace hW := hW.drew hd4
    clear hd4 c0 c1 c2 c3 c4 cf hSl
    obtain ⟨c0, c1, c2, c3, c4, cf⟩ := cells5 hW.sb
    have hSl := hW.slt
    go_upto_region 12 with fail
    replace hW := hW.set3 qu
    generalize w4.setCell ⟨S, 3, none⟩ (.string qu) = wz at *
    clear c0 c1 c2 c3 c4 cf hSl
    obtain ⟨c0, c1, c2, c3, c4, cf⟩ := cells5 hW.sb
    have hSl := hW.slt
    clear c0 c1 c2 c3 c4 cf hSl
    obtain ⟨k, s, cs, q, rs, uc, ur, g, F, hW, hX⟩ : ∃ k s cs q rs uc ur g F, StW w wz S B v l k s cs q rs uc ur g F ∧ StD ⟨k, s, cs, q, rs⟩ := ⟨_, _, _, _, _, _, _, _, _, hW, ⟨by dsimp only; omega, by dsimp only; omega, by dsimp only; omega, by simp, (fun c hc => by cases hc), by dsimp only; omega, by simp, (fun r hr => by cases hr), by simp [chB]⟩⟩
    obtain ⟨ac, cc, rfl, _, _⟩ := hW.own.1.shape
    obtain ⟨ar, cr, rfl⟩ : ∃ a c, ur = .slice a rs.length c := by obtain ⟨a, c, _, e, _⟩ := hW.own.2.1; exact ⟨a, c, e⟩
    obtain ⟨c0, c1, c2, c3, c4, cf⟩ := cells5 hW.sb
    have hSl := hW.slt
    go_wp2_with fail
    refine Calls.mono (l01Below_any 20 B v l _ hW.D.cur (by omega) (by omega)) ?_
    rintro e w8 ⟨⟨p, rfl, p0, p1⟩, hd8⟩
    replace hW := hW.drew hd8
    clear hd8 c0 c1 c2 c3 c4 cf hSl
    obtain ⟨c0, c1, c2, c3, c4, cf⟩ := cells5 hW.sb
    have hSl := hW.slt
    by_cases f0 : p = 0
    · subst f0
      clear p0 p1
      go_wp2_with fail
      refine Calls.mono (l01Below_any 6 B v l _ hW.D.cur (by omega) (by omega)) ?_
      rintro e w9 ⟨⟨t, rfl, t0, t1⟩, hd9⟩
      replace hW := hW.drew hd9
      clear hd9 c0 c1 c2 c3 c4 cf hSl
      obtain ⟨c0, c1, c2, c3, c4, cf⟩ := cells5 hW.sb
      have hSl := hW.slt
      have e1 : wrap64 (t - 1) = t - 1 := by unfold wrap64; omega
      have e2 : IntKind.i64.wrap (t - 1) = t - 1 := by rw [IntKind.wrap_i64]; omega
      replace hX := hX.setK (k' := t - 1) (by omega) (by omega)
      go_upto_region 17 with fail
      replace hW := hW.set0 (t - 1)
      generalize w9.setCell ⟨S, 0, none⟩ (.int .i64 (t - 1)) = wz at *
      clear c0 c1 c2 c3 c4 cf hSl e1 e2
      obtain ⟨k, hk⟩ : ∃ k, k = t - 1 := ⟨_, rfl⟩
      rw [← hk] at hW hX
      clear hk
      skip
      skip
      obtain ⟨c0, c1, c2, c3, c4, cf⟩ := cells5 hW.sb
      obtain ⟨r0, r1, r2, r3, r4, rf⟩ := cells5 hW.rb
      have hSl := hW.slt
      have hRl := hW.rlt
      have hSR := hW.sl
      obtain ⟨y0, y1, y2, y3, y4, hO, hDD⟩ := hW.fin
      have HO : Hid _ := hO
      have HD : Hid _ := hDD
      have H0 : Hid _ := y0
      have H1 : Hid _ := y1
      have H2 : Hid _ := y2
      have H3 : Hid _ := y3
      have H4 : Hid _ := y4
      have HX : Hid _ := hX
      clear hO hDD y0 y1 y2 y3 y4 hX hW
      go_wp2
      exact bodyPost_ret (results_c rfl _ _ _ _ ⟨w.heap.size, 0, none⟩ rfl (load5s H0.out H1.out H2.out H3.out H4.out)) rfl (StOut.of HO.out HX.out HD.out)
    by_cases f1 : p = 1
    · subst f1
      clear p0 p1 f0
      go_wp2_with fail
      refine Calls.mono (pick_lit 11 3 _ B v l w8 _ hW.D.cur (by omega) (by omega) (by rfl) rfl) ?_
      rintro e w9 ⟨⟨nm, rfl, hnm⟩, hd9⟩
      replace hW := hW.drew hd9
      clear hd9 c0 c1 c2 c3 c4 cf hSl
      obtain ⟨c0, c1, c2, c3, c4, cf⟩ := cells5 hW.sb
      have hSl := hW.slt
      replace hX := hX.setS (s' := nm) hnm
      go_upto_region 17 with fail
      replace hW := hW.set1 nm
      generalize w9.setCell ⟨S, 1, none⟩ (.string nm) = wz at *
      clear c0 c1 c2 c3 c4 cf hSl
      obtain ⟨s, hs⟩ : ∃ s, s = nm := ⟨_, rfl⟩
      rw [← hs] at hW hX
      clear hs
      skip
      skip
      obtain ⟨c0, c1, c2, c3, c4, cf⟩ := cells5 hW.sb
      obtain ⟨r0, r1, r2, r3, r4, rf⟩ := cells5 hW.rb
      have hSl := hW.slt
      have hRl := hW.rlt
      have hSR := hW.sl
      obtain ⟨y0, y1, y2, y3, y4, hO, hDD⟩ := hW.fin
      have HO : Hid _ := hO
      have HD : Hid _ := hDD
      have H0 : Hid _ := y0
      have H1 : Hid _ := y1
      have H2 : Hid _ := y2
      have H3 : Hid _ := y3
      have H4 : Hid _ := y4
      have HX : Hid _ := hX
      clear hO hDD y0 y1 y2 y3 y4 hX hW
      go_wp2
      exact bodyPost_ret (results_c rfl _ _ _ _ ⟨w.heap.size, 0, none⟩ rfl (load5s H0.out H1.out H2.out H3.out H4.out)) rfl (StOut.of HO.out HX.out HD.out)
    have b0 : (p == 0) = false := by simp [f0]
    have b1 : (p == 1) = false := by simp [f1]
    clear p0 p1 f0 f1
    clear c0 c1 c2 c3 c4 cf hSl
    skip
    skip
    obtain ⟨c0, c1, c2, c3, c4, cf⟩ := cells5 hW.sb
    obtain ⟨r0, r1, r2, r3, r4, rf⟩ := cells5 hW.rb
    have hSl := hW.slt
    have hRl := hW.rlt
    have hSR := hW.sl
    obtain ⟨y0, y1, y2, y3, y4, hO, hDD⟩ := hW.fin
    have HO : Hid _ := hO
    have HD : Hid _ := hDD
    have H0 : Hid _ := y0
    have H1 : Hid _ := y1
    have H2 : Hid _ := y2
    have H3 : Hid _ := y3
    have H4 : Hid _ := y4
    have HX : Hid _ := hX
    clear hO hDD y0 y1 y2 y3 y4 hX hW
    go_wp2
    exact bodyPost_ret (results_c rfl _ _ _ _ ⟨w.heap.size, 0, none⟩ rfl (load5s H0.out H1.out H2.out H3.out H4.out)) rfl (StOut.of HO.out HX.out HD.out)
  by_cases e2 : q = 2
  · subst e2
    clear q0 q1 e0 e1
    go_wp2_with fail
    refine Calls.mono (pick_lit 4 4 _ B v l wS _ hW.D.cur (by omega) (by omega) (by rfl) rfl) ?_
    rintro e w2 ⟨⟨nm, rfl, hnm⟩, hd2⟩
    replace hW := hW.drew hd2
    clear hd2 c0 c1 c2 c3 c4 cf hSl
    obtain ⟨c0, c1, c2, c3, c4, cf⟩ := cells5 hW.sb
    have hSl := hW.slt
    go_upto_region 12 with fail
    replace hW := hW.set1 nm
    generalize w2.setCell ⟨S, 1, none⟩ (.string nm) = wz at *
    clear c0 c1 c2 c3 c4 cf hSl
    obtain ⟨c0, c1, c2, c3, c4, cf⟩ := cells5 hW.sb
    have hSl := hW.slt
    clear c0 c1 c2 c3 c4 cf hSl
    obtain ⟨k, s, cs, q, rs, uc, ur, g, F, hW, hX⟩ : ∃ k s cs q rs uc ur g F, StW w wz S B v l k s cs q rs uc ur g F ∧ StD ⟨k, s, cs, q, rs⟩ := ⟨_, _, _, _, _, _, _, _, _, hW, ⟨by dsimp only; omega, by dsimp only; omega, by dsimp only; omega, by simp, (fun c hc => by cases hc), by show 0 ≤ 400; omega, by simp, (fun r hr => by cases hr), by simp [chB]⟩⟩
    obtain ⟨ac, cc, rfl, _, _⟩ := hW.own.1.shape
    obtain ⟨ar, cr, rfl⟩ : ∃ a c, ur = .slice a rs.length c := by obtain ⟨a, c, _, e, _⟩ := hW.own.2.1; exact ⟨a, c, e⟩
    obtain ⟨c0, c1, c2, c3, c4, cf⟩ := cells5 hW.sb
    have hSl := hW.slt
    go_wp2_with fail
    refine Calls.mono (l01Below_any 20 B v l _ hW.D.cur (by omega) (by omega)) ?_
    rintro e w8 ⟨⟨p, rfl, p0, p1⟩, hd8⟩
    replace hW := hW.drew hd8
    clear hd8 c0 c1 c2 c3 c4 cf hSl
    obtain ⟨c0, c1, c2, c3, c4, cf⟩ := cells5 hW.sb
    have hSl := hW.slt
    by_cases f0 : p = 0
    · subst f0
      clear p0 p1
      go_wp2_with fail
      refine Calls.mono (l01Below_any 6 B v l _ hW.D.cur (by omega) (by omega)) ?_
      rintro e w9 ⟨⟨t, rfl, t0, t1⟩, hd9⟩
      replace hW := hW.drew hd9
      clear hd9 c0 c1 c2 c3 c4 cf hSl
      obtain ⟨c0, c1, c2, c3, c4, cf⟩ := cells5 hW.sb
      have hSl := hW.slt
      have e1 : wrap64 (t - 1) = t - 1 := by unfold wrap64; omega
      have e2 : IntKind.i64.wrap (t - 1) = t - 1 := by rw [IntKind.wrap_i64]; omega
      replace hX := hX.setK (k' := t - 1) (by omega) (by omega)
      go_upto_region 17 with fail
      replace hW := hW.set0 (t - 1)
      generalize w9.setCell ⟨S, 0, none⟩ (.int .i64 (t - 1)) = wz at *
      clear c0 c1 c2 c3 c4 cf hSl e1 e2
      obtain ⟨k, hk⟩ : ∃ k, k = t - 1 := ⟨_, rfl⟩
      rw [← hk] at hW hX
      clear hk
      skip
      skip
      obtain ⟨c0, c1, c2, c3, c4, cf⟩ := cells5 hW.sb
      obtain ⟨r0, r1, r2, r3, r4, rf⟩ := cells5 hW.rb
      have hSl := hW.slt
      have hRl := hW.rlt
      have hSR := hW.sl
      obtain ⟨y0, y1, y2, y3, y4, hO, hDD⟩ := hW.fin
      have HO : Hid _ := hO
      have HD : Hid _ := hDD
      have H0 : Hid _ := y0
      have H1 : Hid _ := y1
      have H2 : Hid _ := y2
      have H3 : Hid _ := y3
      have H4 : Hid _ := y4
      have HX : Hid _ := hX
      clear hO hDD y0 y1 y2 y3 y4 hX hW
      go_wp2
      exact bodyPost_ret (results_c rfl _ _ _ _ ⟨w.heap.size, 0, none⟩ rfl (load5s H0.out H1.out H2.out H3.out H4.out)) rfl (StOut.of HO.out HX.out HD.out)
    by_cases f1 : p = 1
    · subst f1
      clear p0 p1 f0
      go_wp2_with fail
      refine Calls.mono (pick_lit 11 3 _ B v l w8 _ hW.D.cur (by omega) (by omega) (by rfl) rfl) ?_
      rintro e w9 ⟨⟨nm, rfl, hnm⟩, hd9⟩
      replace hW := hW.drew hd9
      clear hd9 c0 c1 c2 c3 c4 cf hSl
      obtain ⟨c0, c1, c2, c3, c4, cf⟩ := cells5 hW.sb
      have hSl := hW.slt
      replace hX := hX.setS (s' := nm) hnm
      go_upto_region 17 with fail
      replace hW := hW.set1 nm
      generalize w9.setCell ⟨S, 1, none⟩ (.string nm) = wz at *
      clear c0 c1 c2 c3 c4 cf hSl
      obtain ⟨s, hs⟩ : ∃ s, s = nm := ⟨_, rfl⟩
      rw [← hs] at hW hX
      clear hs
      skip
      skip
      obtain ⟨c0, c1, c2, c3, c4, cf⟩ := cells5 hW.sb
      obtain ⟨r0, r1, r2, r3, r4, rf⟩ := cells5 hW.rb
      have hSl := hW.slt
      have hRl := hW.rlt
      have hSR := hW.sl
      obtain ⟨y0, y1, y2, y3, y4, hO, hDD⟩ := hW.fin
      have HO : Hid _ := hO
      have HD : Hid _ := hDD
      have H0 : Hid _ := y0
      have H1 : Hid _ := y1
      have H2 : Hid _ := y2
      have H3 : Hid _ := y3
      have H4 : Hid _ := y4
      have HX : Hid _ := hX
      clear hO hDD y0 y1 y2 y3 y4 hX hW
      go_wp2
      exact bodyPost_ret (results_c rfl _ _ _ _ ⟨w.heap.size, 0, none⟩ rfl (load5s H0.out H1.out H2.out H3.out H4.out)) rfl (StOut.of HO.out HX.out HD.out)
    have b0 : (p == 0) = false := by simp [f0]
    have b1 : (p == 1) = false := by simp [f1]
    clear p0 p1 f0 f1
    clear c0 c1 c2 c3 c4 cf hSl
    skip
    skip
    obtain ⟨c0, c1, c2, c3, c4, cf⟩ := cells5 hW.sb
    obtain ⟨r0, r1, r2, r3, r4, rf⟩ := cells5 hW.rb
    have hSl := hW.slt
    have hRl := hW.rlt
    have hSR := hW.sl
    obtain ⟨y0, y1, y2, y3, y4, hO, hDD⟩ := hW.fin
    have HO : Hid _ := hO
    have HD : Hid _ := hDD
    have H0 : Hid _ := y0
    have H1 : Hid _ := y1
    have H2 : Hid _ := y2
    have H3 : Hid _ := y3
    have H4 : Hid _ := y4
    have HX : Hid _ := hX
    clear hO hDD y0 y1 y2 y3 y4 hX hW
    go_wp2
    exact bodyPost_ret (results_c rfl _ _ _ _ ⟨w.heap.size, 0, none⟩ rfl (load5s H0.out H1.out H2.out H3.out H4.out)) rfl (StOut.of HO.out HX.out HD.out)
  obtain rfl : q = 3 := by omega
  clear q0 q1 e0 e1 e2
  go_wp2_with fail
  refine Calls.mono (l04Db_any B v l wS hW.D.cur) ?_
  rintro e w2 ⟨⟨ud, ds, us2, G2, rfl, hdl, hdr, hRd⟩, hd2⟩
  obtain ⟨Fd, hFd, hOd⟩ := hRd.relsF
  obtain ⟨a, c, b0, o, G0, e1, _, _, _, _, _, _, ha⟩ := hFd.pick
  obtain ⟨rfl, _, _⟩ := ha 0 (by omega)
  rw [hdl] at e1
  subst e1
  have hB0 := hW.D.lt
  have hz0 := hW.D.chg.size
  have hFB : B ∉ Fd := fun e => by have := hOd.2.1 B e; omega
  replace hW := hW.drew hd2
  clear hd2 c0 c1 c2 c3 c4 cf hSl hRd hOd ha
  obtain ⟨c0, c1, c2, c3, c4, cf⟩ := cells5 hW.sb
  have hSl := hW.slt
  go_wp2_with fail
  refine Calls.mono (l05Change_any B v l w2 hW.D.cur b0 o c ds Fd hFd hFB hdl hdr) ?_
  rintro e w3 ⟨⟨uu, ts, us3, G3, rfl, htl, htc, htr, hRt⟩, hd3⟩
  obtain ⟨Ft, hFt, hOt⟩ := hRt.relsF
  have hSl2 := hW.slt
  replace hW := hW.drew hd3
  clear hd3 c0 c1 c2 c3 c4 cf hSl hFd hFB hdr hdl
  obtain ⟨c0, c1, c2, c3, c4, cf⟩ := cells5 hW.sb
  have hSl := hW.slt
  obtain ⟨at', ct, rfl⟩ := hRt.shape
  go_upto_region 12 with fail
  replace hW := hW.set4 (.slice at' ts.length ct) ts Ft hFt ⟨hOt.1, fun b hb => by have := hOt.2.1 b hb; omega, hOt.2.2⟩ (fun b hb => by cases hb)
  generalize w3.setCell ⟨S, 4, none⟩ (.slice at' ts.length ct) = wz at *
  clear c0 c1 c2 c3 c4 cf hSl
  obtain ⟨c0, c1, c2, c3, c4, cf⟩ := cells5 hW.sb
  have hSl := hW.slt
  clear c0 c1 c2 c3 c4 cf hSl
  obtain ⟨k, s, cs, q, rs, uc, ur, g, F, hW, hX⟩ : ∃ k s cs q rs uc ur g F, StW w wz S B v l k s cs q rs uc ur g F ∧ StD ⟨k, s, cs, q, rs⟩ := ⟨_, _, _, _, _, _, _, _, _, hW, ⟨by dsimp only; omega, by dsimp only; omega, by show 0 ≤ 11; omega, by simp, (fun c hc => by cases hc), by show 0 ≤ 400; omega, htl, htr, htc⟩⟩
  obtain ⟨ac, cc, rfl, _, _⟩ := hW.own.1.shape
  obtain ⟨ar, cr, rfl⟩ : ∃ a c, ur = .slice a rs.length c := by obtain ⟨a, c, _, e, _⟩ := hW.own.2.1; exact ⟨a, c, e⟩
  obtain ⟨c0, c1, c2, c3, c4, cf⟩ := cells5 hW.sb
  have hSl := hW.slt
  go_wp2_with fail
  refine Calls.mono (l01Below_any 20 B v l _ hW.D.cur (by omega) (by omega)) ?_
  rintro e w8 ⟨⟨p, rfl, p0, p1⟩, hd8⟩
  replace hW := hW.drew hd8
  clear hd8 c0 c1 c2 c3 c4 cf hSl
  obtain ⟨c0, c1, c2, c3, c4, cf⟩ := cells5 hW.sb
  have hSl := hW.slt
  by_cases f0 : p = 0
  · subst f0
    clear p0 p1
    go_wp2_with fail
    refine Calls.mono (l01Below_any 6 B v l _ hW.D.cur (by omega) (by omega)) ?_
    rintro e w9 ⟨⟨t, rfl, t0, t1⟩, hd9⟩
    replace hW := hW.drew hd9
    clear hd9 c0 c1 c2 c3 c4 cf hSl
    obtain ⟨c0, c1, c2, c3, c4, cf⟩ := cells5 hW.sb
    have hSl := hW.slt
    have e1 : wrap64 (t - 1) = t - 1 := by unfold wrap64; omega
    have e2 : IntKind.i64.wrap (t - 1) = t - 1 := by rw [IntKind.wrap_i64]; omega
    replace hX := hX.setK (k' := t - 1) (by omega) (by omega)
    go_upto_region 17 with fail
    replace hW := hW.set0 (t - 1)
    generalize w9.setCell ⟨S, 0, none⟩ (.int .i64 (t - 1)) = wz at *
    clear c0 c1 c2 c3 c4 cf hSl e1 e2
    obtain ⟨k, hk⟩ : ∃ k, k = t - 1 := ⟨_, rfl⟩
    rw [← hk] at hW hX
    clear hk
    skip
    skip
    obtain ⟨c0, c1, c2, c3, c4, cf⟩ := cells5 hW.sb
    obtain ⟨r0, r1, r2, r3, r4, rf⟩ := cells5 hW.rb
    have hSl := hW.slt
    have hRl := hW.rlt
    have hSR := hW.sl
    obtain ⟨y0, y1, y2, y3, y4, hO, hDD⟩ := hW.fin
    have HO : Hid _ := hO
    have HD : Hid _ := hDD
    have H0 : Hid _ := y0
    have H1 : Hid _ := y1
    have H2 : Hid _ := y2
    have H3 : Hid _ := y3
    have H4 : Hid _ := y4
    have HX : Hid _ := hX
    clear hO hDD y0 y1 y2 y3 y4 hX hW
    go_wp2
    exact bodyPost_ret (results_c rfl _ _ _ _ ⟨w.heap.size, 0, none⟩ rfl (load5s H0.out H1.out H2.out H3.out H4.out)) rfl (StOut.of HO.out HX.out HD.out)
  by_cases f1 : p = 1
  · subst f1
    clear p0 p1 f0
    go_wp2_with fail
    refine Calls.mono (pick_lit 11 3 _ B v l w8 _ hW.D.cur (by omega) (by omega) (by rfl) rfl) ?_
    rintro e w9 ⟨⟨nm, rfl, hnm⟩, hd9⟩
    replace hW := hW.drew hd9
    clear hd9 c0 c1 c2 c3 c4 cf hSl
    obtain ⟨c0, c1, c2, c3, c4, cf⟩ := cells5 hW.sb
    have hSl := hW.slt
    replace hX := hX.setS (s' := nm) hnm
    go_upto_region 17 with fail
    replace hW := hW.set1 nm
    generalize w9.setCell ⟨S, 1, none⟩ (.string nm) = wz at *
    clear c0 c1 c2 c3 c4 cf hSl
    obtain ⟨s, hs⟩ : ∃ s, s = nm := ⟨_, rfl⟩
    rw [← hs] at hW hX
    clear hs
    skip
    skip
    obtain ⟨c0, c1, c2, c3, c4, cf⟩ := cells5 hW.sb
    obtain ⟨r0, r1, r2, r3, r4, rf⟩ := cells5 hW.rb
    have hSl := hW.slt
    have hRl := hW.rlt
    have hSR := hW.sl
    obtain ⟨y0, y1, y2, y3, y4, hO, hDD⟩ := hW.fin
    have HO : Hid _ := hO
    have HD : Hid _ := hDD
    have H0 : Hid _ := y0
    have H1 : Hid _ := y1
    have H2 : Hid _ := y2
    have H3 : Hid _ := y3
    have H4 : Hid _ := y4
    have HX : Hid _ := hX
    clear hO hDD y0 y1 y2 y3 y4 hX hW
    go_wp2
    exact bodyPost_ret (results_c rfl _ _ _ _ ⟨w.heap.size, 0, none⟩ rfl (load5s H0.out H1.out H2.out H3.out H4.out)) rfl (StOut.of HO.out HX.out HD.out)
  have b0 : (p == 0) = false := by simp [f0]
  have b1 : (p == 1) = false := by simp [f1]
  clear p0 p1 f0 f1
  clear c0 c1 c2 c3 c4 cf hSl
  skip
  skip
  obtain ⟨c0, c1, c2, c3, c4, cf⟩ := cells5 hW.sb
  obtain ⟨r0, r1, r2, r3, r4, rf⟩ := cells5 hW.rb
  have hSl := hW.slt
  have hRl := hW.rlt
  have hSR := hW.sl
  obtain ⟨y0, y1, y2, y3, y4, hO, hDD⟩ := hW.fin
  have HO : Hid _ := hO
  have HD : Hid _ := hDD
  have H0 : Hid _ := y0
  have H1 : Hid _ := y1
  have H2 : Hid _ := y2
  have H3 : Hid _ := y3
  have H4 : Hid _ := y4
  have HX : Hid _ := hX
  clear hO hDD y0 y1 y2 y3 y4 hX hW
  go_wp2
  exact bodyPost_ret (results_c rfl _ _ _ _ ⟨w.heap.size, 0, none⟩ rfl (load5s H0.out H1.out H2.out H3.out H4.out)) rfl (StOut.of HO.out HX.out HD.out)
end Go.Proofs.YtbmoimfimeiglaaGreat
namespace Go.Proofs.YtbmoimfimeiglaaGreat
open Go.RowKit Go.Deep Go.ChangeShapes Go.WideShapes
set_option linter.unusedVariables false
theorem chr_wf {r : R3} (h : ChR r) : r.wf := by
  refine ⟨by have := h.s; unfold maxLen; omega, wf_64 (by have := h.w0; omega) (by have := h.w1; omega), fun c hc => ⟨fun y hy => ?_, wf_64 (by have := h.num c hc; omega) (by have := h.num c hc; omega)⟩⟩
  obtain ⟨k0, k1, n0, n1, hs⟩ := (h.row c hc).2 y hy
  exact ⟨wf_64 (by omega) (by omega), wf_64 n0 n1, by unfold maxLen; omega⟩
theorem std_wf {x : T5} (h : StD x) : x.wf :=
  ⟨wf_64 (by have := h.k0; omega) (by have := h.k1; omega), by have := h.s; unfold maxLen; omega, fun y hy => by have := h.c y hy; unfold maxLen; omega, by have := h.q; unfold maxLen; omega, fun r hr => chr_wf (h.r r hr)⟩
theorem std_fine {x : T5} (h : StD x) (hok : okStep x = true) : ∀ r ∈ x.rs, RelFine r := by
  intro r hr
  have hb := okStep_bnd hok
  refine ⟨hb.r r hr, ?_, fun c hc => ⟨by have := (h.r r hr).num c hc; omega, fun y hy => ?_⟩⟩
  · unfold okStep at hok
    split at hok
    · simp only [Bool.and_eq_true] at hok
      have : x.rs = [] := by simpa using hok.2
      rw [this] at hr; cases hr
    split at hok
    · simp only [Bool.and_eq_true] at hok
      have : x.rs = [] := by simpa using hok.2
      rw [this] at hr; cases hr
    split at hok
    · simp only [Bool.and_eq_true] at hok
      have : x.rs = [] := by simpa using hok.2
      rw [this] at hr; cases hr
    split at hok
    · simp only [Bool.and_eq_true, okRels] at hok
      exact (okTs_each hok.2.2 r hr).2
    · cases hok
  · obtain ⟨_, _, n0, n1, _⟩ := ((h.r r hr).row c hc).2 y hy
    exact ⟨n0, n1⟩
theorem rlsL_ch : ∀ rs : List R3, (∀ r ∈ rs, ChR r) → (rlsL rs).length ≤ 9 * rs.length + chB rs
  | [], _ => by simp [rlsL, chB]
  | r :: rs, h => by
    have e : rlsL (r :: rs) = rlL r ++ rlsL rs := by unfold rlsL; rw [List.flatMap_cons]
    have e2 : chB (r :: rs) = (csN r.cs).length + chB rs := by unfold chB; simp
    have h1 := (h r (List.mem_cons_self ..)).s
    have h2 := rlsL_ch rs fun y hy => h y (List.mem_cons_of_mem _ hy)
    have h3 : (putB r.W r.cs).size ≤ (csN r.cs).length + 1 := by
      unfold putB
      split
      · rw [nums_size]; unfold bagN; simp
      · show 0 ≤ _; omega
    rw [e, e2, List.length_append, List.length_cons]
    unfold rlL
    rw [List.length_append, tN_len, tN_len]
    omega
theorem csL_ch : ∀ cs : List ByteArray, (∀ c ∈ cs, c.size ≤ 1) → (csL cs).length ≤ 3 * cs.length
  | [], _ => by simp [csL]
  | c :: cs, h => by
    have e : csL (c :: cs) = tN c 2 ++ csL cs := by unfold csL; rw [List.flatMap_cons]
    have h1 := h c (List.mem_cons_self ..)
    have h2 := csL_ch cs fun y hy => h y (List.mem_cons_of_mem _ hy)
    rw [e, List.length_append, tN_len, List.length_cons]
    omega
theorem std_size {x : T5} (h : StD x) : (putT x).size ≤ 13300 := by
  by_cases hok : okStep x = true
  · rw [putT_of hok, nums_size]
    have h1 := rlsL_ch x.rs h.r
    have h2 := csL_ch x.cs h.c
    have := h.s
    have := h.cl
    have := h.q
    have := h.rl
    have := h.cb
    unfold stepL mdL hdL
    simp only [List.length_append, szN_len, tN_len]
    omega
  · unfold putT
    rw [if_neg hok]
    show 0 ≤ _
    omega
theorem appA_size (log t : ByteArray) : (appA log t).size ≤ log.size + 8 + t.size := by
  unfold appA
  split
  · rw [ByteArray.size_append, ByteArray.size_append, ByteArray.size_append, nums_size, nums_size, szN_len, szN_len]; omega
  · omega
theorem results_tc {fn : Func} {a u : Tmp} {t : TypeId} (h : fn.results = #[.tmp u, .cell a t]) (tmps : Array Value) (P : Program) (w : World) (v : Value) (p : Addr) (hp : tmps.getD a undef = .pointer (some p)) (hl : (loadVar t p).run P w = .ok v w) : (results fn tmps).run P w = .ok (.tuple #[tmps.getD u undef, v]) w := by
  have hp2 : tmps[a]?.getD undef = .pointer (some p) := by rw [← hp]; simp
  simp [results, h, hp2, hl, asAddr]
def LogOut (B : Nat) (v : Value) (l : Nat) (w : World) (e : Ending) (w' : World) : Prop := (∃ s : ByteArray, e = .returned (.string s) ∧ s.size ≤ 53300) ∧ Drew B v l w w'
set_option maxHeartbeats 4000000 in
set_option maxRecDepth 100000 in
theorem l10Log_any (B : Nat) (v : Value) (l : Nat) (w : World) (h : Cur w B v l) :
    Calls Tryz.prog 23 #[.pointer (some ⟨B, 0, none⟩)] w fun e w' => LogOut B v l w e w' := by
  go_enter Tryz.func23, Tryz.ntmps23
  go_wp2_with fail
  refine Calls.mono (l01Below_any 5 B v l w h (by omega) (by omega)) ?_
  rintro e w1 ⟨⟨m, rfl, m0, m1⟩, hd1⟩
  obtain ⟨n, rfl⟩ : ∃ n : Nat, m = n := ⟨m.toNat, by omega⟩
  have hn : n ≤ 4 := by omega
  clear m0 m1 h
  go_wp2_with fail
  go_loopw [3, 5] (fun o i wr => ∃ (k : Nat) (s : ByteArray), k ≤ n ∧ o = .string s ∧ i = .int .i64 k ∧ s.size ≤ 13308 * k ∧ Drew B v l w wr) (fun _ i _ => n - (intOf i).toNat)
  case atStart => exact ⟨0, ⟨#[]⟩, Nat.zero_le _, rfl, rfl, by decide, hd1⟩
  case round =>
    clear hd1
    obtain ⟨k, s, hk, rfl, rfl, hs, hD⟩ := hrel
    by_cases hlt : k < n
    · have hkI : (k : Int) < n := by omega
      go_wp2_with fail
      refine Calls.mono (l10Step_any B v l wr hD.cur) ?_
      rintro e w2 ⟨⟨x, uc, ur, g, F, rfl, hO, hX⟩, hd2⟩
      have hD2 := hD.trans hd2
      obtain ⟨⟨ac, cc, rfl, _, _⟩, ar, cr, rfl, _, _⟩ := hO.is.shape
      go_wp2_with fail
      refine Calls.mono (specAppend_any s x _ _ w2 (by omega) (std_wf hX) hO.is) ?_
      rintro e w3 ⟨rfl, hb3⟩
      have hD3 := hD2.below hb3
      have hz := appA_size s (putT x)
      have hz2 := std_size hX
      generalize appA s (putT x) = s3 at *
      clear hO hX hd2 hb3 hD2 hD
      go_wp2
      exact ⟨⟨k + 1, s3, hlt, rfl, by simp, by omega, hD3⟩, by simp [intOf]; omega⟩
    · obtain rfl : k = n := by omega
      go_wp2_with fail
      refine Calls.mono (l10Spoil_any s B v l wr hD.cur (by omega)) ?_
      rintro e w2 ⟨⟨x, rfl, hx⟩, hd2⟩
      go_wp2
      go_returns
      exact ⟨⟨_, rfl, by omega⟩, hD.trans hd2⟩
def DapOut (w : World) (e : Ending) (w' : World) : Prop := (∃ (log : ByteArray) (x : T5) (uc ur : Value) (g F : List Nat), e = .returned (.tuple #[.string log, .agg #[.int .i64 x.k, .string x.s, uc, .string x.q, ur]]) ∧ log.size ≤ 53300 ∧ StpOwn w' w.heap.size uc ur x g F ∧ StD x) ∧ Below w.heap.size w w'
theorem StW.fin2 {w wr : World} {B : Nat} {v : Value} {l : Nat} {k : Int} {s : ByteArray} {cs : List ByteArray} {q : ByteArray} {rs : List R3} {uc ur : Value} {g F : List Nat} (rb : wr.heap[w.heap.size]? = some (.cells #[.int .i64 0, .string ⟨#[]⟩, .slice none 0 0, .string ⟨#[]⟩, .slice none 0 0] 27 (0, 0))) (ho : StpOwn wr (w.heap.size + 1) uc ur ⟨k, s, cs, q, rs⟩ g F) (hb : Below w.heap.size w wr) :
    (((((wr.setCell ⟨w.heap.size, 0, none⟩ (.int .i64 k)).setCell ⟨w.heap.size, 1, none⟩ (.string s)).setCell ⟨w.heap.size, 2, none⟩ uc).setCell ⟨w.heap.size, 3, none⟩ (.string q)).setCell ⟨w.heap.size, 4, none⟩ ur).cell? ⟨w.heap.size, 0, none⟩ = some (.int .i64 k) ∧
    (((((wr.setCell ⟨w.heap.size, 0, none⟩ (.int .i64 k)).setCell ⟨w.heap.size, 1, none⟩ (.string s)).setCell ⟨w.heap.size, 2, none⟩ uc).setCell ⟨w.heap.size, 3, none⟩ (.string q)).setCell ⟨w.heap.size, 4, none⟩ ur).cell? ⟨w.heap.size, 1, none⟩ = some (.string s) ∧
    (((((wr.setCell ⟨w.heap.size, 0, none⟩ (.int .i64 k)).setCell ⟨w.heap.size, 1, none⟩ (.string s)).setCell ⟨w.heap.size, 2, none⟩ uc).setCell ⟨w.heap.size, 3, none⟩ (.string q)).setCell ⟨w.heap.size, 4, none⟩ ur).cell? ⟨w.heap.size, 2, none⟩ = some uc ∧
    (((((wr.setCell ⟨w.heap.size, 0, none⟩ (.int .i64 k)).setCell ⟨w.heap.size, 1, none⟩ (.string s)).setCell ⟨w.heap.size, 2, none⟩ uc).setCell ⟨w.heap.size, 3, none⟩ (.string q)).setCell ⟨w.heap.size, 4, none⟩ ur).cell? ⟨w.heap.size, 3, none⟩ = some (.string q) ∧
    (((((wr.setCell ⟨w.heap.size, 0, none⟩ (.int .i64 k)).setCell ⟨w.heap.size, 1, none⟩ (.string s)).setCell ⟨w.heap.size, 2, none⟩ uc).setCell ⟨w.heap.size, 3, none⟩ (.string q)).setCell ⟨w.heap.size, 4, none⟩ ur).cell? ⟨w.heap.size, 4, none⟩ = some ur ∧
    StpOwn (((((wr.setCell ⟨w.heap.size, 0, none⟩ (.int .i64 k)).setCell ⟨w.heap.size, 1, none⟩ (.string s)).setCell ⟨w.heap.size, 2, none⟩ uc).setCell ⟨w.heap.size, 3, none⟩ (.string q)).setCell ⟨w.heap.size, 4, none⟩ ur) w.heap.size uc ur ⟨k, s, cs, q, rs⟩ g F ∧
    Below w.heap.size w (((((wr.setCell ⟨w.heap.size, 0, none⟩ (.int .i64 k)).setCell ⟨w.heap.size, 1, none⟩ (.string s)).setCell ⟨w.heap.size, 2, none⟩ uc).setCell ⟨w.heap.size, 3, none⟩ (.string q)).setCell ⟨w.heap.size, 4, none⟩ ur) := by
  have hc : (((((wr.setCell ⟨w.heap.size, 0, none⟩ (.int .i64 k)).setCell ⟨w.heap.size, 1, none⟩ (.string s)).setCell ⟨w.heap.size, 2, none⟩ uc).setCell ⟨w.heap.size, 3, none⟩ (.string q)).setCell ⟨w.heap.size, 4, none⟩ ur).heap[w.heap.size]? = some (.cells #[.int .i64 k, .string s, uc, .string q, ur] 27 (0, 0)) := setB (i := 4) (setB (i := 3) (setB (i := 2) (setB (i := 1) (setB (i := 0) rb))))
  obtain ⟨c0, c1, c2, c3, c4, _⟩ := cells5 hc
  refine ⟨c0, c1, c2, c3, c4, (ho.keep (by simp) fun b h1 _ => ?_).weak (by omega), ((((hb.setCell (p := ⟨w.heap.size, 0, none⟩) (Nat.le_refl _) _).setCell (p := ⟨w.heap.size, 1, none⟩) (Nat.le_refl _) _).setCell (p := ⟨w.heap.size, 2, none⟩) (Nat.le_refl _) _).setCell (p := ⟨w.heap.size, 3, none⟩) (Nat.le_refl _) _).setCell (p := ⟨w.heap.size, 4, none⟩) (Nat.le_refl _) _⟩
  iterate 5 rw [Below.heap_setCell _ _ _ _ (by simp; omega)]
set_option maxHeartbeats 4000000 in
set_option maxRecDepth 100000 in
theorem drawAppend_any (v : Value) (l : Nat) (w : World) (h : BytesB w w.heap.size v l) :
    Calls Tryz.prog 5 #[v] w fun e w' => DapOut w e w' := by
  have hb0 := (Below.refl w.heap.size w).alloc (Nat.le_refl _) (.cells #[.int .i64 0, .string ⟨#[]⟩, .slice none 0 0, .string ⟨#[]⟩, .slice none 0 0] 27)
  have hR0 := heap_alloc_new w (.cells #[.int .i64 0, .string ⟨#[]⟩, .slice none 0 0, .string ⟨#[]⟩, .slice none 0 0] 27)
  go_enter Tryz.func5, Tryz.ntmps5
  go_wp2_with fail
  refine (l01New_at (w.heap.size + 1) v l _ (by simp) (h.up hb0 (by omega))).mono ?_
  rintro e w1 ⟨rfl, hc1, hb1⟩
  have hR1 := (hb1.block w.heap.size (by simp)).trans hR0
  have hB0 := fun w2 => Drew.new (w2 := w2) (v := v) (l := l) hb0 hb1 (by simp) hc1.lt
  have hz1 := hb1.size
  simp only [World.size_alloc] at hz1
  clear hb1 hb0 h hR0
  go_wp2_with fail
  refine Calls.mono (l10Log_any _ v l w1 hc1) ?_
  rintro e w2 ⟨⟨log, rfl, hlog⟩, hd2⟩
  go_wp2_with fail
  refine Calls.mono (l10Step_any _ v l w2 hd2.cur) ?_
  rintro e w3 ⟨⟨x, uc, ur, g, F, rfl, hO, hX⟩, hd3⟩
  have hz2 := hd2.chg.size
  have hR3 := (hd2.trans hd3).cellsB hR1 (by omega)
  have hBel := hB0 w3 (hd2.trans hd3)
  obtain ⟨⟨ac, cc, rfl, _, _⟩, ar, cr, rfl, _, _⟩ := hO.is.shape
  obtain ⟨y0, y1, y2, y3, y4, hO2, hB2⟩ := StW.fin2 (B := 0) (v := v) (l := l) hR3 (hO.weak (by omega)) hBel
  obtain ⟨r0, r1, r2, r3, r4, rf⟩ := cells5 hR3
  have hRl : w.heap.size < w3.heap.size := heap_ltA hR3
  have HO : Hid _ := hO2
  have HB : Hid _ := hB2
  have HX : Hid _ := hX
  have H0 : Hid _ := y0
  have H1 : Hid _ := y1
  have H2 : Hid _ := y2
  have H3 : Hid _ := y3
  have H4 : Hid _ := y4
  clear hO2 hB2 hX y0 y1 y2 y3 y4 hO hBel hB0 hd2 hd3 hR1 hR3 hc1
  go_wp2
  exact bodyPost_ret (results_tc rfl _ _ _ _ ⟨w.heap.size, 0, none⟩ rfl (load5s H0.out H1.out H2.out H3.out H4.out)) rfl ⟨⟨log, x, _, _, g, F, rfl, hlog, HO.out, HX.out⟩, HB.out⟩
set_option maxHeartbeats 4000000 in
set_option maxRecDepth 100000 in
theorem drawGetStep_any (v : Value) (l : Nat) (w : World) (h : BytesB w w.heap.size v l) :
    Calls Tryz.prog 9 #[v] w fun e w' => (∃ s : ByteArray, e = .returned (.string s) ∧ s.size ≤ 1048576) ∧ Below w.heap.size w w' := by
  go_enter Tryz.func9, Tryz.ntmps9
  go_wp2_with fail
  refine (l01New_at w.heap.size v l _ rfl h).mono ?_
  rintro e w1 ⟨rfl, hc1, hb1⟩
  have hB0 := fun w2 => Drew.new (w2 := w2) (v := v) (l := l) (Below.refl w.heap.size w) hb1 rfl hc1.lt
  clear hb1 h
  go_wp2_with fail
  refine Calls.mono (l10Step_any _ v l w1 hc1) ?_
  rintro e w2 ⟨⟨x, uc, ur, g, F, rfl, hO, hX⟩, hd2⟩
  obtain ⟨⟨ac, cc, rfl, _, _⟩, ar, cr, rfl, _, _⟩ := hO.is.shape
  go_wp2_with fail
  refine Calls.mono (specPutStep_any x _ _ w2 (std_wf hX) hO.is) ?_
  rintro e w3 ⟨rfl, hb3⟩
  have hz := std_size hX
  have hD3 := hd2.below hb3
  generalize putT x = s at *
  clear hO hX hd2 hb3
  go_wp2_with fail
  refine Calls.mono (l10Spoil_any s _ v l w3 hD3.cur (by omega)) ?_
  rintro e w4 ⟨⟨t, rfl, ht⟩, hd4⟩
  have hB := hB0 w4 (hD3.trans hd4)
  clear hB0
  go_wp2
  go_returns
  exact ⟨⟨_, rfl, by omega⟩, hB⟩
end Go.Proofs.YtbmoimfimeiglaaGreat
namespace Go.Proofs.YtbmoimfimeiglaaGreat
open Go.RowKit Go.Deep Go.ChangeShapes Go.WideShapes
set_option linter.unusedVariables false
theorem put_again {s : ByteArray} (h : gO s = true) : putT (gT s) = s := by
  have h0 : sO s s.size (0, false) = true := h
  have h1 : (sE s s.size (0, false)).2.2 = false := by
    unfold sO sT at h0
    simp only [Bool.and_eq_true, Bool.not_eq_true', Bool.or_eq_false_iff] at h0
    exact h0.1.1
  have h2 := ((step_same s h1).2 h).2
  unfold gT
  rw [if_pos h0]
  exact h2
theorem gT_wf (s : ByteArray) (hs : s.size ≤ 1048576) : (gT s).wf := by
  unfold gT
  split
  · exact sX_wf (s := s) (e := s.size) (q := (0, false)) (Nat.le_refl _) hs (Nat.zero_le _)
  · exact ⟨wf_64 (by decide) (by decide), by unfold maxLen; decide, fun y hy => (by cases hy), by unfold maxLen; decide, fun y hy => (by cases hy)⟩
theorem Reads.len {s : ByteArray} : ∀ {ts : List T5} {a b : Nat}, Reads s a ts b → a + ts.length ≤ b
  | [], a, b, h => by have : a = b := h; simp; omega
  | t :: ts, a, b, h => by
    have h1 := (okM_at h.1).1
    have h2 := Reads.len h.2.2
    simp only [List.length_cons]
    omega
theorem rlT_len (s : ByteArray) : (rlT s).length ≤ rlE s := by
  have := (rl_reads s).1.len
  omega
structure VT (w : World) (b : Nat) (x : T5) (uc ur : Value) : Prop where
  lt : b < w.heap.size
  c0 : w.cell? ⟨b, 0, none⟩ = some (.int .i64 x.k)
  c1 : w.cell? ⟨b, 1, none⟩ = some (.string x.s)
  c2 : w.cell? ⟨b, 2, none⟩ = some uc
  c3 : w.cell? ⟨b, 3, none⟩ = some (.string x.q)
  c4 : w.cell? ⟨b, 4, none⟩ = some ur
  is : StpIs w uc ur x
theorem VT.below {w w' : World} {b : Nat} {x : T5} {uc ur : Value} (h : VT w b x uc ur) (hb : Below w.heap.size w w') : VT w' b x uc ur :=
  have e := hb.block b h.lt
  ⟨Nat.lt_of_lt_of_le h.lt hb.size, (cell_blk e).trans h.c0, (cell_blk e).trans h.c1, (cell_blk e).trans h.c2, (cell_blk e).trans h.c3, (cell_blk e).trans h.c4, h.is.below hb⟩
theorem VT.alloc {w : World} {b : Nat} {x : T5} {uc ur : Value} (h : VT w b x uc ur) (o : Obj) : VT (w.alloc o) b x uc ur := h.below ((Below.refl _ _).alloc (Nat.le_refl _) _)
theorem VT.new (w : World) (x : T5) (uc ur : Value) (h : StpIs w uc ur x) : VT (w.alloc (.cells #[.int .i64 x.k, .string x.s, uc, .string x.q, ur] 27)) w.heap.size x uc ur :=
  ⟨by simp, by simp, by simp, by simp, by simp, by simp, h.below ((Below.refl _ _).alloc (Nat.le_refl _) _)⟩
structure SL (w : World) (v : Value) (ts : List T5) : Prop where
  is : StsIs w v ts
theorem SL.below {w w' : World} {v : Value} {ts : List T5} (h : SL w v ts) (hb : Below w.heap.size w w') : SL w' v ts := ⟨h.is.below hb⟩
theorem SL.alloc {w : World} {v : Value} {ts : List T5} (h : SL w v ts) (o : Obj) : SL (w.alloc o) v ts := h.below ((Below.refl _ _).alloc (Nat.le_refl _) _)
structure ByC (w : World) (b : Nat) (s : ByteArray) : Prop where
  lt : b < w.heap.size
  c : ∀ j, j < s.size → w.cell? ⟨b, j, none⟩ = some (.int .u8 (bAt s j : Int))
  f : ∀ j, j < s.size → w.frozen? ⟨b, j, none⟩ = false
theorem ByC.below {w w' : World} {b : Nat} {s : ByteArray} (h : ByC w b s) (hb : Below w.heap.size w w') : ByC w' b s :=
  have e := hb.block b h.lt
  ⟨Nat.lt_of_lt_of_le h.lt hb.size, fun j hj => (cell_blk e).trans (h.c j hj), fun j hj => (frozen_blk e).trans (h.f j hj)⟩
theorem ByC.new {w : World} {s : ByteArray} {b cap : Nat} (hw : w.heap[b]? = some (.cells (bytesRow s cap) 5 ((bytesRow s cap).size, (bytesRow s cap).size + 1))) : ByC w b s := by
  have hz : s.size ≤ (bytesRow s cap).size := by
    unfold bytesRow
    have : s.data.size = s.size := rfl
    simp only [Array.size_append, Array.size_map, Array.size_replicate]
    omega
  refine ⟨heap_ltA hw, fun j hj => ?_, fun j hj => ?_⟩
  · have e := bytesRow_at s cap j hj
    have e2 : (s.data[j].toNat : Int) = (bAt s j : Int) := by
      have := bAt_eq s j hj
      rw [← this]
      rfl
    simp only [World.cell?, hw]
    simp only [Option.isSome_none, Bool.false_eq_true, if_false]
    rw [e, e2]
  · simp only [World.frozen?, hw]
    simp
    omega
theorem conv_new (w : World) (s : ByteArray) : ∃ cap wb, (convert 9 22 (.string s)).run Tryz.prog w = .ok (.slice (some ⟨w.heap.size, 0, none⟩) s.size cap) wb ∧ ByC wb w.heap.size s ∧ Below w.heap.size w wb := by
  refine ⟨_, _, run_bytes_of_string (P := Tryz.prog) w 9 22 5 s Tryz.underlying9 Tryz.underlying22 Tryz.underlying5, ByC.new (cap := grownCap w s.size 0 5) ?_, ?_⟩
  · exact heap_alloc_new w.drew _
  · exact ((Below.refl w.heap.size w).drew).alloc (Nat.le_refl _) _
def setB1 (s : ByteArray) (i : Nat) (z : Int) : ByteArray := ⟨(s.data.toList.set i (UInt8.ofNat z.toNat)).toArray⟩
theorem setB1_size (s : ByteArray) (i : Nat) (z : Int) : (setB1 s i z).size = s.size := by
  unfold setB1
  show (s.data.toList.set i (UInt8.ofNat z.toNat)).toArray.size = s.data.size
  simp
theorem setB1_at (s : ByteArray) (i : Nat) (z : Int) (hi : i < s.size) (h0 : 0 ≤ z) (h1 : z < 256) (j : Nat) : (bAt (setB1 s i z) j : Int) = if j = i then z else (bAt s j : Int) := by
  have hl : s.data.toList.length = s.size := rfl
  unfold bAt setB1
  rw [List.getD_eq_getElem?_getD, List.getD_eq_getElem?_getD]
  by_cases e : j = i
  · subst e
    rw [if_pos rfl, List.getElem?_set_self (by omega)]
    show ((UInt8.ofNat z.toNat).toNat : Int) = z
    rw [UInt8.toNat_ofNat']
    omega
  · rw [if_neg e, List.getElem?_set_ne (fun h => e h.symm)]
theorem ByC.set {w : World} {b : Nat} {s : ByteArray} (h : ByC w b s) {i : Nat} {z : Int} (hi : i < s.size) (h0 : 0 ≤ z) (h1 : z < 256) : ByC (w.setCell ⟨b, i, none⟩ (.int .u8 z)) b (setB1 s i z) := by
  refine ⟨by simpa using h.lt, fun j hj => ?_, fun j hj => ?_⟩
  · rw [setB1_size] at hj
    rw [setB1_at s i z hi h0 h1]
    by_cases e : j = i
    · subst e
      rw [if_pos rfl]
      exact World.cell?_setCell_same _ _ _ (h.c j hj)
    · rw [if_neg e]
      exact (World.cell?_setCell_other _ _ _ _ (by simp <;> omega)).trans (h.c j hj)
  · rw [setB1_size] at hj
    rw [World.frozen?_setCell]
    exact h.f j hj
theorem ByC.conv {w : World} {b : Nat} {s : ByteArray} (h : ByC w b s) (cap : Nat) : (convert 22 9 (.slice (some ⟨b, 0, none⟩) s.size cap)).run Tryz.prog w = .ok (.string s) w := by
  have e := run_convert_bytes_arg (P := Tryz.prog) w 22 5 Tryz.underlying22 Tryz.underlying5 b 0 s.size cap (txN s) (txN_len s) (fun i hi => ?_) 9 Tryz.underlying9
  · rw [nums_txN] at e
    exact e
  · rw [Nat.zero_add, h.c i hi]
    congr 2
    unfold txN nb bAt
    rw [List.getD_eq_getElem?_getD, List.getD_eq_getElem?_getD, List.getElem?_map]
    have hl : s.data.toList.length = s.size := rfl
    rw [List.getElem?_eq_getElem (by omega)]
    rfl
theorem xor_byte {a m : Nat} (ha : a < 256) (hm : m < 256) (h0 : m ≠ 0) : 0 ≤ bits .xor .u8 (a : Int) (m : Int) ∧ bits .xor .u8 (a : Int) (m : Int) < 256 ∧ bits .xor .u8 (a : Int) (m : Int) ≠ (a : Int) := by
  rw [u8_xor_nat a m ha hm]
  have h := Nat.xor_lt_two_pow (n := 8) ha hm
  refine ⟨by omega, by omega, fun e => h0 ?_⟩
  have e2 : a ^^^ m = a ^^^ 0 := by rw [Nat.xor_zero]; omega
  exact xor_l e2
end Go.Proofs.YtbmoimfimeiglaaGreat
