/- Own text. A step that is drawn: its contract. -/
import Derived.Test.YtbmoimfimeiglaaGreatGLFnLog42
import Derived.Handy
namespace Go.Proofs.YtbmoimfimeiglaaGreat
open Go.RowKit Go.Deep Go.ChangeShapes Go.WideShapes
set_option linter.unusedVariables false
set_option maxHeartbeats 8000000 in
set_option maxRecDepth 100000 in
theorem l10Step_any (B : Nat) (v : Value) (l : Nat) (w : World) (h : Cur w B v l) :
    Calls Tryz.prog 24 #[.pointer (some ⟨B, 0, none⟩)] w fun e w' => StOut B v l w e w' := by
  have hBl := h.lt
  have hR0 := heap_alloc_new w (.cells #[.int .i64 0, .string ⟨#[]⟩, .slice none 0 0, .string ⟨#[]⟩, .slice none 0 0] 27)
  have hD0 := h.start.alloc (.cells #[.int .i64 0, .string ⟨#[]⟩, .slice none 0 0, .string ⟨#[]⟩, .slice none 0 0] 27)
  have hz0 : w.heap.size < (w.alloc (.cells #[.int .i64 0, .string ⟨#[]⟩, .slice none 0 0, .string ⟨#[]⟩, .slice none 0 0] 27)).heap.size := by simp
  clear h
  go_enter Tryz.func24, Tryz.ntmps24
  go_wp2_with fail
  generalize w.alloc (.cells #[.int .i64 0, .string ⟨#[]⟩, .slice none 0 0, .string ⟨#[]⟩, .slice none 0 0] 27) = wa at *
  refine Calls.mono (l01Below_any 4 B v l wa hD0.cur (by omega) (by omega)) ?_
  rintro e w1 ⟨⟨q, rfl, q0, q1⟩, hd1⟩
  have hz1 := hd1.chg.size
  have hW : StW w (w1.alloc (.cells #[.int .i64 q, .string ⟨#[]⟩, .slice none 0 0, .string ⟨#[]⟩, .slice none 0 0] 27)) w1.heap.size B v l q ⟨#[]⟩ [] ⟨#[]⟩ [] (.slice none 0 0) (.slice none 0 0) [] [] := by
    have bal : Below w1.heap.size w1 (w1.alloc (.cells #[.int .i64 q, .string ⟨#[]⟩, .slice none 0 0, .string ⟨#[]⟩, .slice none 0 0] 27)) := (Below.refl _ _).alloc (Nat.le_refl _) _
    exact ⟨heap_alloc_new w1 _, (bal.block _ (by omega)).trans (hd1.cellsB hR0 (by omega)), by omega, StpOwn.nil' _ _ _, ((hD0.trans hd1).below bal)⟩
  clear hR0 hD0 hd1
  go_upto_region 2 with fail
  generalize w1.alloc (.cells #[.int .i64 q, .string ⟨#[]⟩, .slice none 0 0, .string ⟨#[]⟩, .slice none 0 0] 27) = wS at *
  generalize w1.heap.size = S at *
  obtain ⟨c0, c1, c2, c3, c4, cf⟩ := cells5 hW.sb
  have hSl := hW.slt
  by_cases e0 : q = 0
  · subst e0
    clear q0 q1
    go_wp2_with fail
    refine Calls.mono (pick_lit 1 4 _ B v l wS _ hW.D.cur (by omega) (by omega) (by rfl) rfl) ?_
    rintro e w2 ⟨⟨nm, rfl, hnm⟩, hd2⟩
    replace hW := hW.drew hd2
    clear hd2 c0 c1 c2 c3 c4 cf hSl
    obtain ⟨c0, c1, c2, c3, c4, cf⟩ := cells5 hW.sb
    have hSl := hW.slt
    go_upto_region 6 with fail
    replace hW := hW.set1 nm
    generalize w2.setCell ⟨S, 1, none⟩ (.string nm) = wz at *
    clear c0 c1 c2 c3 c4 cf hSl
    obtain ⟨c0, c1, c2, c3, c4, cf⟩ := cells5 hW.sb
    have hSl := hW.slt
    obtain ⟨w3, hw3⟩ : ∃ x, x = wz := ⟨_, rfl⟩
    subst hw3
    have hS3 := hSl
    have hLit := lit_cols w3
    have bel : Below w3.heap.size w3 ((((w3.alloc (.cells #[.string ⟨#[120]⟩] 9)).alloc (.cells #[.string ⟨#[121]⟩, .string ⟨#[122]⟩] 9)).alloc (.cells #[.string ⟨#[120]⟩, .string ⟨#[121]⟩, .string ⟨#[122]⟩] 9)).alloc (.cells #[.slice (some ⟨w3.heap.size, 0, none⟩) 1 1, .slice (some ⟨w3.heap.size + 1, 0, none⟩) 2 2, .slice (some ⟨w3.heap.size + 2, 0, none⟩) 3 3] 24)) := ((((Below.refl _ _).alloc (Nat.le_refl _) _).alloc (by simp) _).alloc (by simp; omega) _).alloc (by simp; omega) _
    clear c0 c1 c2 c3 c4 cf
    go_wp2_with fail
    refine Calls.mono (l01Below_any 3 B v l _ (hW.below bel).D.cur (by omega) (by omega)) ?_
    rintro e w5 ⟨⟨i, rfl, i0, i1⟩, hd5⟩
    obtain ⟨iN, rfl⟩ : ∃ iN : Nat, i = iN := ⟨i.toNat, by omega⟩
    obtain ⟨gb, cs, hg3, hcl, hcs, hcell, hgl, hstr, hown⟩ := hLit iN (by omega)
    have hgB : gb ≠ B := by have := hW.D.lt; have := hW.D.chg.size; omega
    have hPl : w3.heap.size + 3 < ((((w3.alloc (.cells #[.string ⟨#[120]⟩] 9)).alloc (.cells #[.string ⟨#[121]⟩, .string ⟨#[122]⟩] 9)).alloc (.cells #[.string ⟨#[120]⟩, .string ⟨#[121]⟩, .string ⟨#[122]⟩] 9)).alloc (.cells #[.slice (some ⟨w3.heap.size, 0, none⟩) 1 1, .slice (some ⟨w3.heap.size + 1, 0, none⟩) 2 2, .slice (some ⟨w3.heap.size + 2, 0, none⟩) 3 3] 24)).heap.size := by simp
    have hPB : w3.heap.size + 3 ≠ B := by have := hW.D.lt; have := hW.D.chg.size; omega
    have hcell5 := (cell_blk (o := iN) (hd5.old hPl hPB)).trans hcell
    have hst5 := hstr.keep hd5.chg.size fun b hb => by rcases List.mem_singleton.1 hb with rfl; exact hd5.old hgl hgB
    have hown5 := hown.keep fun b hb => by rcases List.mem_singleton.1 hb with rfl; exact hd5.old hgl hgB
    replace hW := (hW.below bel).drew hd5
    have hPl5 : w3.heap.size + 3 < w5.heap.size := Nat.lt_of_lt_of_le hPl hd5.chg.size
    clear hd5 bel hLit hcell hstr hown hSl
    obtain ⟨c0, c1, c2, c3, c4, cf⟩ := cells5 hW.sb
    have hSl := hW.slt
    have hiN : (iN : Int) < 3 := by omega
    go_upto_region 12 with fail
    replace hW := hW.set2 (.slice (some ⟨gb, 0, none⟩) cs.length cs.length) cs [gb] hst5 ⟨hown5.1, fun b hb => by have := hown5.2.1 b hb; omega, hown5.2.2⟩ (fun b _ hb => by cases hb)
    generalize w5.setCell ⟨S, 2, none⟩ (.slice (some ⟨gb, 0, none⟩) cs.length cs.length) = wz at *
    clear c0 c1 c2 c3 c4 cf hSl
    obtain ⟨c0, c1, c2, c3, c4, cf⟩ := cells5 hW.sb
    have hSl := hW.slt
    clear c0 c1 c2 c3 c4 cf hSl hcell5 hst5 hown5
    obtain ⟨k, s, cs, q, rs, uc, ur, g, F, hW, hX⟩ : ∃ k s cs q rs uc ur g F, StW w wz S B v l k s cs q rs uc ur g F ∧ StD ⟨k, s, cs, q, rs⟩ := ⟨_, _, _, _, _, _, _, _, _, hW, ⟨by dsimp only; omega, by dsimp only; omega, by dsimp only; omega, hcl, hcs, by show 0 ≤ 400; omega, by simp, (fun r hr => by cases hr), by simp [chB]⟩⟩
    obtain ⟨ac, cc, rfl, _, _⟩ := hW.own.1.shape
    obtain ⟨ar, cr, rfl⟩ : ∃ a c, ur = .slice a rs.length c := by obtain ⟨a, c, _, e, _⟩ := hW.own.2.1; exact ⟨a, c, e⟩
    obtain ⟨c0, c1, c2, c3, c4, cf⟩ := cells5 hW.sb
    have hSl := hW.slt
    go_wp2_with fail
    refine Calls.mono (l01Below_any 20 B v l _ hW.D.cur (by omega) (by omega)) ?_
    rintro e w8 ⟨⟨p, rfl, p0, p1⟩, hd8⟩
    replace hW := hW.drew hd8
    clear hd8 c0 c1 c2 c3 c4 cf hSl
    obtain ⟨c0, c1, c2, c3, c4, cf⟩ := cells5 hW.sb
    have hSl := hW.slt
    by_cases f0 : p = 0
    · subst f0
      clear p0 p1
      go_wp2_with fail
      refine Calls.mono (l01Below_any 6 B v l _ hW.D.cur (by omega) (by omega)) ?_
      rintro e w9 ⟨⟨t, rfl, t0, t1⟩, hd9⟩
      replace hW := hW.drew hd9
      clear hd9 c0 c1 c2 c3 c4 cf hSl
      obtain ⟨c0, c1, c2, c3, c4, cf⟩ := cells5 hW.sb
      have hSl := hW.slt
      have e1 : wrap64 (t - 1) = t - 1 := by unfold wrap64; omega
      have e2 : IntKind.i64.wrap (t - 1) = t - 1 := by rw [IntKind.wrap_i64]; omega
      replace hX := hX.setK (k' := t - 1) (by omega) (by omega)
      go_upto_region 17 with fail
      replace hW := hW.set0 (t - 1)
      generalize w9.setCell ⟨S, 0, none⟩ (.int .i64 (t - 1)) = wz at *
      clear c0 c1 c2 c3 c4 cf hSl e1 e2
      obtain ⟨k, hk⟩ : ∃ k, k = t - 1 := ⟨_, rfl⟩
      rw [← hk] at hW hX
      clear hk
      skip
      skip
      obtain ⟨c0, c1, c2, c3, c4, cf⟩ := cells5 hW.sb
      obtain ⟨r0, r1, r2, r3, r4, rf⟩ := cells5 hW.rb
      have hSl := hW.slt
      have hRl := hW.rlt
      have hSR := hW.sl
      obtain ⟨y0, y1, y2, y3, y4, hO, hDD⟩ := hW.fin
      have HO : Hid _ := hO
      have HD : Hid _ := hDD
      have H0 : Hid _ := y0
      have H1 : Hid _ := y1
      have H2 : Hid _ := y2
      have H3 : Hid _ := y3
      have H4 : Hid _ := y4
      have HX : Hid _ := hX
      clear hO hDD y0 y1 y2 y3 y4 hX hW
      go_wp2
      exact bodyPost_ret (results_c rfl _ _ _ _ ⟨w.heap.size, 0, none⟩ rfl (load5s H0.out H1.out H2.out H3.out H4.out)) rfl (StOut.of HO.out HX.out HD.out)
    by_cases f1 : p = 1
    · subst f1
      clear p0 p1 f0
      go_wp2_with fail
      refine Calls.mono (pick_lit 11 3 _ B v l w8 _ hW.D.cur (by omega) (by omega) (by rfl) rfl) ?_
      rintro e w9 ⟨⟨nm, rfl, hnm⟩, hd9⟩
      replace hW := hW.drew hd9
      clear hd9 c0 c1 c2 c3 c4 cf hSl
      obtain ⟨c0, c1, c2, c3, c4, cf⟩ := cells5 hW.sb
      have hSl := hW.slt
      replace hX := hX.setS (s' := nm) hnm
      go_upto_region 17 with fail
      replace hW := hW.set1 nm
      generalize w9.setCell ⟨S, 1, none⟩ (.string nm) = wz at *
      clear c0 c1 c2 c3 c4 cf hSl
      obtain ⟨s, hs⟩ : ∃ s, s = nm := ⟨_, rfl⟩
      rw [← hs] at hW hX
      clear hs
      skip
      skip
      obtain ⟨c0, c1, c2, c3, c4, cf⟩ := cells5 hW.sb
      obtain ⟨r0, r1, r2, r3, r4, rf⟩ := cells5 hW.rb
      have hSl := hW.slt
      have hRl := hW.rlt
      have hSR := hW.sl
      obtain ⟨y0, y1, y2, y3, y4, hO, hDD⟩ := hW.fin
      have HO : Hid _ := hO
      have HD : Hid _ := hDD
      have H0 : Hid _ := y0
      have H1 : Hid _ := y1
      have H2 : Hid _ := y2
      have H3 : Hid _ := y3
      have H4 : Hid _ := y4
      have HX : Hid _ := hX
      clear hO hDD y0 y1 y2 y3 y4 hX hW
      go_wp2
      exact bodyPost_ret (results_c rfl _ _ _ _ ⟨w.heap.size, 0, none⟩ rfl (load5s H0.out H1.out H2.out H3.out H4.out)) rfl (StOut.of HO.out HX.out HD.out)
    have b0 : (p == 0) = false := by simp [f0]
    have b1 : (p == 1) = false := by simp [f1]
    clear p0 p1 f0 f1
    clear c0 c1 c2 c3 c4 cf hSl
    skip
    skip
    obtain ⟨c0, c1, c2, c3, c4, cf⟩ := cells5 hW.sb
    obtain ⟨r0, r1, r2, r3, r4, rf⟩ := cells5 hW.rb
    have hSl := hW.slt
    have hRl := hW.rlt
    have hSR := hW.sl
    obtain ⟨y0, y1, y2, y3, y4, hO, hDD⟩ := hW.fin
    have HO : Hid _ := hO
    have HD : Hid _ := hDD
    have H0 : Hid _ := y0
    have H1 : Hid _ := y1
    have H2 : Hid _ := y2
    have H3 : Hid _ := y3
    have H4 : Hid _ := y4
    have HX : Hid _ := hX
    clear hO hDD y0 y1 y2 y3 y4 hX hW
    go_wp2
    exact bodyPost_ret (results_c rfl _ _ _ _ ⟨w.heap.size, 0, none⟩ rfl (load5s H0.out H1.out H2.out H3.out H4.out)) rfl (StOut.of HO.out HX.out HD.out)
  by_cases e1 : q = 1
  · subst e1
    clear q0 q1 e0
    go_wp2_with fail
    refine Calls.mono (pick_lit 1 3 _ B v l wS _ hW.D.cur (by omega) (by omega) (by rfl) rfl) ?_
    rintro e w2 ⟨⟨nm, rfl, hnm⟩, hd2⟩
    replace hW := hW.drew hd2
    clear hd2 c0 c1 c2 c3 c4 cf hSl
    obtain ⟨c0, c1, c2, c3, c4, cf⟩ := cells5 hW.sb
    have hSl := hW.slt
    go_upto_region 9 with fail
    replace hW := hW.set1 nm
    generalize w2.setCell ⟨S, 1, none⟩ (.string nm) = wz at *
    clear c0 c1 c2 c3 c4 cf hSl
    obtain ⟨c0, c1, c2, c3, c4, cf⟩ := cells5 hW.sb
    have hSl := hW.slt
    obtain ⟨w3, hw3⟩ : ∃ x, x = wz := ⟨_, rfl⟩
    subst hw3
    go_wp2_with fail
    refine Calls.mono (l08Query_any B v l w3 hW.D.cur) ?_
    rintro e w4 ⟨⟨qu, rfl, hqu⟩, hd4⟩
    replace hW := hW.drew hd4
    clear hd4 c0 c1 c2 c3 c4 cf hSl
    obtain ⟨c0, c1, c2, c3, c4, cf⟩ := cells5 hW.sb
    have hSl := hW.slt
    go_upto_region 12 with fail
    replace hW := hW.set3 qu
    generalize w4.setCell ⟨S, 3, none⟩ (.string qu) = wz at *
    clear c0 c1 c2 c3 c4 cf hSl
    obtain ⟨c0, c1, c2, c3, c4, cf⟩ := cells5 hW.sb
    have hSl := hW.slt
    clear c0 c1 c2 c3 c4 cf hSl
    obtain ⟨k, s, cs, q, rs, uc, ur, g, F, hW, hX⟩ : ∃ k s cs q rs uc ur g F, StW w wz S B v l k s cs q rs uc ur g F ∧ StD ⟨k, s, cs, q, rs⟩ := ⟨_, _, _, _, _, _, _, _, _, hW, ⟨by dsimp only; omega, by dsimp only; omega, by dsimp only; omega, by simp, (fun c hc => by cases hc), by dsimp only; omega, by simp, (fun r hr => by cases hr), by simp [chB]⟩⟩
    obtain ⟨ac, cc, rfl, _, _⟩ := hW.own.1.shape
    obtain ⟨ar, cr, rfl⟩ : ∃ a c, ur = .slice a rs.length c := by obtain ⟨a, c, _, e, _⟩ := hW.own.2.1; exact ⟨a, c, e⟩
    obtain ⟨c0, c1, c2, c3, c4, cf⟩ := cells5 hW.sb
    have hSl := hW.slt
    go_wp2_with fail
    refine Calls.mono (l01Below_any 20 B v l _ hW.D.cur (by omega) (by omega)) ?_
    rintro e w8 ⟨⟨p, rfl, p0, p1⟩, hd8⟩
    replace hW := hW.drew hd8
    clear hd8 c0 c1 c2 c3 c4 cf hSl
    obtain ⟨c0, c1, c2, c3, c4, cf⟩ := cells5 hW.sb
    have hSl := hW.slt
    by_cases f0 : p = 0
    · subst f0
      clear p0 p1
      go_wp2_with fail
      refine Calls.mono (l01Below_any 6 B v l _ hW.D.cur (by omega) (by omega)) ?_
      rintro e w9 ⟨⟨t, rfl, t0, t1⟩, hd9⟩
      replace hW := hW.drew hd9
      clear hd9 c0 c1 c2 c3 c4 cf hSl
      obtain ⟨c0, c1, c2, c3, c4, cf⟩ := cells5 hW.sb
      have hSl := hW.slt
      have e1 : wrap64 (t - 1) = t - 1 := by unfold wrap64; omega
      have e2 : IntKind.i64.wrap (t - 1) = t - 1 := by rw [IntKind.wrap_i64]; omega
      replace hX := hX.setK (k' := t - 1) (by omega) (by omega)
      go_upto_region 17 with fail
      replace hW := hW.set0 (t - 1)
      generalize w9.setCell ⟨S, 0, none⟩ (.int .i64 (t - 1)) = wz at *
      clear c0 c1 c2 c3 c4 cf hSl e1 e2
      obtain ⟨k, hk⟩ : ∃ k, k = t - 1 := ⟨_, rfl⟩
      rw [← hk] at hW hX
      clear hk
      skip
      skip
      obtain ⟨c0, c1, c2, c3, c4, cf⟩ := cells5 hW.sb
      obtain ⟨r0, r1, r2, r3, r4, rf⟩ := cells5 hW.rb
      have hSl := hW.slt
      have hRl := hW.rlt
      have hSR := hW.sl
      obtain ⟨y0, y1, y2, y3, y4, hO, hDD⟩ := hW.fin
      have HO : Hid _ := hO
      have HD : Hid _ := hDD
      have H0 : Hid _ := y0
      have H1 : Hid _ := y1
      have H2 : Hid _ := y2
      have H3 : Hid _ := y3
      have H4 : Hid _ := y4
      have HX : Hid _ := hX
      clear hO hDD y0 y1 y2 y3 y4 hX hW
      go_wp2
      exact bodyPost_ret (results_c rfl _ _ _ _ ⟨w.heap.size, 0, none⟩ rfl (load5s H0.out H1.out H2.out H3.out H4.out)) rfl (StOut.of HO.out HX.out HD.out)
    by_cases f1 : p = 1
    · subst f1
      clear p0 p1 f0
      go_wp2_with fail
      refine Calls.mono (pick_lit 11 3 _ B v l w8 _ hW.D.cur (by omega) (by omega) (by rfl) rfl) ?_
      rintro e w9 ⟨⟨nm, rfl, hnm⟩, hd9⟩
      replace hW := hW.drew hd9
      clear hd9 c0 c1 c2 c3 c4 cf hSl
      obtain ⟨c0, c1, c2, c3, c4, cf⟩ := cells5 hW.sb
      have hSl := hW.slt
      replace hX := hX.setS (s' := nm) hnm
      go_upto_region 17 with fail
      replace hW := hW.set1 nm
      generalize w9.setCell ⟨S, 1, none⟩ (.string nm) = wz at *
      clear c0 c1 c2 c3 c4 cf hSl
      obtain ⟨s, hs⟩ : ∃ s, s = nm := ⟨_, rfl⟩
      rw [← hs] at hW hX
      clear hs
      skip
      skip
      obtain ⟨c0, c1, c2, c3, c4, cf⟩ := cells5 hW.sb
      obtain ⟨r0, r1, r2, r3, r4, rf⟩ := cells5 hW.rb
      have hSl := hW.slt
      have hRl := hW.rlt
      have hSR := hW.sl
      obtain ⟨y0, y1, y2, y3, y4, hO, hDD⟩ := hW.fin
      have HO : Hid _ := hO
      have HD : Hid _ := hDD
      have H0 : Hid _ := y0
      have H1 : Hid _ := y1
      have H2 : Hid _ := y2
      have H3 : Hid _ := y3
      have H4 : Hid _ := y4
      have HX : Hid _ := hX
      clear hO hDD y0 y1 y2 y3 y4 hX hW
      go_wp2
      exact bodyPost_ret (results_c rfl _ _ _ _ ⟨w.heap.size, 0, none⟩ rfl (load5s H0.out H1.out H2.out H3.out H4.out)) rfl (StOut.of HO.out HX.out HD.out)
    have b0 : (p == 0) = false := by simp [f0]
    have b1 : (p == 1) = false := by simp [f1]
    clear p0 p1 f0 f1
    clear c0 c1 c2 c3 c4 cf hSl
    skip
    skip
    obtain ⟨c0, c1, c2, c3, c4, cf⟩ := cells5 hW.sb
    obtain ⟨r0, r1, r2, r3, r4, rf⟩ := cells5 hW.rb
    have hSl := hW.slt
    have hRl := hW.rlt
    have hSR := hW.sl
    obtain ⟨y0, y1, y2, y3, y4, hO, hDD⟩ := hW.fin
    have HO : Hid _ := hO
    have HD : Hid _ := hDD
    have H0 : Hid _ := y0
    have H1 : Hid _ := y1
    have H2 : Hid _ := y2
    have H3 : Hid _ := y3
    have H4 : Hid _ := y4
    have HX : Hid _ := hX
    clear hO hDD y0 y1 y2 y3 y4 hX hW
    go_wp2
    exact bodyPost_ret (results_c rfl _ _ _ _ ⟨w.heap.size, 0, none⟩ rfl (load5s H0.out H1.out H2.out H3.out H4.out)) rfl (StOut.of HO.out HX.out HD.out)
  by_cases e2 : q = 2
  · subst e2
    clear q0 q1 e0 e1
    go_wp2_with fail
    refine Calls.mono (pick_lit 4 4 _ B v l wS _ hW.D.cur (by omega) (by omega) (by rfl) rfl) ?_
    rintro e w2 ⟨⟨nm, rfl, hnm⟩, hd2⟩
    replace hW := hW.drew hd2
    clear hd2 c0 c1 c2 c3 c4 cf hSl
    obtain ⟨c0, c1, c2, c3, c4, cf⟩ := cells5 hW.sb
    have hSl := hW.slt
    go_upto_region 12 with fail
    replace hW := hW.set1 nm
    generalize w2.setCell ⟨S, 1, none⟩ (.string nm) = wz at *
    clear c0 c1 c2 c3 c4 cf hSl
    obtain ⟨c0, c1, c2, c3, c4, cf⟩ := cells5 hW.sb
    have hSl := hW.slt
    clear c0 c1 c2 c3 c4 cf hSl
    obtain ⟨k, s, cs, q, rs, uc, ur, g, F, hW, hX⟩ : ∃ k s cs q rs uc ur g F, StW w wz S B v l k s cs q rs uc ur g F ∧ StD ⟨k, s, cs, q, rs⟩ := ⟨_, _, _, _, _, _, _, _, _, hW, ⟨by dsimp only; omega, by dsimp only; omega, by dsimp only; omega, by simp, (fun c hc => by cases hc), by show 0 ≤ 400; omega, by simp, (fun r hr => by cases hr), by simp [chB]⟩⟩
    obtain ⟨ac, cc, rfl, _, _⟩ := hW.own.1.shape
    obtain ⟨ar, cr, rfl⟩ : ∃ a c, ur = .slice a rs.length c := by obtain ⟨a, c, _, e, _⟩ := hW.own.2.1; exact ⟨a, c, e⟩
    obtain ⟨c0, c1, c2, c3, c4, cf⟩ := cells5 hW.sb
    have hSl := hW.slt
    go_wp2_with fail
    refine Calls.mono (l01Below_any 20 B v l _ hW.D.cur (by omega) (by omega)) ?_
    rintro e w8 ⟨⟨p, rfl, p0, p1⟩, hd8⟩
    replace hW := hW.drew hd8
    clear hd8 c0 c1 c2 c3 c4 cf hSl
    obtain ⟨c0, c1, c2, c3, c4, cf⟩ := cells5 hW.sb
    have hSl := hW.slt
    by_cases f0 : p = 0
    · subst f0
      clear p0 p1
      go_wp2_with fail
      refine Calls.mono (l01Below_any 6 B v l _ hW.D.cur (by omega) (by omega)) ?_
      rintro e w9 ⟨⟨t, rfl, t0, t1⟩, hd9⟩
      replace hW := hW.drew hd9
      clear hd9 c0 c1 c2 c3 c4 cf hSl
      obtain ⟨c0, c1, c2, c3, c4, cf⟩ := cells5 hW.sb
      have hSl := hW.slt
      have e1 : wrap64 (t - 1) = t - 1 := by unfold wrap64; omega
      have e2 : IntKind.i64.wrap (t - 1) = t - 1 := by rw [IntKind.wrap_i64]; omega
      replace hX := hX.setK (k' := t - 1) (by omega) (by omega)
      go_upto_region 17 with fail
      replace hW := hW.set0 (t - 1)
      generalize w9.setCell ⟨S, 0, none⟩ (.int .i64 (t - 1)) = wz at *
      clear c0 c1 c2 c3 c4 cf hSl e1 e2
      obtain ⟨k, hk⟩ : ∃ k, k = t - 1 := ⟨_, rfl⟩
      rw [← hk] at hW hX
      clear hk
      skip
      skip
      obtain ⟨c0, c1, c2, c3, c4, cf⟩ := cells5 hW.sb
      obtain ⟨r0, r1, r2, r3, r4, rf⟩ := cells5 hW.rb
      have hSl := hW.slt
      have hRl := hW.rlt
      have hSR := hW.sl
      obtain ⟨y0, y1, y2, y3, y4, hO, hDD⟩ := hW.fin
      have HO : Hid _ := hO
      have HD : Hid _ := hDD
      have H0 : Hid _ := y0
      have H1 : Hid _ := y1
      have H2 : Hid _ := y2
      have H3 : Hid _ := y3
      have H4 : Hid _ := y4
      have HX : Hid _ := hX
      clear hO hDD y0 y1 y2 y3 y4 hX hW
      go_wp2
      exact bodyPost_ret (results_c rfl _ _ _ _ ⟨w.heap.size, 0, none⟩ rfl (load5s H0.out H1.out H2.out H3.out H4.out)) rfl (StOut.of HO.out HX.out HD.out)
    by_cases f1 : p = 1
    · subst f1
      clear p0 p1 f0
      go_wp2_with fail
      refine Calls.mono (pick_lit 11 3 _ B v l w8 _ hW.D.cur (by omega) (by omega) (by rfl) rfl) ?_
      rintro e w9 ⟨⟨nm, rfl, hnm⟩, hd9⟩
      replace hW := hW.drew hd9
      clear hd9 c0 c1 c2 c3 c4 cf hSl
      obtain ⟨c0, c1, c2, c3, c4, cf⟩ := cells5 hW.sb
      have hSl := hW.slt
      replace hX := hX.setS (s' := nm) hnm
      go_upto_region 17 with fail
      replace hW := hW.set1 nm
      generalize w9.setCell ⟨S, 1, none⟩ (.string nm) = wz at *
      clear c0 c1 c2 c3 c4 cf hSl
      obtain ⟨s, hs⟩ : ∃ s, s = nm := ⟨_, rfl⟩
      rw [← hs] at hW hX
      clear hs
      skip
      skip
      obtain ⟨c0, c1, c2, c3, c4, cf⟩ := cells5 hW.sb
      obtain ⟨r0, r1, r2, r3, r4, rf⟩ := cells5 hW.rb
      have hSl := hW.slt
      have hRl := hW.rlt
      have hSR := hW.sl
      obtain ⟨y0, y1, y2, y3, y4, hO, hDD⟩ := hW.fin
      have HO : Hid _ := hO
      have HD : Hid _ := hDD
      have H0 : Hid _ := y0
      have H1 : Hid _ := y1
      have H2 : Hid _ := y2
      have H3 : Hid _ := y3
      have H4 : Hid _ := y4
      have HX : Hid _ := hX
      clear hO hDD y0 y1 y2 y3 y4 hX hW
      go_wp2
      exact bodyPost_ret (results_c rfl _ _ _ _ ⟨w.heap.size, 0, none⟩ rfl (load5s H0.out H1.out H2.out H3.out H4.out)) rfl (StOut.of HO.out HX.out HD.out)
    have b0 : (p == 0) = false := by simp [f0]
    have b1 : (p == 1) = false := by simp [f1]
    clear p0 p1 f0 f1
    clear c0 c1 c2 c3 c4 cf hSl
    skip
    skip
    obtain ⟨c0, c1, c2, c3, c4, cf⟩ := cells5 hW.sb
    obtain ⟨r0, r1, r2, r3, r4, rf⟩ := cells5 hW.rb
    have hSl := hW.slt
    have hRl := hW.rlt
    have hSR := hW.sl
    obtain ⟨y0, y1, y2, y3, y4, hO, hDD⟩ := hW.fin
    have HO : Hid _ := hO
    have HD : Hid _ := hDD
    have H0 : Hid _ := y0
    have H1 : Hid _ := y1
    have H2 : Hid _ := y2
    have H3 : Hid _ := y3
    have H4 : Hid _ := y4
    have HX : Hid _ := hX
    clear hO hDD y0 y1 y2 y3 y4 hX hW
    go_wp2
    exact bodyPost_ret (results_c rfl _ _ _ _ ⟨w.heap.size, 0, none⟩ rfl (load5s H0.out H1.out H2.out H3.out H4.out)) rfl (StOut.of HO.out HX.out HD.out)
  obtain rfl : q = 3 := by omega
  clear q0 q1 e0 e1 e2
  go_wp2_with fail
  refine Calls.mono (l04Db_any B v l wS hW.D.cur) ?_
  rintro e w2 ⟨⟨ud, ds, us2, G2, rfl, hdl, hdr, hRd⟩, hd2⟩
  obtain ⟨Fd, hFd, hOd⟩ := hRd.relsF
  obtain ⟨a, c, b0, o, G0, e1, _, _, _, _, _, _, ha⟩ := hFd.pick
  obtain ⟨rfl, _, _⟩ := ha 0 (by omega)
  rw [hdl] at e1
  subst e1
  have hB0 := hW.D.lt
  have hz0 := hW.D.chg.size
  have hFB : B ∉ Fd := fun e => by have := hOd.2.1 B e; omega
  replace hW := hW.drew hd2
  clear hd2 c0 c1 c2 c3 c4 cf hSl hRd hOd ha
  obtain ⟨c0, c1, c2, c3, c4, cf⟩ := cells5 hW.sb
  have hSl := hW.slt
  go_wp2_with fail
  refine Calls.mono (l05Change_any B v l w2 hW.D.cur b0 o c ds Fd hFd hFB hdl hdr) ?_
  rintro e w3 ⟨⟨uu, ts, us3, G3, rfl, htl, htc, htr, hRt⟩, hd3⟩
  obtain ⟨Ft, hFt, hOt⟩ := hRt.relsF
  have hSl2 := hW.slt
  replace hW := hW.drew hd3
  clear hd3 c0 c1 c2 c3 c4 cf hSl hFd hFB hdr hdl
  obtain ⟨c0, c1, c2, c3, c4, cf⟩ := cells5 hW.sb
  have hSl := hW.slt
  obtain ⟨at', ct, rfl⟩ := hRt.shape
  go_upto_region 12 with fail
  replace hW := hW.set4 (.slice at' ts.length ct) ts Ft hFt ⟨hOt.1, fun b hb => by have := hOt.2.1 b hb; omega, hOt.2.2⟩ (fun b hb => by cases hb)
  generalize w3.setCell ⟨S, 4, none⟩ (.slice at' ts.length ct) = wz at *
  clear c0 c1 c2 c3 c4 cf hSl
  obtain ⟨c0, c1, c2, c3, c4, cf⟩ := cells5 hW.sb
  have hSl := hW.slt
  clear c0 c1 c2 c3 c4 cf hSl
  obtain ⟨k, s, cs, q, rs, uc, ur, g, F, hW, hX⟩ : ∃ k s cs q rs uc ur g F, StW w wz S B v l k s cs q rs uc ur g F ∧ StD ⟨k, s, cs, q, rs⟩ := ⟨_, _, _, _, _, _, _, _, _, hW, ⟨by dsimp only; omega, by dsimp only; omega, by show 0 ≤ 11; omega, by simp, (fun c hc => by cases hc), by show 0 ≤ 400; omega, htl, htr, htc⟩⟩
  obtain ⟨ac, cc, rfl, _, _⟩ := hW.own.1.shape
  obtain ⟨ar, cr, rfl⟩ : ∃ a c, ur = .slice a rs.length c := by obtain ⟨a, c, _, e, _⟩ := hW.own.2.1; exact ⟨a, c, e⟩
  obtain ⟨c0, c1, c2, c3, c4, cf⟩ := cells5 hW.sb
  have hSl := hW.slt
  go_wp2_with fail
  refine Calls.mono (l01Below_any 20 B v l _ hW.D.cur (by omega) (by omega)) ?_
  rintro e w8 ⟨⟨p, rfl, p0, p1⟩, hd8⟩
  replace hW := hW.drew hd8
  clear hd8 c0 c1 c2 c3 c4 cf hSl
  obtain ⟨c0, c1, c2, c3, c4, cf⟩ := cells5 hW.sb
  have hSl := hW.slt
  by_cases f0 : p = 0
  · subst f0
    clear p0 p1
    go_wp2_with fail
    refine Calls.mono (l01Below_any 6 B v l _ hW.D.cur (by omega) (by omega)) ?_
    rintro e w9 ⟨⟨t, rfl, t0, t1⟩, hd9⟩
    replace hW := hW.drew hd9
    clear hd9 c0 c1 c2 c3 c4 cf hSl
    obtain ⟨c0, c1, c2, c3, c4, cf⟩ := cells5 hW.sb
    have hSl := hW.slt
    have e1 : wrap64 (t - 1) = t - 1 := by unfold wrap64; omega
    have e2 : IntKind.i64.wrap (t - 1) = t - 1 := by rw [IntKind.wrap_i64]; omega
    replace hX := hX.setK (k' := t - 1) (by omega) (by omega)
    go_upto_region 17 with fail
    replace hW := hW.set0 (t - 1)
    generalize w9.setCell ⟨S, 0, none⟩ (.int .i64 (t - 1)) = wz at *
    clear c0 c1 c2 c3 c4 cf hSl e1 e2
    obtain ⟨k, hk⟩ : ∃ k, k = t - 1 := ⟨_, rfl⟩
    rw [← hk] at hW hX
    clear hk
    skip
    skip
    obtain ⟨c0, c1, c2, c3, c4, cf⟩ := cells5 hW.sb
    obtain ⟨r0, r1, r2, r3, r4, rf⟩ := cells5 hW.rb
    have hSl := hW.slt
    have hRl := hW.rlt
    have hSR := hW.sl
    obtain ⟨y0, y1, y2, y3, y4, hO, hDD⟩ := hW.fin
    have HO : Hid _ := hO
    have HD : Hid _ := hDD
    have H0 : Hid _ := y0
    have H1 : Hid _ := y1
    have H2 : Hid _ := y2
    have H3 : Hid _ := y3
    have H4 : Hid _ := y4
    have HX : Hid _ := hX
    clear hO hDD y0 y1 y2 y3 y4 hX hW
    go_wp2
    exact bodyPost_ret (results_c rfl _ _ _ _ ⟨w.heap.size, 0, none⟩ rfl (load5s H0.out H1.out H2.out H3.out H4.out)) rfl (StOut.of HO.out HX.out HD.out)
  by_cases f1 : p = 1
  · subst f1
    clear p0 p1 f0
    go_wp2_with fail
    refine Calls.mono (pick_lit 11 3 _ B v l w8 _ hW.D.cur (by omega) (by omega) (by rfl) rfl) ?_
    rintro e w9 ⟨⟨nm, rfl, hnm⟩, hd9⟩
    replace hW := hW.drew hd9
    clear hd9 c0 c1 c2 c3 c4 cf hSl
    obtain ⟨c0, c1, c2, c3, c4, cf⟩ := cells5 hW.sb
    have hSl := hW.slt
    replace hX := hX.setS (s' := nm) hnm
    go_upto_region 17 with fail
    replace hW := hW.set1 nm
    generalize w9.setCell ⟨S, 1, none⟩ (.string nm) = wz at *
    clear c0 c1 c2 c3 c4 cf hSl
    obtain ⟨s, hs⟩ : ∃ s, s = nm := ⟨_, rfl⟩
    rw [← hs] at hW hX
    clear hs
    skip
    skip
    obtain ⟨c0, c1, c2, c3, c4, cf⟩ := cells5 hW.sb
    obtain ⟨r0, r1, r2, r3, r4, rf⟩ := cells5 hW.rb
    have hSl := hW.slt
    have hRl := hW.rlt
    have hSR := hW.sl
    obtain ⟨y0, y1, y2, y3, y4, hO, hDD⟩ := hW.fin
    have HO : Hid _ := hO
    have HD : Hid _ := hDD
    have H0 : Hid _ := y0
    have H1 : Hid _ := y1
    have H2 : Hid _ := y2
    have H3 : Hid _ := y3
    have H4 : Hid _ := y4
    have HX : Hid _ := hX
    clear hO hDD y0 y1 y2 y3 y4 hX hW
    go_wp2
    exact bodyPost_ret (results_c rfl _ _ _ _ ⟨w.heap.size, 0, none⟩ rfl (load5s H0.out H1.out H2.out H3.out H4.out)) rfl (StOut.of HO.out HX.out HD.out)
  have b0 : (p == 0) = false := by simp [f0]
  have b1 : (p == 1) = false := by simp [f1]
  clear p0 p1 f0 f1
  clear c0 c1 c2 c3 c4 cf hSl
  skip
  skip
  obtain ⟨c0, c1, c2, c3, c4, cf⟩ := cells5 hW.sb
  obtain ⟨r0, r1, r2, r3, r4, rf⟩ := cells5 hW.rb
  have hSl := hW.slt
  have hRl := hW.rlt
  have hSR := hW.sl
  obtain ⟨y0, y1, y2, y3, y4, hO, hDD⟩ := hW.fin
  have HO : Hid _ := hO
  have HD : Hid _ := hDD
  have H0 : Hid _ := y0
  have H1 : Hid _ := y1
  have H2 : Hid _ := y2
  have H3 : Hid _ := y3
  have H4 : Hid _ := y4
  have HX : Hid _ := hX
  clear hO hDD y0 y1 y2 y3 y4 hX hW
  go_wp2
  exact bodyPost_ret (results_c rfl _ _ _ _ ⟨w.heap.size, 0, none⟩ rfl (load5s H0.out H1.out H2.out H3.out H4.out)) rfl (StOut.of HO.out HX.out HD.out)
end Go.Proofs.YtbmoimfimeiglaaGreat
