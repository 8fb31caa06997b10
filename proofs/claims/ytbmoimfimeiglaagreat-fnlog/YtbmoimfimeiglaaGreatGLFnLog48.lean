/- Own texts, joined: contracts that the law's proof goes by. -/
import Derived.Test.YtbmoimfimeiglaaGreatGLFnLog47
import Derived.Test.YtbmoimfimeiglaaGreatGLFnLog7
import Derived.Test.YtbmoimfimeiglaaGreatGLFnLog12
import Derived.Handy
import Derived.Deep.DrawnRows
import Derived.Deep.AppendLies
import Derived.Test.YtbmoimfimeiglaaGreatGLFnLog1
import Derived.Test.YtbmoimfimeiglaaGreatGLFnLog46
import Derived.Test.YtbmoimfimeiglaaGreatGLFnLog40
namespace Go.Proofs.YtbmoimfimeiglaaGreat
open Go.RowKit Go.Deep Go.ChangeShapes Go.WideShapes
set_option linter.unusedVariables false
attribute [local go_sem ↓] Go.wp_at_zero Go.wp_at_succ
theorem BgQ.up {W M L M' L' : Nat} {cs : List C2} (h : BgQ W M L cs) (hM : M ≤ M') (hL : L ≤ L') : BgQ W M' L' cs := ⟨h.asc, h.nz, fun c hc => by have := h.num c hc; omega, h.row, Nat.le_trans h.len hL⟩
theorem rows_at {w : World} {u : Value} {cs : List C2} {g : List Nat} (h : RowsF w u cs g) {j : Nat} (hj : j < cs.length) :
    ∃ b2 o2 cc y ur gr, u = .slice (some ⟨b2, o2, none⟩) cs.length cc ∧ b2 < w.heap.size ∧ cs[j]? = some y ∧ w.cell? ⟨b2, o2 + j * 2, none⟩ = some ur ∧ RowF w ur y.r gr ∧ w.cell? ⟨b2, o2 + j * 2 + 1, none⟩ = some (.int .i64 y.n) ∧ (∀ t ∈ gr, t ∈ g) ∧ cs.length ≤ cc ∧ cc ≤ maxLen := by
  obtain ⟨a, cc, b2, o2, G2, rfl, hlc, hcm, _, hG2, _, hC, ha⟩ := h.pick
  obtain ⟨rfl, hb2, hF2⟩ := ha j hj
  obtain ⟨ur, h0, h1, h2⟩ := hC j cs[j] (G2[j]'(by omega)) (by simp [hj]) (by simp)
  exact ⟨b2, o2, cc, cs[j], ur, _, rfl, hb2, by simp [hj], h0, h1, h2, (fun t ht => by rw [hF2]; exact List.mem_cons_of_mem _ (List.mem_flatten.2 ⟨_, List.getElem_mem _, ht⟩)), hlc, hcm⟩
set_option maxHeartbeats 8000000 in
set_option maxRecDepth 100000 in
theorem l05Change_any (B : Nat) (v : Value) (l : Nat) (w : World) (h : Cur w B v l) (b o c : Nat) (ds : List R3) (F : List Nat) (hd : RelsF w (.slice (some ⟨b, o, none⟩) 3 c) ds F) (hFB : B ∉ F) (hn : ds.length = 3) (hds : ∀ i r, ds[i]? = some r → DbR (i + 1) r) :
    Calls Tryz.prog 55 #[.pointer (some ⟨B, 0, none⟩), .slice (some ⟨b, o, none⟩) 3 c] w fun e w' => (∃ (u : Value) (rs : List R3) (us : List Value) (G : List (List Nat)), e = .returned u ∧ rs.length ≤ 4 ∧ chB rs ≤ 12760 ∧ (∀ r ∈ rs, ChR r) ∧ RelOwn w' w.heap.size u rs us G) ∧ Drew B v l w w' := by
  obtain ⟨i0, hi, hz0, hz1, hz2'⟩ := info_parts infoRel9
  have hBl := h.lt
  have hbF0 : b ∈ F ∧ b < w.heap.size := by obtain ⟨-, h1, h2, _⟩ := db_at hd (i := 0) (by omega); exact ⟨h1, h2⟩
  have hbB : b ≠ B := fun e => hFB (e ▸ hbF0.1)
  have hbN : ¬ w.heap.size ≤ b := by have := hbF0.2; omega
  go_enter Tryz.func55, Tryz.ntmps55
  go_wp2
  go_loopw [5, 6] (fun y i wr => ∃ (k : Nat) (rs : List R3) (us : List Value) (G : List (List Nat)), k ≤ 3 ∧ i = .int .i64 k ∧ rs.length ≤ k ∧ chB rs ≤ 2400 * k ∧ (∀ r ∈ rs, ChR r) ∧ RelOwn wr w.heap.size y rs us G ∧ Drew B v l w wr) (fun _ i _ => 3 - (intOf i).toNat)
  case atStart =>
    exact ⟨0, [], [], [], by omega, rfl, by simp, by simp [chB], (fun r hr => by cases hr), RelOwn.empty' (by simp), h.start.alloc _⟩
  case round =>
    clear h
    obtain ⟨k, rs, us, G, hk, rfl, hrl, hcb, hro, hB, hD⟩ := hrel
    have hzr := hD.chg.size
    generalize wr = wo at *
    by_cases hlt : k < 3
    · have hdo : RelsF wo (.slice (some ⟨b, o, none⟩) 3 c) ds F := hd.chg hD.chg fun t ht e => hFB ((List.mem_singleton.1 e) ▸ ht)
      obtain ⟨-, -, hbl, x, u, g, hx, c0, c1, c2, hR, hgF⟩ := db_at hdo (i := k) (by omega)
      obtain ⟨hXs, hXw, hXi⟩ := hds k x hx
      obtain ⟨Wn, hWn⟩ : ∃ Wn : Nat, Wn = k + 1 := ⟨_, rfl⟩
      rw [← hWn] at hXw hXi
      rw [hXw] at c1
      have hW3 : Wn ≤ 3 := by omega
      have hkI : (k : Int) < 3 := by omega
      have hin : (decide ((0 : Int) ≤ (Wn : Int)) && decide ((Wn : Int) ≤ 3)) = true := by simp; omega
      have hxl := hXi.len
      obtain ⟨au, cu, rfl⟩ : ∃ au cu, u = .slice au x.cs.length cu := by obtain ⟨a, cc, _, _, _, e, _⟩ := hR.pick; exact ⟨a, cc, e⟩
      have hvl := ownsRow_lt hB.own
      have hGl := hB.lt
      clear hdo hd hx hWn hXw hn hds
      go_wp2_with fail
      refine Calls.mono (l01Once_any 3 B v l wo hD.cur (by omega) (by omega)) ?_
      rintro e w1 ⟨⟨o1, rfl⟩, hd1⟩
      have hD1 := hD.trans hd1
      have hz1' := hd1.chg.size
      have e1 := (cell_blk (o := o + k * 3 + 1) (hd1.old hbl hbB)).trans c1
      cases o1
      · have hb1 : b < w1.heap.size := by omega
        go_wp2_with fail
        refine Calls.mono (l01In_any (Wn : Int) 0 3 w1) ?_
        rintro e w2 ⟨rfl, hb2⟩
        rw [hin]
        have hD2 := hD1.below hb2
        have e2 := (cell_blk (o := o + k * 3 + 1) (hb2.block b hb1)).trans e1
        have hz2a := hb2.size
        have hk2 : ∀ t, t < wo.heap.size → t ≠ B → w2.heap[t]? = wo.heap[t]? := fun t h1 h2 => (hb2.block t (by omega)).trans (hd1.old h1 h2)
        have hb2l : b < w2.heap.size := by omega
        clear hd1 hb2 e1
        go_wp2_with fail
        refine Calls.mono (l02Bag_any B v l Wn false w2 hD2.cur (by omega)) ?_
        rintro e w3 ⟨⟨ub, cs3, us3, G3, rfl, hI, hB3⟩, hd3⟩
        obtain ⟨a3, c3, rfl⟩ := hB3.shape
        have hz3a := hd3.chg.size
        have hS : ChW w wo (w3.alloc (.cells #[.int .i64 Wn, .slice a3 cs3.length c3] 71)) w3.heap.size B v l Wn (.slice a3 cs3.length c3) cs3 us3 G3 := by
          have bal : Below w3.heap.size w3 (w3.alloc (.cells #[.int .i64 Wn, .slice a3 cs3.length c3] 71)) := (Below.refl _ _).alloc (Nat.le_refl _) _
          exact ⟨heap_alloc_new w3 _, by omega, hzr, (hB3.below bal).weak (by omega), (fun e => by have := (ownsRow_lt hB3.own _ e).2; omega), (fun hg => by have := hB3.lt _ hg; omega), (hD2.trans hd3).below bal, by simp; omega, fun t h1 h2 => (bal.block t (by omega)).trans ((hd3.old (by omega) h2).trans (hk2 t h1 h2))⟩
        clear hB3 hd3 hD2 hk2 e2 hD1
        go_wp2_with fail
        generalize w3.alloc (.cells #[.int .i64 Wn, .slice a3 cs3.length c3] 71) = wb at *
        generalize w3.heap.size = X at *
        go_loopw [8] (fun j wr => ∃ (q : Nat) (u : Value) (cs : List C2) (us : List Value) (G : List (List Nat)), q ≤ x.cs.length ∧ j = .int .i64 q ∧ BgQ Wn (30 + 30 * q) (30 + q) cs ∧ ChW w wo wr X B v l Wn u cs us G) (fun j _ => x.cs.length - (intOf j).toNat)
        case atStart => exact ⟨0, _, _, _, _, Nat.zero_le _, rfl, hI.q, hS⟩
        case round =>
          clear hS hI
          obtain ⟨q, u, cs, us', G', hq, rfl, hI, hS⟩ := hrel
          have hsz := hS.z
          have kb := hS.kp b hbl hbB
          have d2 := (cell_blk (o := o + k * 3 + 2) kb).trans c2
          have hbr : b < wr.heap.size := by omega
          by_cases hl2 : q < x.cs.length
          · have hRr := hR.keep hsz fun t ht => hS.kp t (hR.lt t ht) (fun e => hFB (e ▸ hgF t ht))
            obtain ⟨b2, o2, cc2, y, ur, gr, e2, hb2l, hy, r0, hRF, r1, hgr, hlc2, hcm2⟩ := rows_at hRr hl2
            have hgB : ∀ t ∈ gr, t ≠ B := fun t ht e => hFB (e ▸ hgF t (hgr t ht))
            injection e2 with e2a e2b e2c
            subst e2a e2c
            unfold maxLen at hcm2
            obtain ⟨ra, rc', rfl⟩ := hRF.shapeX
            have hym := List.mem_of_getElem? hy
            have HRow : Hid (y.r.length = Wn ∧ VsOk y.r) := hXi.row y hym
            have hyn := hXi.num y hym
            clear hy hgr hRr
            go_wp2_with fail
            have hS1 := hS.below (wn := wr.alloc (.cells #[.slice ra y.r.length rc', .int .i64 y.n] 112)) ((Below.refl _ _).alloc (Nat.le_refl _) _)
            have hRb := heap_alloc_new wr (.cells #[.slice ra y.r.length rc', .int .i64 y.n] 112)
            have hRF1 := hRF.belowX (w' := wr.alloc (.cells #[.slice ra y.r.length rc', .int .i64 y.n] 112)) ((Below.refl _ _).alloc (Nat.le_refl _) _)
            have hRFl := hRF.lt
            have hRlt : wr.heap.size < (wr.alloc (.cells #[.slice ra y.r.length rc', .int .i64 y.n] 112)).heap.size := by simp
            generalize wr.alloc (.cells #[.slice ra y.r.length rc', .int .i64 y.n] 112) = wa at *
            refine Calls.mono (l01Once_any 2 B v l wa hS1.D.cur (by omega) (by omega)) ?_
            rintro e w2 ⟨⟨o2', rfl⟩, hd2⟩
            have hS2 := hS1.drew hd2
            have hR2 := hd2.cellsB hRb (by omega)
            have hRF2 := hRF1.keep hd2.chg.size fun t ht => hd2.old (hRF1.lt t ht) (hgB t ht)
            clear hS1 hRb hd2 hRF1
            cases o2'
            · go_wp2
              exact ⟨⟨q + 1, _, _, _, _, hl2, by simp, hI.up (by omega) (by omega), hS2⟩, by simp [intOf]; omega⟩
            obtain ⟨ad, cd, rfl⟩ := hS2.own.shape
            obtain ⟨p0, p1, pf⟩ := bag2 hS2.xb
            obtain ⟨q0, q1, _⟩ := bag2 hR2
            have hXl := hS2.xlt
            have hRl : wr.heap.size < w2.heap.size := heap_ltA hR2
            have hw1 : wrap64 (-y.n) = -y.n := by unfold wrap64; omega
            have hw2 : IntKind.i64.wrap (-y.n) = -y.n := by rw [IntKind.wrap_i64]; omega
            have hcn : ∀ c ∈ cs, -4000000000000000000 ≤ c.n ∧ c.n ≤ 4000000000000000000 := fun c hc => by have := hI.num c hc; omega
            have hcl : cs.length ≤ 2097152 := by have := hI.len; omega
            have hrn : y.r.length ≤ 1048576 := by have := HRow.out.1; omega
            go_wp2_with fail
            refine Calls.mono (l02Put_any Wn (-y.n) (.slice ad cs.length cd) (.slice ra y.r.length rc') cs us' G' y.r gr wo.heap.size w2 hS2.own hRF2 hI.asc hS2.z hcl hrn (by omega) (by omega) hcn _ rfl) ?_
            rintro e w5 ⟨u5, us5, G5, rfl, hB5, p3, p4, hb5, hg5⟩
            obtain ⟨a5, c5, rfl⟩ := hB5.shape
            have hS5 := hS2.put hB5 p3 p4 hb5 hg5
            have hX5 : w5.heap[X]? = w2.heap[X]? := hg5.block X hXl fun e => hS2.xo e.symm
            have z0 := (cell_blk (o := 0) hX5).trans p0
            have z1 := (cell_blk (o := 1) hX5).trans p1
            have zf : ∀ i, w5.frozen? ⟨X, i, none⟩ = false := fun i => (frozen_blk hX5).trans (pf i)
            have hI5 : BgQ Wn (30 + 30 * (q + 1)) (30 + (q + 1)) (putC cs y.r (-y.n)) := (hI.put HRow.out (by omega) (by omega)).up (by omega) (by omega)
            clear hS2 hB5 p3 p4 hb5 hg5 hX5 hI hRF2 p0 p1 pf q0 q1 hR2 hcn hcl
            go_wp2
            exact ⟨⟨q + 1, _, _, _, _, hl2, by simp, hI5, hS5⟩, by simp [intOf]; omega⟩
          · obtain rfl : q = x.cs.length := by omega
            obtain ⟨ad, cd, rfl⟩ := hS.own.shape
            obtain ⟨p0, p1, pf⟩ := bag2 hS.xb
            have hXl := hS.xlt
            have n0 := (cell_blk (o := o + k * 3) kb).trans c0
            obtain ⟨g2, hR2, hO2⟩ := hS.own.rowsF
            have hO2' : ∀ t ∈ g2, wo.heap.size ≤ t := fun t ht => hO2.2.1 t ht
            have hB3 : RelOwn wr w.heap.size u5 rs us G := hB.keep hsz fun t h1 h2 => hS.kp t h2 (by omega)
            have hyb : u5.ownBlock ≠ some b := fun e => hbN (hvl b e).1
            have hyX : u5.ownBlock ≠ some X := fun e => by have := (hvl X e).2; have := hS.xl; omega
            go_wp2_with fail
            refine startE 10 (fun w' => w'.cell? ⟨b, o + k * 3, none⟩ = some (.string x.s) ∧ w'.cell? ⟨X, 0, none⟩ = some (.int .i64 Wn) ∧ w'.cell? ⟨X, 1, none⟩ = some (.slice ad cs.length cd)) (by kernel_rfl) ?_ (fun hHeld => ?_)
            · (try dsimp only)
              exact ⟨n0, p0, p1⟩
            refine tkE (i := 0) (d := 70) (v := ?_) rfl rfl ?_ ?_
            rotate_left
            · intro w' hSw; (try dsimp only at hSw); go_simp; try exact rfl
            try simp only [List.setIfInBounds_toArray, List.set_cons_zero, List.set_cons_succ]
            refine tkE (i := 1) (d := 71) (v := ?_) rfl rfl ?_ ?_
            rotate_left
            · intro w' hSw; (try dsimp only at hSw); go_simp; try exact rfl
            try simp only [List.setIfInBounds_toArray, List.set_cons_zero, List.set_cons_succ]
            refine tkE (i := 2) (d := 72) (v := ?_) rfl rfl ?_ ?_
            rotate_left
            · intro w' hSw; (try dsimp only at hSw); go_simp; try exact rfl
            try simp only [List.setIfInBounds_toArray, List.set_cons_zero, List.set_cons_succ]
            refine tkE (i := 3) (d := 73) (v := ?_) rfl rfl ?_ ?_
            rotate_left
            · intro w' hSw; (try dsimp only at hSw); go_simp; try exact rfl
            try simp only [List.setIfInBounds_toArray, List.set_cons_zero, List.set_cons_succ]
            refine tkE (i := 4) (d := 74) (v := ?_) rfl rfl ?_ ?_
            rotate_left
            · intro w' hSw; (try dsimp only at hSw); go_simp; try exact rfl
            try simp only [List.setIfInBounds_toArray, List.set_cons_zero, List.set_cons_succ]
            refine tkE (i := 5) (d := 75) (v := ?_) rfl rfl ?_ ?_
            rotate_left
            · intro w' hSw; (try dsimp only at hSw); go_simp; try exact rfl
            try simp only [List.setIfInBounds_toArray, List.set_cons_zero, List.set_cons_succ]
            refine tkE (i := 6) (d := 76) (v := ?_) rfl rfl ?_ ?_
            rotate_left
            · intro w' hSw; (try dsimp only at hSw); go_simp; try exact rfl
            try simp only [List.setIfInBounds_toArray, List.set_cons_zero, List.set_cons_succ]
            refine tkE (i := 7) (d := 77) (v := ?_) rfl rfl ?_ ?_
            rotate_left
            · intro w' hSw; (try dsimp only at hSw); go_simp; try exact rfl
            try simp only [List.setIfInBounds_toArray, List.set_cons_zero, List.set_cons_succ]
            refine oneE (i := 8) (by kernel_rfl) rfl (fun K hK => ?_)
            go_simp
            refine hK.out _ _ ?_ (fun hHeld8 => ?_)
            · intro _
              (try dsimp only)
              exact ⟨(cell_blk (Below.heap_alloc wr _ _ (by omega))).trans n0, (cell_blk (Below.heap_alloc wr _ _ (by omega))).trans p0, (cell_blk (Below.heap_alloc wr _ _ (by omega))).trans p1⟩
            clear hK
            replace hHeld8 := hHeld8 (by decide)
            try simp only [List.setIfInBounds_toArray, List.set_cons_zero, List.set_cons_succ]
            refine oneE (i := 9) (by kernel_rfl) rfl (fun K hK => ?_)
            refine step_append_lies _ (by rfl) _ _ _ (by rfl) w.heap.size 73 i0 _ 3 48 Tryz.underlying25 hi hz0 hz1 hz2' rfl (by omega) u5 rs.length (rcs us rs) (by rfl) (hB3.own.alloc _) ⟨wr.heap.size, 0, none⟩ 1 1 [.string x.s, .int .i64 Wn, .slice ad cs.length cd] (by rfl) (by rfl) (World.news_of_block (cs := #[.string x.s, .int .i64 Wn, .slice ad cs.length cd]) (t := 73) (fr := (0, 0)) (heap_alloc_new wr _)) (by simp [Value.oneCell']) (by omega) (by unfold maxLen; omega) (by omega) (by simp; omega) (wr.heap.size + 1) (by simp) ?_
            intro gg cap w3 hown3 hgrow hat hlt3
            have hz3 := hgrow.size
            simp at hz3
            have al2 : Below wr.heap.size wr (wr.alloc (.cells #[.string x.s, .int .i64 Wn, .slice ad cs.length cd] 73)).drew := ((Below.refl _ _).alloc (Nat.le_refl _) _).drew
            have far : ∀ t, t < wr.heap.size → u5.ownBlock ≠ some t → w3.heap[t]? = wr.heap[t]? := fun t h1 h2 => (hgrow.block _ (by simp; omega) (Ne.symm h2)).trans (Below.heap_alloc _ _ _ (by omega))
            have f0 := (cell_blk (o := o + k * 3) (far b (by omega) hyb)).trans n0
            have f1 := (cell_blk (o := 0) (far X hXl hyX)).trans p0
            have f2 := (cell_blk (o := 1) (far X hXl hyX)).trans p1
            have hBp := RelOwn.push (x := ⟨x.s, Wn, cs⟩) (hB3.below al2) (hR2.below al2) ⟨hO2.1, fun t ht => by have := hO2' t ht; omega, fun t ht q => (frozen_blk (al2.block t (hR2.lt t ht))).trans (hO2.2.2 t ht q)⟩ (fun t ht ht' => by have := hO2' t ht'; have := hGl t ht; omega) (fun t ht ht' => by have := hO2' t ht'; have := (hvl t ht).2; omega) hown3 hgrow (fun t ht => by simp [Value.ownBlock] at ht; subst ht; rcases hat with h | h; exact .inl h; exact .inr (by simp; omega))
            have hD3 : Drew B v l w w3 := drew_grown (hS.D.below al2) hgrow (fun t ht => (hvl t ht).1)
            refine hK.out _ _ ?_ (fun hHeld9 => ?_)
            · intro _
              (try dsimp only)
              exact ⟨f0, f1, f2⟩
            clear hK
            replace hHeld9 := hHeld9 (by decide)
            try simp only [List.setIfInBounds_toArray, List.set_cons_zero, List.set_cons_succ]
            refine oneE (i := 10) (by kernel_rfl) rfl (fun K hK => ?_)
            go_simp
            refine hK.out _ _ ?_ (fun hHeld10 => ?_)
            · exact fun h => absurd rfl h
            clear hK hHeld10
            try simp only [List.setIfInBounds_toArray, List.set_cons_zero, List.set_cons_succ]
            refine doneE (by kernel_rfl) ?_ _
            obtain ⟨hch, hcb2⟩ := BgQ.ch (s := x.s) (hI.up (M' := 2000) (L' := 60) (by omega) (by omega)) hXs (by omega) hW3
            have hro2 : ∀ r ∈ rs ++ [(⟨x.s, Wn, cs⟩ : R3)], ChR r := fun r hr => by
              rcases List.mem_append.1 hr with hr | hr
              · exact hro r hr
              · rcases List.mem_singleton.1 hr with rfl; exact hch
            have hcb3 : chB (rs ++ [(⟨x.s, Wn, cs⟩ : R3)]) ≤ 2400 * (k + 1) := by rw [chB_push]; dsimp only; omega
            clear hown3 hat hB3 hR2 hO2 hO2' hB hHeld hHeld8 hHeld9 f0 f1 f2 n0 p0 p1 pf al2 far hS hR
            go_wp2
            exact ⟨⟨k + 1, _, _, _, by omega, by simp, by simp; omega, hcb3, hro2, hBp, hD3⟩, by simp [intOf]; omega⟩
      · have hcb' : chB rs ≤ 2400 * (k + 1) := by omega
        go_wp2
        exact ⟨⟨k + 1, rs, us, G, by omega, by simp, by omega, hcb', hro, hB.keep hz1' fun t h1 h2 => hd1.old h2 (by omega), hD1⟩, by simp [intOf]; omega⟩
    · obtain rfl : k = 3 := by omega
      go_wp2_with fail
      refine Calls.mono (l01Once_any 12 B v l wo hD.cur (by omega) (by omega)) ?_
      rintro e w1 ⟨⟨o1, rfl⟩, hd1⟩
      have hD1 := hD.trans hd1
      have hz1' := hd1.chg.size
      have hB1 := hB.keep hz1' fun t h1 h2 => hd1.old h2 (by omega)
      clear hd1 hD hB
      cases o1
      · go_wp2
        go_returns
        exact ⟨⟨_, rs, us, G, rfl, by omega, by omega, hro, hB1⟩, hD1⟩
      · go_wp2_with fail
        refine Calls.mono (pick_lit 2 2 _ B v l w1 _ hD1.cur (by omega) (by omega) (by rfl) rfl) ?_
        rintro e w2 ⟨⟨x, rfl, hx⟩, hd2⟩
        have hD2 := hD1.trans hd2
        have hz2 := hd2.chg.size
        have hB2 := hB1.keep hz2 fun t h1 h2 => hd2.old h2 (by omega)
        clear hd2 hD1 hB1
        go_wp2_with fail
        refine Calls.mono (l02Any_any B v l w2 hD2.cur) ?_
        rintro e w3 ⟨⟨W, ub, cs, us2, G2, rfl, hJ, hBb⟩, hd3⟩
        obtain ⟨ad, cd, rfl⟩ := hBb.shape
        obtain ⟨g2, hR2, hO2⟩ := hBb.rowsF
        have hO2' : ∀ t ∈ g2, w2.heap.size ≤ t := fun t ht => hO2.2.1 t ht
        have hvl := ownsRow_lt hB2.own
        have hGl := hB2.lt
        have hD3 := hD2.trans hd3
        have hz3 := hd3.chg.size
        have hB3 := hB2.keep hz3 fun t h1 h2 => hd3.old h2 (by omega)
        clear hd3 hD2 hB2 hBb
        have al2 : Below w3.heap.size w3 (w3.alloc (.cells #[.string x, .int .i64 W, .slice ad cs.length cd] 73)) := (Below.refl _ _).alloc (Nat.le_refl _) _
        go_wp2_with (at_builtin; refine wpList_append_own_at _ rfl _ _ 25 rfl w.heap.size 73 i0 _ 3 48 Tryz.underlying25 hi hz0 hz1 hz2' rfl (by decide) u5 rs.length (rcs us rs) rfl (hB3.own.alloc _) ⟨w3.heap.size, 0, none⟩ 1 1 [.string x, .int .i64 W, .slice ad cs.length cd] rfl (by simp) ?c1 ?c2 ?c3 ?c4 ?c5 ?_)
        case c1 => exact World.news_of_block (cs := #[.string x, .int .i64 W, .slice ad cs.length cd]) (t := 73) (fr := (0, 0)) (heap_alloc_new w3 _)
        case c2 => simp [Value.oneCell']
        case c3 => unfold maxLen; omega
        case c4 => omega
        case c5 => simp; omega
        intro v5 w5 hown5 hgr5 _ hat5
        have hsz5 := hgr5.size
        simp at hsz5
        have hBp := RelOwn.push (x := ⟨x, W, cs⟩) (hB3.below al2) (hR2.below al2) ⟨hO2.1, fun t ht => by have := hO2' t ht; omega, fun t ht q => (frozen_blk (Below.heap_alloc _ _ _ (hR2.lt t ht))).trans (hO2.2.2 t ht q)⟩ (fun t ht ht' => by have := hO2' t ht'; have := hGl t ht; omega) (fun t ht ht' => by have := hO2' t ht'; have := (hvl t ht).2; omega) hown5 hgr5 (fun t ht => by rcases hat5 with h | h; (left; rw [← h]; exact ht); (right; rw [h] at ht; cases ht; (first | exact Nat.le_refl _ | (simp; done) | (simp; omega))))
        have hD5 : Drew B v l w w5 := drew_grown (hD3.below al2) hgr5 (fun t ht => (hvl t ht).1)
        obtain ⟨hch, hcb2⟩ := BgJ.ch hJ hx
        have hcb3 : chB (rs ++ [(⟨x, W, cs⟩ : R3)]) ≤ 12760 := by rw [chB_push]; dsimp only; omega
        have hro2 : ∀ r ∈ rs ++ [(⟨x, W, cs⟩ : R3)], ChR r := fun r hr => by
          rcases List.mem_append.1 hr with hr | hr
          · exact hro r hr
          · rcases List.mem_singleton.1 hr with rfl; exact hch
        obtain ⟨a5, c5, rfl⟩ := hBp.shape
        clear hown5 hgr5 hat5 hB3 hR2 hO2 hO2' hD3
        go_wp2
        go_returns
        exact ⟨⟨_, _, _, _, rfl, by simp; omega, hcb3, hro2, hBp⟩, hD5⟩
end Go.Proofs.YtbmoimfimeiglaaGreat
namespace Go.Proofs.YtbmoimfimeiglaaGreat
open Go.RowKit
set_option linter.unusedVariables false
theorem results_ct {fn : Func} {a u : Tmp} {t : TypeId} (h : fn.results = #[.cell a t, .tmp u]) (tmps : Array Value) (P : Program) (w : World) (v : Value) (p : Addr) (hp : tmps.getD a undef = .pointer (some p)) (hl : (loadVar t p).run P w = .ok v w) : (results fn tmps).run P w = .ok (.tuple #[v, tmps.getD u undef]) w := by
  have hp2 : tmps[a]?.getD undef = .pointer (some p) := by rw [← hp]; simp
  simp [results, h, hp2, hl, asAddr]
theorem results_c {fn : Func} {a : Tmp} {t : TypeId} (h : fn.results = #[.cell a t]) (tmps : Array Value) (P : Program) (w : World) (v : Value) (p : Addr) (hp : tmps.getD a undef = .pointer (some p)) (hl : (loadVar t p).run P w = .ok v w) : (results fn tmps).run P w = .ok v w := by
  have hp2 : tmps[a]?.getD undef = .pointer (some p) := by rw [← hp]; simp
  simp [results, h, hp2, hl, asAddr]
theorem setB {w : World} {P i : Nat} {cs : Array Value} {v : Value} {t : TypeId} (h : w.heap[P]? = some (.cells cs t (0, 0))) : (w.setCell ⟨P, i, none⟩ v).heap[P]? = some (.cells (cs.setIfInBounds i v) t (0, 0)) := by
  simp [World.setCell, Array.getElem?_modify, h]
end Go.Proofs.YtbmoimfimeiglaaGreat
namespace Go.Proofs.YtbmoimfimeiglaaGreat
open Go.RowKit Go.Deep Go.ChangeShapes Go.WideShapes
set_option linter.unusedVariables false
structure StD (x : T5) : Prop where
  k0 : -1 ≤ x.k
  k1 : x.k ≤ 4
  s : x.s.size ≤ 11
  cl : x.cs.length ≤ 3
  c : ∀ c ∈ x.cs, c.size ≤ 1
  q : x.q.size ≤ 400
  rl : x.rs.length ≤ 4
  r : ∀ r ∈ x.rs, ChR r
  cb : chB x.rs ≤ 12760
theorem StD.setK {k k' : Int} {s q : ByteArray} {cs : List ByteArray} {rs : List R3} (h : StD ⟨k, s, cs, q, rs⟩) (h0 : -1 ≤ k') (h1 : k' ≤ 4) : StD ⟨k', s, cs, q, rs⟩ := ⟨h0, h1, h.s, h.cl, h.c, h.q, h.rl, h.r, h.cb⟩
theorem StD.setS {k : Int} {s s' q : ByteArray} {cs : List ByteArray} {rs : List R3} (h : StD ⟨k, s, cs, q, rs⟩) (h0 : s'.size ≤ 11) : StD ⟨k, s', cs, q, rs⟩ := ⟨h.k0, h.k1, h0, h.cl, h.c, h.q, h.rl, h.r, h.cb⟩
theorem StpOwn.nil' (w : World) (N : Nat) (k : Int) : StpOwn w N (.slice none 0 0) (.slice none 0 0) ⟨k, ⟨#[]⟩, [], ⟨#[]⟩, []⟩ [] [] := by
  refine ⟨⟨none, 0, rfl, Nat.le_refl _, by simp [maxLen], fun _ => rfl, fun x => absurd rfl x⟩, ⟨none, 0, [], rfl, Nat.le_refl _, by simp [maxLen], fun _ => rfl, rfl, fun _ => rfl, fun x => absurd rfl x⟩, by simp [Own, Free], by simp [Own, Free], fun b hb => by cases hb⟩
theorem cells5 {w : World} {b : Nat} {a0 a1 a2 a3 a4 : Value} {t : TypeId} (h : w.heap[b]? = some (.cells #[a0, a1, a2, a3, a4] t (0, 0))) : w.cell? ⟨b, 0, none⟩ = some a0 ∧ w.cell? ⟨b, 1, none⟩ = some a1 ∧ w.cell? ⟨b, 2, none⟩ = some a2 ∧ w.cell? ⟨b, 3, none⟩ = some a3 ∧ w.cell? ⟨b, 4, none⟩ = some a4 ∧ ∀ i, w.frozen? ⟨b, i, none⟩ = false :=
  ⟨by rw [Lib.cell_of_heap h]; rfl, by rw [Lib.cell_of_heap h]; rfl, by rw [Lib.cell_of_heap h]; rfl, by rw [Lib.cell_of_heap h]; rfl, by rw [Lib.cell_of_heap h]; rfl, fun i => Lib.frozen_of_heap h i⟩
theorem load5s {w : World} {R : Nat} {a0 a1 a2 a3 a4 : Value} (c0 : w.cell? ⟨R, 0, none⟩ = some a0) (c1 : w.cell? ⟨R, 1, none⟩ = some a1) (c2 : w.cell? ⟨R, 2, none⟩ = some a2) (c3 : w.cell? ⟨R, 3, none⟩ = some a3) (c4 : w.cell? ⟨R, 4, none⟩ = some a4) : (loadVar 27 ⟨R, 0, none⟩).run Tryz.prog w = .ok (.agg #[a0, a1, a2, a3, a4]) w := by
  simp [go_sem, c0, c1, c2, c3, c4]
structure StW (w wr : World) (S B : Nat) (v : Value) (l : Nat) (k : Int) (s : ByteArray) (cs : List ByteArray) (q : ByteArray) (rs : List R3) (uc ur : Value) (g F : List Nat) : Prop where
  sb : wr.heap[S]? = some (.cells #[.int .i64 k, .string s, uc, .string q, ur] 27 (0, 0))
  rb : wr.heap[w.heap.size]? = some (.cells #[.int .i64 0, .string ⟨#[]⟩, .slice none 0 0, .string ⟨#[]⟩, .slice none 0 0] 27 (0, 0))
  sl : w.heap.size < S
  own : StpOwn wr (S + 1) uc ur ⟨k, s, cs, q, rs⟩ g F
  D : Drew B v l w wr
section
variable {w wr wn : World} {S B : Nat} {v : Value} {l : Nat} {k : Int} {s : ByteArray} {cs : List ByteArray} {q : ByteArray} {rs : List R3} {uc ur : Value} {g F : List Nat}
theorem StW.slt (h : StW w wr S B v l k s cs q rs uc ur g F) : S < wr.heap.size := heap_ltA h.sb
theorem StW.rlt (h : StW w wr S B v l k s cs q rs uc ur g F) : w.heap.size < wr.heap.size := heap_ltA h.rb
theorem StW.drew (h : StW w wr S B v l k s cs q rs uc ur g F) (hd : Drew B v l wr wn) : StW w wn S B v l k s cs q rs uc ur g F := by
  have hB := h.D.lt
  have hs := h.sl
  exact ⟨hd.cellsB h.sb (by omega), hd.cellsB h.rb (by omega), h.sl, h.own.keep hd.chg.size fun b h1 h2 => hd.old h2 (by omega), h.D.trans hd⟩
theorem StW.below (h : StW w wr S B v l k s cs q rs uc ur g F) (hb : Below wr.heap.size wr wn) : StW w wn S B v l k s cs q rs uc ur g F :=
  ⟨(hb.block _ h.slt).trans h.sb, (hb.block _ h.rlt).trans h.rb, h.sl, h.own.below hb, h.D.below hb⟩
theorem StpOwn.setS {i : Nat} {a : Value} {x : T5} (h : StpOwn wr (S + 1) uc ur x g F) : StpOwn (wr.setCell ⟨S, i, none⟩ a) (S + 1) uc ur x g F := h.keep (by simp) fun b h1 _ => Below.heap_setCell _ _ _ _ (by simp; omega)
theorem StW.set0 (h : StW w wr S B v l k s cs q rs uc ur g F) (k' : Int) : StW w (wr.setCell ⟨S, 0, none⟩ (.int .i64 k')) S B v l k' s cs q rs uc ur g F :=
  have hs := h.sl
  ⟨setB (i := 0) h.sb, (Below.heap_setCell _ _ _ _ (by simp; omega)).trans h.rb, h.sl, StpOwn.setS (x := ⟨k', s, cs, q, rs⟩) h.own, h.D.set (p := ⟨S, 0, none⟩) (by simp; omega) _⟩
theorem StW.set1 (h : StW w wr S B v l k s cs q rs uc ur g F) (s' : ByteArray) : StW w (wr.setCell ⟨S, 1, none⟩ (.string s')) S B v l k s' cs q rs uc ur g F :=
  have hs := h.sl
  ⟨setB (i := 1) h.sb, (Below.heap_setCell _ _ _ _ (by simp; omega)).trans h.rb, h.sl, StpOwn.setS (x := ⟨k, s', cs, q, rs⟩) h.own, h.D.set (p := ⟨S, 1, none⟩) (by simp; omega) _⟩
theorem StW.set3 (h : StW w wr S B v l k s cs q rs uc ur g F) (q' : ByteArray) : StW w (wr.setCell ⟨S, 3, none⟩ (.string q')) S B v l k s cs q' rs uc ur g F :=
  have hs := h.sl
  ⟨setB (i := 3) h.sb, (Below.heap_setCell _ _ _ _ (by simp; omega)).trans h.rb, h.sl, StpOwn.setS (x := ⟨k, s, cs, q', rs⟩) h.own, h.D.set (p := ⟨S, 3, none⟩) (by simp; omega) _⟩
theorem StW.set2 (h : StW w wr S B v l k s cs q rs uc ur g F) (uc' : Value) (cs' : List ByteArray) (g' : List Nat) (h1 : StrsF wr uc' cs' g') (h2 : Own wr (S + 1) g') (h3 : ∀ b ∈ g', b ∉ F) : StW w (wr.setCell ⟨S, 2, none⟩ uc') S B v l k s cs' q rs uc' ur g' F :=
  have hs := h.sl
  ⟨setB (i := 2) h.sb, (Below.heap_setCell _ _ _ _ (by simp; omega)).trans h.rb, h.sl, StpOwn.setS (x := ⟨k, s, cs', q, rs⟩) ⟨h1, h.own.2.1, h2, h.own.2.2.2.1, h3⟩, h.D.set (p := ⟨S, 2, none⟩) (by simp; omega) _⟩
theorem StW.set4 (h : StW w wr S B v l k s cs q rs uc ur g F) (ur' : Value) (rs' : List R3) (F' : List Nat) (h1 : RelsF wr ur' rs' F') (h2 : Own wr (S + 1) F') (h3 : ∀ b ∈ g, b ∉ F') : StW w (wr.setCell ⟨S, 4, none⟩ ur') S B v l k s cs q rs' uc ur' g F' :=
  have hs := h.sl
  ⟨setB (i := 4) h.sb, (Below.heap_setCell _ _ _ _ (by simp; omega)).trans h.rb, h.sl, StpOwn.setS (x := ⟨k, s, cs, q, rs'⟩) ⟨h.own.1, h1, h.own.2.2.1, h2, h3⟩, h.D.set (p := ⟨S, 4, none⟩) (by simp; omega) _⟩
theorem StW.fin (h : StW w wr S B v l k s cs q rs uc ur g F) :
    (((((wr.setCell ⟨w.heap.size, 0, none⟩ (.int .i64 k)).setCell ⟨w.heap.size, 1, none⟩ (.string s)).setCell ⟨w.heap.size, 2, none⟩ uc).setCell ⟨w.heap.size, 3, none⟩ (.string q)).setCell ⟨w.heap.size, 4, none⟩ ur).cell? ⟨w.heap.size, 0, none⟩ = some (.int .i64 k) ∧
    (((((wr.setCell ⟨w.heap.size, 0, none⟩ (.int .i64 k)).setCell ⟨w.heap.size, 1, none⟩ (.string s)).setCell ⟨w.heap.size, 2, none⟩ uc).setCell ⟨w.heap.size, 3, none⟩ (.string q)).setCell ⟨w.heap.size, 4, none⟩ ur).cell? ⟨w.heap.size, 1, none⟩ = some (.string s) ∧
    (((((wr.setCell ⟨w.heap.size, 0, none⟩ (.int .i64 k)).setCell ⟨w.heap.size, 1, none⟩ (.string s)).setCell ⟨w.heap.size, 2, none⟩ uc).setCell ⟨w.heap.size, 3, none⟩ (.string q)).setCell ⟨w.heap.size, 4, none⟩ ur).cell? ⟨w.heap.size, 2, none⟩ = some uc ∧
    (((((wr.setCell ⟨w.heap.size, 0, none⟩ (.int .i64 k)).setCell ⟨w.heap.size, 1, none⟩ (.string s)).setCell ⟨w.heap.size, 2, none⟩ uc).setCell ⟨w.heap.size, 3, none⟩ (.string q)).setCell ⟨w.heap.size, 4, none⟩ ur).cell? ⟨w.heap.size, 3, none⟩ = some (.string q) ∧
    (((((wr.setCell ⟨w.heap.size, 0, none⟩ (.int .i64 k)).setCell ⟨w.heap.size, 1, none⟩ (.string s)).setCell ⟨w.heap.size, 2, none⟩ uc).setCell ⟨w.heap.size, 3, none⟩ (.string q)).setCell ⟨w.heap.size, 4, none⟩ ur).cell? ⟨w.heap.size, 4, none⟩ = some ur ∧
    StpOwn (((((wr.setCell ⟨w.heap.size, 0, none⟩ (.int .i64 k)).setCell ⟨w.heap.size, 1, none⟩ (.string s)).setCell ⟨w.heap.size, 2, none⟩ uc).setCell ⟨w.heap.size, 3, none⟩ (.string q)).setCell ⟨w.heap.size, 4, none⟩ ur) w.heap.size uc ur ⟨k, s, cs, q, rs⟩ g F ∧
    Drew B v l w (((((wr.setCell ⟨w.heap.size, 0, none⟩ (.int .i64 k)).setCell ⟨w.heap.size, 1, none⟩ (.string s)).setCell ⟨w.heap.size, 2, none⟩ uc).setCell ⟨w.heap.size, 3, none⟩ (.string q)).setCell ⟨w.heap.size, 4, none⟩ ur) := by
  have hs := h.sl
  have hb : (((((wr.setCell ⟨w.heap.size, 0, none⟩ (.int .i64 k)).setCell ⟨w.heap.size, 1, none⟩ (.string s)).setCell ⟨w.heap.size, 2, none⟩ uc).setCell ⟨w.heap.size, 3, none⟩ (.string q)).setCell ⟨w.heap.size, 4, none⟩ ur).heap[w.heap.size]? = some (.cells #[.int .i64 k, .string s, uc, .string q, ur] 27 (0, 0)) := setB (i := 4) (setB (i := 3) (setB (i := 2) (setB (i := 1) (setB (i := 0) h.rb))))
  obtain ⟨c0, c1, c2, c3, c4, _⟩ := cells5 hb
  refine ⟨c0, c1, c2, c3, c4, (h.own.keep (by simp) fun b h1 _ => ?_).weak (by omega), ((((h.D.set (p := ⟨w.heap.size, 0, none⟩) (Nat.le_refl _) _).set (p := ⟨w.heap.size, 1, none⟩) (Nat.le_refl _) _).set (p := ⟨w.heap.size, 2, none⟩) (Nat.le_refl _) _).set (p := ⟨w.heap.size, 3, none⟩) (Nat.le_refl _) _).set (p := ⟨w.heap.size, 4, none⟩) (Nat.le_refl _) _⟩
  iterate 5 rw [Below.heap_setCell _ _ _ _ (by simp; omega)]
end
def StOut (B : Nat) (v : Value) (l : Nat) (w : World) (e : Ending) (w' : World) : Prop := (∃ (x : T5) (uc ur : Value) (g F : List Nat), e = .returned (.agg #[.int .i64 x.k, .string x.s, uc, .string x.q, ur]) ∧ StpOwn w' w.heap.size uc ur x g F ∧ StD x) ∧ Drew B v l w w'
theorem StOut.of {B : Nat} {v : Value} {l : Nat} {w w' : World} {k : Int} {s q : ByteArray} {cs : List ByteArray} {rs : List R3} {uc ur : Value} {g F : List Nat} (h : StpOwn w' w.heap.size uc ur ⟨k, s, cs, q, rs⟩ g F) (hX : StD ⟨k, s, cs, q, rs⟩) (hD : Drew B v l w w') : StOut B v l w (.returned (.agg #[.int .i64 k, .string s, uc, .string q, ur])) w' :=
  ⟨⟨⟨k, s, cs, q, rs⟩, uc, ur, g, F, rfl, h, hX⟩, hD⟩
theorem strs_blk {w : World} {b : Nat} {cs : List ByteArray} {t : TypeId} (h : w.heap[b]? = some (.cells (cs.map Value.string).toArray t (0, 0))) (hl : cs.length ≤ maxLen) : StrsF w (.slice (some ⟨b, 0, none⟩) cs.length cs.length) cs [b] ∨ cs = [] := by
  by_cases hne : cs = []
  · exact .inr hne
  refine .inl ⟨_, _, rfl, Nat.le_refl _, hl, fun e => absurd e hne, fun _ => ⟨b, 0, rfl, heap_ltA h, rfl, fun i n hn => ?_⟩⟩
  rw [Lib.cell_of_heap h]
  simp [hn]
theorem four_allocs (w : World) (A B C D : Obj) : ((((w.alloc A).alloc B).alloc C).alloc D).heap[w.heap.size]? = some A ∧ ((((w.alloc A).alloc B).alloc C).alloc D).heap[w.heap.size + 1]? = some B ∧ ((((w.alloc A).alloc B).alloc C).alloc D).heap[w.heap.size + 2]? = some C ∧ ((((w.alloc A).alloc B).alloc C).alloc D).heap[w.heap.size + 3]? = some D := by
  have a0 := heap_alloc_new w A
  have a1 := heap_alloc_new (w.alloc A) B
  have a2 := heap_alloc_new ((w.alloc A).alloc B) C
  have a3 := heap_alloc_new (((w.alloc A).alloc B).alloc C) D
  simp only [World.size_alloc] at a1 a2 a3
  refine ⟨?_, ?_, ?_, a3⟩
  · exact (heap_alloc_old _ _ (by simp <;> omega)).trans ((heap_alloc_old _ _ (by simp <;> omega)).trans ((heap_alloc_old _ _ (by simp)).trans a0))
  · exact (heap_alloc_old _ _ (by simp <;> omega)).trans ((heap_alloc_old _ _ (by simp)).trans a1)
  · exact (heap_alloc_old _ _ (by simp)).trans a2
theorem lit_cols (w3 : World) (iN : Nat) (hi : iN < 3) : ∃ (gb : Nat) (cs : List ByteArray), w3.heap.size ≤ gb ∧ cs.length ≤ 3 ∧ (∀ c ∈ cs, c.size ≤ 1) ∧ ((((w3.alloc (.cells #[.string ⟨#[120]⟩] 9)).alloc (.cells #[.string ⟨#[121]⟩, .string ⟨#[122]⟩] 9)).alloc (.cells #[.string ⟨#[120]⟩, .string ⟨#[121]⟩, .string ⟨#[122]⟩] 9)).alloc (.cells #[.slice (some ⟨w3.heap.size, 0, none⟩) 1 1, .slice (some ⟨w3.heap.size + 1, 0, none⟩) 2 2, .slice (some ⟨w3.heap.size + 2, 0, none⟩) 3 3] 24)).cell? ⟨w3.heap.size + 3, iN, none⟩ = some (.slice (some ⟨gb, 0, none⟩) cs.length cs.length) ∧ gb < ((((w3.alloc (.cells #[.string ⟨#[120]⟩] 9)).alloc (.cells #[.string ⟨#[121]⟩, .string ⟨#[122]⟩] 9)).alloc (.cells #[.string ⟨#[120]⟩, .string ⟨#[121]⟩, .string ⟨#[122]⟩] 9)).alloc (.cells #[.slice (some ⟨w3.heap.size, 0, none⟩) 1 1, .slice (some ⟨w3.heap.size + 1, 0, none⟩) 2 2, .slice (some ⟨w3.heap.size + 2, 0, none⟩) 3 3] 24)).heap.size ∧ StrsF ((((w3.alloc (.cells #[.string ⟨#[120]⟩] 9)).alloc (.cells #[.string ⟨#[121]⟩, .string ⟨#[122]⟩] 9)).alloc (.cells #[.string ⟨#[120]⟩, .string ⟨#[121]⟩, .string ⟨#[122]⟩] 9)).alloc (.cells #[.slice (some ⟨w3.heap.size, 0, none⟩) 1 1, .slice (some ⟨w3.heap.size + 1, 0, none⟩) 2 2, .slice (some ⟨w3.heap.size + 2, 0, none⟩) 3 3] 24)) (.slice (some ⟨gb, 0, none⟩) cs.length cs.length) cs [gb] ∧ Own ((((w3.alloc (.cells #[.string ⟨#[120]⟩] 9)).alloc (.cells #[.string ⟨#[121]⟩, .string ⟨#[122]⟩] 9)).alloc (.cells #[.string ⟨#[120]⟩, .string ⟨#[121]⟩, .string ⟨#[122]⟩] 9)).alloc (.cells #[.slice (some ⟨w3.heap.size, 0, none⟩) 1 1, .slice (some ⟨w3.heap.size + 1, 0, none⟩) 2 2, .slice (some ⟨w3.heap.size + 2, 0, none⟩) 3 3] 24)) w3.heap.size [gb] := by
  obtain ⟨h0, h1, h2, h3⟩ := four_allocs w3 (.cells #[.string ⟨#[120]⟩] 9) (.cells #[.string ⟨#[121]⟩, .string ⟨#[122]⟩] 9) (.cells #[.string ⟨#[120]⟩, .string ⟨#[121]⟩, .string ⟨#[122]⟩] 9) (.cells #[.slice (some ⟨w3.heap.size, 0, none⟩) 1 1, .slice (some ⟨w3.heap.size + 1, 0, none⟩) 2 2, .slice (some ⟨w3.heap.size + 2, 0, none⟩) 3 3] 24)
  generalize ((((w3.alloc (.cells #[.string ⟨#[120]⟩] 9)).alloc (.cells #[.string ⟨#[121]⟩, .string ⟨#[122]⟩] 9)).alloc (.cells #[.string ⟨#[120]⟩, .string ⟨#[121]⟩, .string ⟨#[122]⟩] 9)).alloc (.cells #[.slice (some ⟨w3.heap.size, 0, none⟩) 1 1, .slice (some ⟨w3.heap.size + 1, 0, none⟩) 2 2, .slice (some ⟨w3.heap.size + 2, 0, none⟩) 3 3] 24)) = wP at *
  have own : ∀ b, w3.heap.size ≤ b → (∀ i, wP.frozen? ⟨b, i, none⟩ = false) → Own wP w3.heap.size [b] := fun b hb hf => ⟨by simp, fun c hc => by rcases List.mem_singleton.1 hc with rfl; exact hb, fun c hc i => by rcases List.mem_singleton.1 hc with rfl; exact hf i⟩
  have hm : 3 ≤ maxLen := by unfold maxLen; omega
  rcases iN with _ | _ | _ | n
  · exact ⟨w3.heap.size, [⟨#[120]⟩], Nat.le_refl _, by simp, by decide, by rw [Lib.cell_of_heap h3]; rfl, heap_ltA h0, (strs_blk (cs := [⟨#[120]⟩]) h0 (by simp; omega)).resolve_right (by simp), own _ (Nat.le_refl _) fun i => Lib.frozen_of_heap h0 i⟩
  · exact ⟨w3.heap.size + 1, [⟨#[121]⟩, ⟨#[122]⟩], by omega, by simp, by decide, by rw [Lib.cell_of_heap h3]; rfl, heap_ltA h1, (strs_blk (cs := [⟨#[121]⟩, ⟨#[122]⟩]) h1 (by simp; omega)).resolve_right (by simp), own _ (by omega) fun i => Lib.frozen_of_heap h1 i⟩
  · exact ⟨w3.heap.size + 2, [⟨#[120]⟩, ⟨#[121]⟩, ⟨#[122]⟩], by omega, by simp, by decide, by rw [Lib.cell_of_heap h3]; rfl, heap_ltA h2, (strs_blk (cs := [⟨#[120]⟩, ⟨#[121]⟩, ⟨#[122]⟩]) h2 (by simp; omega)).resolve_right (by simp), own _ (by omega) fun i => Lib.frozen_of_heap h2 i⟩
  · omega
end Go.Proofs.YtbmoimfimeiglaaGreat
