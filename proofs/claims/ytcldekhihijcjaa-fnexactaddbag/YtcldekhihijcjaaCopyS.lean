/- Own text. A bag that is copied by the model: the contract of spec.l02Copy. -/
import Derived.Test.YtcldekhihijcjaaCopyB
namespace Go.Proofs.Ytcldekhihijcjaa
open Go.RowKit Go.Deep Go.ChangeShapes Go.WideShapes
set_option linter.unusedVariables false
set_option maxHeartbeats 4000000 in
set_option maxRecDepth 100000 in
theorem l02Copy_any (W : Int) (v : Value) (cs : List C2) (F : List Nat) (w : World) (hr : RowsF w v cs F) (hn : wtb cs ≤ 1048576) :
    Calls Try.prog 39 #[.agg #[.int .i64 W, v]] w fun e w' => (∃ u us G, e = .returned (.agg #[.int .i64 W, u]) ∧ BagOwn w' w.heap.size u cs us G) ∧ Below w.heap.size w w' := by
  obtain ⟨i0, hi, hz0, hz1, hz2⟩ := info_parts Try.infoCnt
  obtain ⟨a, c, b, o, G0, rfl, hl, hc, _, hG0, _, hC, ha⟩ := hr.pick
  unfold maxLen at hc
  clear hr
  have hn1 : cs.length ≤ 1048576 := by unfold wtb at hn; omega
  go_enter Try.func39, Try.ntmps39
  go_wp2
  go_loopw [4] (fun i wr => ∃ (k : Nat) (y : Value) (us : List Value) (G : List (List Nat)), k ≤ cs.length ∧ i = .int .i64 k ∧ wr.cell? ⟨w.heap.size, 0, none⟩ = some (.int .i64 W) ∧ wr.cell? ⟨w.heap.size, 1, none⟩ = some (.slice a cs.length c) ∧ wr.cell? ⟨w.heap.size + 1 + 1, 0, none⟩ = some (.int .i64 W) ∧ wr.cell? ⟨w.heap.size + 1 + 1, 1, none⟩ = some y ∧ (∀ q, wr.frozen? ⟨w.heap.size + 1 + 1, q, none⟩ = false) ∧ wr.cell? ⟨w.heap.size + 1, 0, none⟩ = some (.int .i64 0) ∧ wr.cell? ⟨w.heap.size + 1, 1, none⟩ = some (.slice none 0 0) ∧ (∀ q, wr.frozen? ⟨w.heap.size + 1, q, none⟩ = false) ∧ BagOwn wr (w.heap.size + 1 + 1 + 1) y (cs.take k) us G ∧ Below w.heap.size w wr ∧ w.heap.size + 1 + 1 + 1 ≤ wr.heap.size) (fun i _ => cs.length - (intOf i).toNat)
  case atStart =>
    refine ⟨0, .slice none 0 0, [], [], Nat.zero_le _, rfl, by go_simp, by go_simp, by go_simp, by go_simp, fun q => by go_simp, by go_simp, by go_simp, fun q => by go_simp, BagOwn.nil _ _, by repeat (first | (with_reducible exact Below.refl _ _) | (with_reducible refine Below.drew ?_) | (with_reducible refine Below.alloc ?_ ?hh _; case hh => first | (simp; done) | (simp; omega) | omega) | (with_reducible refine Below.setCell ?_ ?hh _; case hh => first | (simp; done) | (simp; omega) | omega) | refine bstep (by assumption) (by first | (simp; done) | (simp; omega) | omega) ?_), by simp⟩
  case round =>
    obtain ⟨k, y, us, G, hk, rfl, b0, b1, p0, p1, pf, r0, r1, rf, hB, hb, hzb⟩ := hrel
    by_cases hlt : k < cs.length
    · obtain ⟨rfl, hblt, _⟩ := ha k hlt
      obtain ⟨x, u0, g0, hx, _, c0, hR, c1, hbr⟩ := hC.at hG0 hblt hb hlt
      obtain ⟨a0, n0, rfl⟩ := hR.shape
      have HX : Hid (cs[k]? = some x) := hx
      have hxn : x.r.length ≤ 1048576 := by have := wt_mem (List.mem_of_getElem? hx); unfold wt at this; unfold wtb at hn; omega
      have htk : (cs.take k).length = k := by simp; omega
      have hvl := ownsRow_lt hB.own
      have hv2 : y.ownBlock ≠ some (w.heap.size + 1 + 1) := fun e => by have := (hvl _ e).1; omega
      have hvr : y.ownBlock ≠ some (w.heap.size + 1) := fun e => by have := (hvl _ e).1; omega
      have hvT : ∀ b, b ≤ w.heap.size → y.ownBlock ≠ some b := fun b hb e => by have := (hvl _ e).1; omega
      have hkI : (k : Int) < cs.length := by omega
      have hGl := hB.lt
      have HT : Hid (cs.take (k + 1) = cs.take k ++ [x]) := take_snoc hx
      generalize cs.take k = ct at *
      have hml : ct.length + 1 ≤ maxLen := by unfold maxLen; omega
      have hby : (ct.length + 1) * 32 ≤ 140737488355328 := by omega
      clear ha hC hx htk hvl
      go_wp2_with fail
      -- region
      refine startE 19 (fun w' => w'.cell? ⟨w.heap.size + 1 + 1, 1, none⟩ = some y ∧ w'.cell? ⟨w.heap.size, 1, none⟩ = some (.slice (some ⟨b, o, none⟩) cs.length c) ∧ w'.cell? ⟨b, o + k * 2, none⟩ = some (.slice a0 x.r.length n0) ∧ w'.cell? ⟨b, o + k * 2 + 1, none⟩ = some (.int .i64 x.n)) (by kernel_rfl) ?_ (fun hHeld => ?_)
      · (try dsimp only)
        exact ⟨p1, b1, c0, c1⟩
      refine takeE (i := 0) (d := 15) (v := ?_) rfl rfl (by kernel_rfl) (by kernel_rfl) (by kernel_rfl) (by kernel_rfl) (fun _ _ _ h => h) (by rfl) (by assumption) ?_ ?_
      rotate_left
      · intro w' hSw; (try dsimp only at hSw); go_simp; try exact rfl
      try simp only [List.setIfInBounds_toArray, List.set_cons_zero, List.set_cons_succ]
      refine takeE (i := 1) (d := 16) (v := ?_) rfl rfl (by kernel_rfl) (by kernel_rfl) (by kernel_rfl) (by kernel_rfl) (fun _ _ _ h => h) (by rfl) (by assumption) ?_ ?_
      rotate_left
      · intro w' hSw; (try dsimp only at hSw); go_simp; try exact rfl
      try simp only [List.setIfInBounds_toArray, List.set_cons_zero, List.set_cons_succ]
      refine takeE (i := 2) (d := 17) (v := ?_) rfl rfl (by kernel_rfl) (by kernel_rfl) (by kernel_rfl) (by kernel_rfl) (fun _ _ _ h => h) (by rfl) (by assumption) ?_ ?_
      rotate_left
      · intro w' hSw; (try dsimp only at hSw); go_simp; try exact rfl
      try simp only [List.setIfInBounds_toArray, List.set_cons_zero, List.set_cons_succ]
      refine takeE (i := 3) (d := 18) (v := ?_) rfl rfl (by kernel_rfl) (by kernel_rfl) (by kernel_rfl) (by kernel_rfl) (fun _ _ _ h => h) (by rfl) (by assumption) ?_ ?_
      rotate_left
      · intro w' hSw; (try dsimp only at hSw); go_simp; try exact rfl
      try simp only [List.setIfInBounds_toArray, List.set_cons_zero, List.set_cons_succ]
      refine takeE (i := 4) (d := 19) (v := ?_) rfl rfl (by kernel_rfl) (by kernel_rfl) (by kernel_rfl) (by kernel_rfl) (fun _ _ _ h => h) (by rfl) (by assumption) ?_ ?_
      rotate_left
      · intro w' hSw; (try dsimp only at hSw); go_simp; try exact rfl
      try simp only [List.setIfInBounds_toArray, List.set_cons_zero, List.set_cons_succ]
      refine takeE (i := 5) (d := 20) (v := ?_) rfl rfl (by kernel_rfl) (by kernel_rfl) (by kernel_rfl) (by kernel_rfl) (fun _ _ _ h => h) (by rfl) (by assumption) ?_ ?_
      rotate_left
      · intro w' hSw; (try dsimp only at hSw); go_simp; try exact rfl
      try simp only [List.setIfInBounds_toArray, List.set_cons_zero, List.set_cons_succ]
      refine takeE (i := 6) (d := 21) (v := ?_) rfl rfl (by kernel_rfl) (by kernel_rfl) (by kernel_rfl) (by kernel_rfl) (fun _ _ _ h => h) (by rfl) (by assumption) ?_ ?_
      rotate_left
      · intro w' hSw; (try dsimp only at hSw); go_simp; try exact rfl
      try simp only [List.setIfInBounds_toArray, List.set_cons_zero, List.set_cons_succ]
      refine takeE (i := 7) (d := 22) (v := ?_) rfl rfl (by kernel_rfl) (by kernel_rfl) (by kernel_rfl) (by kernel_rfl) (fun _ _ _ h => h) (by rfl) (by assumption) ?_ ?_
      rotate_left
      · intro w' hSw; (try dsimp only at hSw); go_simp; try exact rfl
      try simp only [List.setIfInBounds_toArray, List.set_cons_zero, List.set_cons_succ]
      refine takeE (i := 9) (d := 24) (v := ?_) rfl rfl (by kernel_rfl) (by kernel_rfl) (by kernel_rfl) (by kernel_rfl) (fun _ _ _ h => h) (by rfl) (by assumption) ?_ ?_
      rotate_left
      · intro w' hSw; (try dsimp only at hSw); go_simp; try exact rfl
      try simp only [List.setIfInBounds_toArray, List.set_cons_zero, List.set_cons_succ]
      refine takeE (i := 10) (d := 25) (v := ?_) rfl rfl (by kernel_rfl) (by kernel_rfl) (by kernel_rfl) (by kernel_rfl) (fun _ _ _ h => h) (by rfl) (by assumption) ?_ ?_
      rotate_left
      · intro w' hSw; (try dsimp only at hSw); go_simp; try exact rfl
      try simp only [List.setIfInBounds_toArray, List.set_cons_zero, List.set_cons_succ]
      refine takeE (i := 11) (d := 26) (v := ?_) rfl rfl (by kernel_rfl) (by kernel_rfl) (by kernel_rfl) (by kernel_rfl) (fun _ _ _ h => h) (by rfl) (by assumption) ?_ ?_
      rotate_left
      · intro w' hSw; (try dsimp only at hSw); go_simp; try exact rfl
      try simp only [List.setIfInBounds_toArray, List.set_cons_zero, List.set_cons_succ]
      refine takeE (i := 12) (d := 27) (v := ?_) rfl rfl (by kernel_rfl) (by kernel_rfl) (by kernel_rfl) (by kernel_rfl) (fun _ _ _ h => h) (by rfl) (by assumption) ?_ ?_
      rotate_left
      · intro w' hSw; (try dsimp only at hSw); go_simp; try exact rfl
      try simp only [List.setIfInBounds_toArray, List.set_cons_zero, List.set_cons_succ]
      refine takeE (i := 13) (d := 28) (v := ?_) rfl rfl (by kernel_rfl) (by kernel_rfl) (by kernel_rfl) (by kernel_rfl) (fun _ _ _ h => h) (by rfl) (by assumption) ?_ ?_
      rotate_left
      · intro w' hSw; (try dsimp only at hSw); go_simp; try exact rfl
      try simp only [List.setIfInBounds_toArray, List.set_cons_zero, List.set_cons_succ]
      refine takeE (i := 14) (d := 29) (v := ?_) rfl rfl (by kernel_rfl) (by kernel_rfl) (by kernel_rfl) (by kernel_rfl) (fun _ _ _ h => h) (by rfl) (by assumption) ?_ ?_
      rotate_left
      · intro w' hSw; (try dsimp only at hSw); go_simp; try exact rfl
      try simp only [List.setIfInBounds_toArray, List.set_cons_zero, List.set_cons_succ]
      refine oneE (i := 8) (by kernel_rfl) rfl (fun K hK => ?_)
      go_simp
      go_at_call 56
      refine Calls.mono (l02CopyRow_any (.slice a0 x.r.length n0) x.r g0 _ (hR.below ?hbb) hxn) ?_
      case hbb => repeat (first | (with_reducible exact Below.refl _ _) | (with_reducible refine Below.drew ?_) | (with_reducible refine Below.alloc ?_ ?hh _; case hh => first | (simp; done) | (simp; omega) | omega) | (with_reducible refine Below.setCell ?_ ?hh _; case hh => first | (simp; done) | (simp; omega) | omega) | refine bstep (by assumption) (by first | (simp; done) | (simp; omega) | omega) ?_)
      rintro e w2 ⟨⟨u2, g2, rfl, hR2, hO2⟩, hb2⟩
      obtain ⟨a2, n2, rfl⟩ := hR2.shape
      have hzw2 := hb2.size
      rw [show wr.drew.heap.size = wr.heap.size from rfl] at hzw2
      have bel2 : Below wr.heap.size wr w2 := by repeat (first | (with_reducible exact Below.refl _ _) | (with_reducible refine Below.drew ?_) | (with_reducible refine Below.alloc ?_ ?hh _; case hh => first | (simp; done) | (simp; omega) | omega) | (with_reducible refine Below.setCell ?_ ?hh _; case hh => first | (simp; done) | (simp; omega) | omega) | refine bstep (by assumption) (by first | (simp; done) | (simp; omega) | omega) ?_)
      have hB2 := hB.below bel2
      have pf2 : ∀ q, w2.frozen? ⟨w.heap.size + 1 + 1, q, none⟩ = false := fun q => ((bcell bel2).2 _ q (by omega)).trans (pf q)
      have rf2 : ∀ q, w2.frozen? ⟨w.heap.size + 1, q, none⟩ = false := fun q => ((bcell bel2).2 _ q (by omega)).trans (rf q)
      have p02 := ((bcell bel2).1 (w.heap.size + 1 + 1) 0 (by omega)).trans p0
      have p12 := ((bcell bel2).1 (w.heap.size + 1 + 1) 1 (by omega)).trans p1
      have r02 := ((bcell bel2).1 (w.heap.size + 1) 0 (by omega)).trans r0
      have r12 := ((bcell bel2).1 (w.heap.size + 1) 1 (by omega)).trans r1
      have b02 := ((bcell bel2).1 w.heap.size 0 (by omega)).trans b0
      have b12 := ((bcell bel2).1 w.heap.size 1 (by omega)).trans b1
      have c02 := ((bcell bel2).1 b (o + k * 2) (by omega)).trans c0
      have c12 := ((bcell bel2).1 b (o + k * 2 + 1) (by omega)).trans c1
      try go_wp2_with fail
      refine hK.out _ _ ?_ (fun hHeld8 => ?_)
      · intro _
        (try dsimp only)
        exact ⟨p12, b12, c02, c12⟩
      clear hK
      replace hHeld8 := hHeld8 (by decide)
      try simp only [List.setIfInBounds_toArray, List.set_cons_zero, List.set_cons_succ]
      refine takeE (i := 15) (d := 30) (v := ?_) rfl rfl (by kernel_rfl) (by kernel_rfl) (by kernel_rfl) (by kernel_rfl) (fun _ _ _ h => h) (by rfl) (by assumption) ?_ ?_
      rotate_left
      · intro w' hSw; (try dsimp only at hSw); go_simp; try exact rfl
      try simp only [List.setIfInBounds_toArray, List.set_cons_zero, List.set_cons_succ]
      refine oneE (i := 16) (by kernel_rfl) rfl (fun K hK => ?_)
      go_simp
      refine hK.out _ _ ?_ (fun hHeld16 => ?_)
      · intro _
        (try dsimp only)
        exact ⟨(cell_blk (Below.heap_alloc w2 _ _ (by omega))).trans p12, (cell_blk (Below.heap_alloc w2 _ _ (by omega))).trans b12, (cell_blk (Below.heap_alloc w2 _ _ (by omega))).trans c02, (cell_blk (Below.heap_alloc w2 _ _ (by omega))).trans c12⟩
      clear hK
      replace hHeld16 := hHeld16 (by decide)
      try simp only [List.setIfInBounds_toArray, List.set_cons_zero, List.set_cons_succ]
      refine oneE (i := 17) (by kernel_rfl) rfl (fun K hK => ?_)
      refine step_append_lies _ (by rfl) _ _ _ (by rfl) (w.heap.size + 1 + 1 + 1) 85 i0 _ 2 32 Try.underlying24 hi hz0 hz1 hz2 rfl (by omega) y ct.length (cc us ct) (by rfl) (hB2.own.alloc _) ⟨w2.heap.size, 0, none⟩ 1 1 [.slice a2 x.r.length n2, .int .i64 x.n] (by rfl) (by rfl) (World.news_of_block (cs := #[.slice a2 x.r.length n2, .int .i64 x.n]) (t := 85) (fr := (0, 0)) (heap_alloc_new w2 _)) (by simp [Value.oneCell']) (by omega) hml hby (by simp; omega) (w2.heap.size + 1) (by simp) ?_
      intro gg cap w3 hown3 hgrow hat hlt3
      have hz3 := hgrow.size
      simp at hz3
      have far : ∀ b q, b < w2.heap.size → y.ownBlock ≠ some b → w3.cell? ⟨b, q, none⟩ = w2.cell? ⟨b, q, none⟩ := fun b q hb hne => (hgrow.cell_far _ (by simp; omega) (Ne.symm hne)).trans (cell_blk (Below.heap_alloc _ _ _ hb))
      have farf : ∀ b q, b < w2.heap.size → y.ownBlock ≠ some b → w3.frozen? ⟨b, q, none⟩ = w2.frozen? ⟨b, q, none⟩ := fun b q hb hne => (hgrow.frozen_far _ (by simp; omega) (Ne.symm hne)).trans (frozen_blk (Below.heap_alloc _ _ _ hb))
      have pf3 : ∀ q, w3.frozen? ⟨w.heap.size + 1 + 1, q, none⟩ = false := fun q => (farf _ q (by omega) hv2).trans (pf2 q)
      have rf3 : ∀ q, w3.frozen? ⟨w.heap.size + 1, q, none⟩ = false := fun q => (farf _ q (by omega) hvr).trans (rf2 q)
      have p03 := (far (w.heap.size + 1 + 1) 0 (by omega) hv2).trans p02
      have p13 := (far (w.heap.size + 1 + 1) 1 (by omega) hv2).trans p12
      have r03 := (far (w.heap.size + 1) 0 (by omega) hvr).trans r02
      have r13 := (far (w.heap.size + 1) 1 (by omega) hvr).trans r12
      have hBp := BagOwn.push (hB2.below ((Below.refl _ _).alloc (Nat.le_refl _) (.cells #[.slice a2 x.r.length n2, .int .i64 x.n] 85))) (hR2.below ((Below.refl _ _).alloc (Nat.le_refl _) _)) ⟨hO2.1, fun b hb => by have := hO2.2.1 b hb; have : wr.drew.heap.size = wr.heap.size := rfl; omega, fun b hb q => (frozen_blk (Below.heap_alloc _ _ _ (hR2.lt b hb))).trans (hO2.2.2 b hb q)⟩ (fun b hb hb' => by have := hO2.2.1 b hb'; have := hGl b hb; simp at *; omega) (fun b hb hb' => by have := hO2.2.1 b hb'; have := (ownsRow_lt hB.own b hb).2; simp at *; omega) hown3 hgrow (fun b hb => by simp [Value.ownBlock] at hb; subst hb; rcases hat with h | h; exact .inl h; exact .inr (by simp; omega))
      have bel3 : Below w.heap.size w w3 := Below.grown (by repeat (first | (with_reducible exact Below.refl _ _) | (with_reducible refine Below.drew ?_) | (with_reducible refine Below.alloc ?_ ?hh _; case hh => first | (simp; done) | (simp; omega) | omega) | (with_reducible refine Below.setCell ?_ ?hh _; case hh => first | (simp; done) | (simp; omega) | omega) | refine bstep (by assumption) (by first | (simp; done) | (simp; omega) | omega) ?_)) hgrow (by simp; omega) (fun b hb => by have := (ownsRow_lt hB.own b hb).1; omega)
      have b03 := (far w.heap.size 0 (by omega) (hvT _ (Nat.le_refl _))).trans b02
      have b13 := (far w.heap.size 1 (by omega) (hvT _ (Nat.le_refl _))).trans b12
      have c03 := (far b (o + k * 2) (by omega) (hvT _ (by omega))).trans c02
      have c13 := (far b (o + k * 2 + 1) (by omega) (hvT _ (by omega))).trans c12
      refine hK.out _ _ ?_ (fun hHeld17 => ?_)
      · intro _
        (try dsimp only)
        exact ⟨p13, b13, c03, c13⟩
      clear hK
      replace hHeld17 := hHeld17 (by decide)
      try simp only [List.setIfInBounds_toArray, List.set_cons_zero, List.set_cons_succ]
      refine takeE (i := 18) (d := 33) (v := ?_) rfl rfl (by kernel_rfl) (by kernel_rfl) (by kernel_rfl) (by kernel_rfl) (fun _ _ _ h => h) (by rfl) (by assumption) ?_ ?_
      rotate_left
      · intro w' hSw; (try dsimp only at hSw); go_simp; try exact rfl
      try simp only [List.setIfInBounds_toArray, List.set_cons_zero, List.set_cons_succ]
      refine oneE (i := 19) (by kernel_rfl) rfl (fun K hK => ?_)
      go_simp
      refine hK.out _ _ ?_ (fun hHeld19 => ?_)
      · exact fun h => absurd rfl h
      clear hK hHeld19
      try simp only [List.setIfInBounds_toArray, List.set_cons_zero, List.set_cons_succ]
      refine doneE (by kernel_rfl) ?_ _
      -- end of the region
      have Q0 : (w3.setCell ⟨w.heap.size + 1 + 1, 1, none⟩ (.slice (some ⟨gg, 0, none⟩) (ct.length + 1) cap)).cell? ⟨w.heap.size, 0, none⟩ = some (.int .i64 W) := (World.cell?_setCell_other _ _ _ _ (by simp; try omega)).trans b03
      have Q1 : (w3.setCell ⟨w.heap.size + 1 + 1, 1, none⟩ (.slice (some ⟨gg, 0, none⟩) (ct.length + 1) cap)).cell? ⟨w.heap.size, 1, none⟩ = some (.slice (some ⟨b, o, none⟩) cs.length c) := (World.cell?_setCell_other _ _ _ _ (by simp; try omega)).trans b13
      have P0 : (w3.setCell ⟨w.heap.size + 1 + 1, 1, none⟩ (.slice (some ⟨gg, 0, none⟩) (ct.length + 1) cap)).cell? ⟨w.heap.size + 1 + 1, 0, none⟩ = some (.int .i64 W) := (World.cell?_setCell_other _ _ _ _ (by simp)).trans p03
      have P1 : (w3.setCell ⟨w.heap.size + 1 + 1, 1, none⟩ (.slice (some ⟨gg, 0, none⟩) (ct.length + 1) cap)).cell? ⟨w.heap.size + 1 + 1, 1, none⟩ = some (.slice (some ⟨gg, 0, none⟩) (ct.length + 1) cap) := World.cell?_setCell_same _ _ _ p13
      have PF : ∀ q, (w3.setCell ⟨w.heap.size + 1 + 1, 1, none⟩ (.slice (some ⟨gg, 0, none⟩) (ct.length + 1) cap)).frozen? ⟨w.heap.size + 1 + 1, q, none⟩ = false := fun q => by simpa using pf3 q
      have R0 : (w3.setCell ⟨w.heap.size + 1 + 1, 1, none⟩ (.slice (some ⟨gg, 0, none⟩) (ct.length + 1) cap)).cell? ⟨w.heap.size + 1, 0, none⟩ = some (.int .i64 0) := (World.cell?_setCell_other _ _ _ _ (by simp)).trans r03
      have R1 : (w3.setCell ⟨w.heap.size + 1 + 1, 1, none⟩ (.slice (some ⟨gg, 0, none⟩) (ct.length + 1) cap)).cell? ⟨w.heap.size + 1, 1, none⟩ = some (.slice none 0 0) := (World.cell?_setCell_other _ _ _ _ (by simp)).trans r13
      have RF : ∀ q, (w3.setCell ⟨w.heap.size + 1 + 1, 1, none⟩ (.slice (some ⟨gg, 0, none⟩) (ct.length + 1) cap)).frozen? ⟨w.heap.size + 1, q, none⟩ = false := fun q => by simpa using rf3 q
      have hBs := hBp.keep (w' := w3.setCell ⟨w.heap.size + 1 + 1, 1, none⟩ (.slice (some ⟨gg, 0, none⟩) (ct.length + 1) cap)) (by simp) (fun b hb _ => Below.heap_setCell _ _ _ _ (by simp; omega))
      rw [← HT.out] at hBs
      have belS : Below w.heap.size w (w3.setCell ⟨w.heap.size + 1 + 1, 1, none⟩ (.slice (some ⟨gg, 0, none⟩) (ct.length + 1) cap)) := bel3.setCell (by simp; omega) _
      have hzS : w.heap.size + 1 + 1 + 1 ≤ (w3.setCell ⟨w.heap.size + 1 + 1, 1, none⟩ (.slice (some ⟨gg, 0, none⟩) (ct.length + 1) cap)).heap.size := by simp; omega
      clear hown3 hgrow hat far farf hBp hB2 hR2 hO2 hb2 hB p03 p13 pf3 r03 r13 rf3
      go_wp2
      exact ⟨⟨k + 1, _, _, _, hlt, by simp, Q0, Q1, P0, P1, PF, R0, R1, RF, hBs, belS, hzS⟩, by simp [intOf]; omega⟩
    · obtain rfl : k = cs.length := by omega
      rw [List.take_length] at hB
      obtain ⟨ay, cy, rfl⟩ := hB.shape
      clear ha hC
      go_wp2
      refine bodyPost_ret (v := .agg #[.int .i64 W, .slice ay cs.length cy]) (by simp [results, Try.results39, go_sem, *]) rfl ⟨⟨_, us, G, rfl, (hB.keep (by simp) fun b hb _ => ?_).weak (by omega)⟩, ?_⟩
      · repeat rw [Below.heap_setCell _ _ _ _ (by simp; omega)]
      · repeat (first | (with_reducible exact hb) | (with_reducible refine Below.setCell ?_ ?hh _; case hh => (simp; try omega)))
end Go.Proofs.Ytcldekhihijcjaa
