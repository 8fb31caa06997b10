/- Own texts, joined: contracts that the law's proof goes by. -/
import Derived.Test.YtobbfmcfibmicaaClfA
import Derived.Test.YtobbfmcfibmicaaMLAddBag1
import Derived.Test.YtobbfmcfibmicaaSumP
import Derived.Test.YtobbfmcfibmicaaBagOkI
import Derived.Test.YtobbfmcfibmicaaTake
import Derived.Handy
import Derived.Deep.RegionHeld3
import Derived.Test.YtobbfmcfibmicaaInvB
import Derived.Test.YtobbfmcfibmicaaWtS
import Derived.Test.YtobbfmcfibmicaaToBF
import Derived.Test.YtobbfmcfibmicaaMarkB
import Derived.WalkKit
import Derived.WalkSpells
import Derived.WalkLawsBesides
import Derived.Below
import Derived.Deep.DeepCutAuto
/- Own text. A bag that is copied by the model: the contract of spec.l02Copy. -/
namespace Go.Proofs.Ytobbfmcfibmicaa
open Go.RowKit Go.Deep Go.ChangeShapes Go.WideShapes
set_option linter.unusedVariables false
set_option maxHeartbeats 4000000 in
set_option maxRecDepth 100000 in
theorem l02Copy_any (W : Int) (v : Value) (cs : List C2) (F : List Nat) (w : World) (hr : RowsF w v cs F) (hn : wtb cs ≤ 1048576) :
    Calls Try.prog 13 #[.agg #[.int .i64 W, v]] w fun e w' => (∃ u us G, e = .returned (.agg #[.int .i64 W, u]) ∧ BagOwn w' w.heap.size u cs us G) ∧ Below w.heap.size w w' := by
  obtain ⟨i0, hi, hz0, hz1, hz2⟩ := info_parts Try.infoCnt
  obtain ⟨a, c, b, o, G0, rfl, hl, hc, _, hG0, _, hC, ha⟩ := hr.pick
  unfold maxLen at hc
  clear hr
  have hn1 : cs.length ≤ 1048576 := by unfold wtb at hn; omega
  go_enter Try.func13, Try.ntmps13
  go_wp2
  go_loopw [4] (fun i wr => ∃ (k : Nat) (y : Value) (us : List Value) (G : List (List Nat)), k ≤ cs.length ∧ i = .int .i64 k ∧ wr.cell? ⟨w.heap.size, 0, none⟩ = some (.int .i64 W) ∧ wr.cell? ⟨w.heap.size, 1, none⟩ = some (.slice a cs.length c) ∧ wr.cell? ⟨w.heap.size + 1 + 1, 0, none⟩ = some (.int .i64 W) ∧ wr.cell? ⟨w.heap.size + 1 + 1, 1, none⟩ = some y ∧ (∀ q, wr.frozen? ⟨w.heap.size + 1 + 1, q, none⟩ = false) ∧ wr.cell? ⟨w.heap.size + 1, 0, none⟩ = some (.int .i64 0) ∧ wr.cell? ⟨w.heap.size + 1, 1, none⟩ = some (.slice none 0 0) ∧ (∀ q, wr.frozen? ⟨w.heap.size + 1, q, none⟩ = false) ∧ BagOwn wr (w.heap.size + 1 + 1 + 1) y (cs.take k) us G ∧ Below w.heap.size w wr ∧ w.heap.size + 1 + 1 + 1 ≤ wr.heap.size) (fun i _ => cs.length - (intOf i).toNat)
  case atStart =>
    refine ⟨0, .slice none 0 0, [], [], Nat.zero_le _, rfl, by go_simp, by go_simp, by go_simp, by go_simp, fun q => by go_simp, by go_simp, by go_simp, fun q => by go_simp, BagOwn.nil _ _, by repeat (first | (with_reducible exact Below.refl _ _) | (with_reducible refine Below.drew ?_) | (with_reducible refine Below.alloc ?_ ?hh _; case hh => first | (simp; done) | (simp; omega) | omega) | (with_reducible refine Below.setCell ?_ ?hh _; case hh => first | (simp; done) | (simp; omega) | omega) | refine bstep (by assumption) (by first | (simp; done) | (simp; omega) | omega) ?_), by simp⟩
  case round =>
    obtain ⟨k, y, us, G, hk, rfl, b0, b1, p0, p1, pf, r0, r1, rf, hB, hb, hzb⟩ := hrel
    by_cases hlt : k < cs.length
    · obtain ⟨rfl, hblt, _⟩ := ha k hlt
      obtain ⟨x, u0, g0, hx, _, c0, hR, c1, hbr⟩ := hC.at hG0 hblt hb hlt
      obtain ⟨a0, n0, rfl⟩ := hR.shape
      have HX : Hid (cs[k]? = some x) := hx
      have hxn : x.r.length ≤ 1048576 := by have := wt_mem (List.mem_of_getElem? hx); unfold wt at this; unfold wtb at hn; omega
      have htk : (cs.take k).length = k := by simp; omega
      have hvl := ownsRow_lt hB.own
      have hv2 : y.ownBlock ≠ some (w.heap.size + 1 + 1) := fun e => by have := (hvl _ e).1; omega
      have hvr : y.ownBlock ≠ some (w.heap.size + 1) := fun e => by have := (hvl _ e).1; omega
      have hvT : ∀ b, b ≤ w.heap.size → y.ownBlock ≠ some b := fun b hb e => by have := (hvl _ e).1; omega
      have hkI : (k : Int) < cs.length := by omega
      have hGl := hB.lt
      have HT : Hid (cs.take (k + 1) = cs.take k ++ [x]) := take_snoc hx
      generalize cs.take k = ct at *
      have hml : ct.length + 1 ≤ maxLen := by unfold maxLen; omega
      have hby : (ct.length + 1) * 32 ≤ 140737488355328 := by omega
      clear ha hC hx htk hvl
      go_wp2_with fail
      -- region
      refine startE 19 (fun w' => w'.cell? ⟨w.heap.size + 1 + 1, 1, none⟩ = some y ∧ w'.cell? ⟨w.heap.size, 1, none⟩ = some (.slice (some ⟨b, o, none⟩) cs.length c) ∧ w'.cell? ⟨b, o + k * 2, none⟩ = some (.slice a0 x.r.length n0) ∧ w'.cell? ⟨b, o + k * 2 + 1, none⟩ = some (.int .i64 x.n)) (by kernel_rfl) ?_ (fun hHeld => ?_)
      · (try dsimp only)
        exact ⟨p1, b1, c0, c1⟩
      refine takeE (i := 0) (d := 15) (v := ?_) rfl rfl (by kernel_rfl) (by kernel_rfl) (by kernel_rfl) (by kernel_rfl) (fun _ _ _ h => h) (by rfl) (by assumption) ?_ ?_
      rotate_left
      · intro w' hSw; (try dsimp only at hSw); go_simp; try exact rfl
      try simp only [List.setIfInBounds_toArray, List.set_cons_zero, List.set_cons_succ]
      refine takeE (i := 1) (d := 16) (v := ?_) rfl rfl (by kernel_rfl) (by kernel_rfl) (by kernel_rfl) (by kernel_rfl) (fun _ _ _ h => h) (by rfl) (by assumption) ?_ ?_
      rotate_left
      · intro w' hSw; (try dsimp only at hSw); go_simp; try exact rfl
      try simp only [List.setIfInBounds_toArray, List.set_cons_zero, List.set_cons_succ]
      refine takeE (i := 2) (d := 17) (v := ?_) rfl rfl (by kernel_rfl) (by kernel_rfl) (by kernel_rfl) (by kernel_rfl) (fun _ _ _ h => h) (by rfl) (by assumption) ?_ ?_
      rotate_left
      · intro w' hSw; (try dsimp only at hSw); go_simp; try exact rfl
      try simp only [List.setIfInBounds_toArray, List.set_cons_zero, List.set_cons_succ]
      refine takeE (i := 3) (d := 18) (v := ?_) rfl rfl (by kernel_rfl) (by kernel_rfl) (by kernel_rfl) (by kernel_rfl) (fun _ _ _ h => h) (by rfl) (by assumption) ?_ ?_
      rotate_left
      · intro w' hSw; (try dsimp only at hSw); go_simp; try exact rfl
      try simp only [List.setIfInBounds_toArray, List.set_cons_zero, List.set_cons_succ]
      refine takeE (i := 4) (d := 19) (v := ?_) rfl rfl (by kernel_rfl) (by kernel_rfl) (by kernel_rfl) (by kernel_rfl) (fun _ _ _ h => h) (by rfl) (by assumption) ?_ ?_
      rotate_left
      · intro w' hSw; (try dsimp only at hSw); go_simp; try exact rfl
      try simp only [List.setIfInBounds_toArray, List.set_cons_zero, List.set_cons_succ]
      refine takeE (i := 5) (d := 20) (v := ?_) rfl rfl (by kernel_rfl) (by kernel_rfl) (by kernel_rfl) (by kernel_rfl) (fun _ _ _ h => h) (by rfl) (by assumption) ?_ ?_
      rotate_left
      · intro w' hSw; (try dsimp only at hSw); go_simp; try exact rfl
      try simp only [List.setIfInBounds_toArray, List.set_cons_zero, List.set_cons_succ]
      refine takeE (i := 6) (d := 21) (v := ?_) rfl rfl (by kernel_rfl) (by kernel_rfl) (by kernel_rfl) (by kernel_rfl) (fun _ _ _ h => h) (by rfl) (by assumption) ?_ ?_
      rotate_left
      · intro w' hSw; (try dsimp only at hSw); go_simp; try exact rfl
      try simp only [List.setIfInBounds_toArray, List.set_cons_zero, List.set_cons_succ]
      refine takeE (i := 7) (d := 22) (v := ?_) rfl rfl (by kernel_rfl) (by kernel_rfl) (by kernel_rfl) (by kernel_rfl) (fun _ _ _ h => h) (by rfl) (by assumption) ?_ ?_
      rotate_left
      · intro w' hSw; (try dsimp only at hSw); go_simp; try exact rfl
      try simp only [List.setIfInBounds_toArray, List.set_cons_zero, List.set_cons_succ]
      refine takeE (i := 9) (d := 24) (v := ?_) rfl rfl (by kernel_rfl) (by kernel_rfl) (by kernel_rfl) (by kernel_rfl) (fun _ _ _ h => h) (by rfl) (by assumption) ?_ ?_
      rotate_left
      · intro w' hSw; (try dsimp only at hSw); go_simp; try exact rfl
      try simp only [List.setIfInBounds_toArray, List.set_cons_zero, List.set_cons_succ]
      refine takeE (i := 10) (d := 25) (v := ?_) rfl rfl (by kernel_rfl) (by kernel_rfl) (by kernel_rfl) (by kernel_rfl) (fun _ _ _ h => h) (by rfl) (by assumption) ?_ ?_
      rotate_left
      · intro w' hSw; (try dsimp only at hSw); go_simp; try exact rfl
      try simp only [List.setIfInBounds_toArray, List.set_cons_zero, List.set_cons_succ]
      refine takeE (i := 11) (d := 26) (v := ?_) rfl rfl (by kernel_rfl) (by kernel_rfl) (by kernel_rfl) (by kernel_rfl) (fun _ _ _ h => h) (by rfl) (by assumption) ?_ ?_
      rotate_left
      · intro w' hSw; (try dsimp only at hSw); go_simp; try exact rfl
      try simp only [List.setIfInBounds_toArray, List.set_cons_zero, List.set_cons_succ]
      refine takeE (i := 12) (d := 27) (v := ?_) rfl rfl (by kernel_rfl) (by kernel_rfl) (by kernel_rfl) (by kernel_rfl) (fun _ _ _ h => h) (by rfl) (by assumption) ?_ ?_
      rotate_left
      · intro w' hSw; (try dsimp only at hSw); go_simp; try exact rfl
      try simp only [List.setIfInBounds_toArray, List.set_cons_zero, List.set_cons_succ]
      refine takeE (i := 13) (d := 28) (v := ?_) rfl rfl (by kernel_rfl) (by kernel_rfl) (by kernel_rfl) (by kernel_rfl) (fun _ _ _ h => h) (by rfl) (by assumption) ?_ ?_
      rotate_left
      · intro w' hSw; (try dsimp only at hSw); go_simp; try exact rfl
      try simp only [List.setIfInBounds_toArray, List.set_cons_zero, List.set_cons_succ]
      refine takeE (i := 14) (d := 29) (v := ?_) rfl rfl (by kernel_rfl) (by kernel_rfl) (by kernel_rfl) (by kernel_rfl) (fun _ _ _ h => h) (by rfl) (by assumption) ?_ ?_
      rotate_left
      · intro w' hSw; (try dsimp only at hSw); go_simp; try exact rfl
      try simp only [List.setIfInBounds_toArray, List.set_cons_zero, List.set_cons_succ]
      refine oneE (i := 8) (by kernel_rfl) rfl (fun K hK => ?_)
      go_simp
      go_at_call 25
      refine Calls.mono (l02CopyRow_any (.slice a0 x.r.length n0) x.r g0 _ (hR.below ?hbb) hxn) ?_
      case hbb => repeat (first | (with_reducible exact Below.refl _ _) | (with_reducible refine Below.drew ?_) | (with_reducible refine Below.alloc ?_ ?hh _; case hh => first | (simp; done) | (simp; omega) | omega) | (with_reducible refine Below.setCell ?_ ?hh _; case hh => first | (simp; done) | (simp; omega) | omega) | refine bstep (by assumption) (by first | (simp; done) | (simp; omega) | omega) ?_)
      rintro e w2 ⟨⟨u2, g2, rfl, hR2, hO2⟩, hb2⟩
      obtain ⟨a2, n2, rfl⟩ := hR2.shape
      have hzw2 := hb2.size
      rw [show wr.drew.heap.size = wr.heap.size from rfl] at hzw2
      have bel2 : Below wr.heap.size wr w2 := by repeat (first | (with_reducible exact Below.refl _ _) | (with_reducible refine Below.drew ?_) | (with_reducible refine Below.alloc ?_ ?hh _; case hh => first | (simp; done) | (simp; omega) | omega) | (with_reducible refine Below.setCell ?_ ?hh _; case hh => first | (simp; done) | (simp; omega) | omega) | refine bstep (by assumption) (by first | (simp; done) | (simp; omega) | omega) ?_)
      have hB2 := hB.below bel2
      have pf2 : ∀ q, w2.frozen? ⟨w.heap.size + 1 + 1, q, none⟩ = false := fun q => ((bcell bel2).2 _ q (by omega)).trans (pf q)
      have rf2 : ∀ q, w2.frozen? ⟨w.heap.size + 1, q, none⟩ = false := fun q => ((bcell bel2).2 _ q (by omega)).trans (rf q)
      have p02 := ((bcell bel2).1 (w.heap.size + 1 + 1) 0 (by omega)).trans p0
      have p12 := ((bcell bel2).1 (w.heap.size + 1 + 1) 1 (by omega)).trans p1
      have r02 := ((bcell bel2).1 (w.heap.size + 1) 0 (by omega)).trans r0
      have r12 := ((bcell bel2).1 (w.heap.size + 1) 1 (by omega)).trans r1
      have b02 := ((bcell bel2).1 w.heap.size 0 (by omega)).trans b0
      have b12 := ((bcell bel2).1 w.heap.size 1 (by omega)).trans b1
      have c02 := ((bcell bel2).1 b (o + k * 2) (by omega)).trans c0
      have c12 := ((bcell bel2).1 b (o + k * 2 + 1) (by omega)).trans c1
      try go_wp2_with fail
      refine hK.out _ _ ?_ (fun hHeld8 => ?_)
      · intro _
        (try dsimp only)
        exact ⟨p12, b12, c02, c12⟩
      clear hK
      replace hHeld8 := hHeld8 (by decide)
      try simp only [List.setIfInBounds_toArray, List.set_cons_zero, List.set_cons_succ]
      refine takeE (i := 15) (d := 30) (v := ?_) rfl rfl (by kernel_rfl) (by kernel_rfl) (by kernel_rfl) (by kernel_rfl) (fun _ _ _ h => h) (by rfl) (by assumption) ?_ ?_
      rotate_left
      · intro w' hSw; (try dsimp only at hSw); go_simp; try exact rfl
      try simp only [List.setIfInBounds_toArray, List.set_cons_zero, List.set_cons_succ]
      refine oneE (i := 16) (by kernel_rfl) rfl (fun K hK => ?_)
      go_simp
      refine hK.out _ _ ?_ (fun hHeld16 => ?_)
      · intro _
        (try dsimp only)
        exact ⟨(cell_blk (Below.heap_alloc w2 _ _ (by omega))).trans p12, (cell_blk (Below.heap_alloc w2 _ _ (by omega))).trans b12, (cell_blk (Below.heap_alloc w2 _ _ (by omega))).trans c02, (cell_blk (Below.heap_alloc w2 _ _ (by omega))).trans c12⟩
      clear hK
      replace hHeld16 := hHeld16 (by decide)
      try simp only [List.setIfInBounds_toArray, List.set_cons_zero, List.set_cons_succ]
      refine oneE (i := 17) (by kernel_rfl) rfl (fun K hK => ?_)
      refine step_append_lies _ (by rfl) _ _ _ (by rfl) (w.heap.size + 1 + 1 + 1) 49 i0 _ 2 32 Try.underlying26 hi hz0 hz1 hz2 rfl (by omega) y ct.length (cc us ct) (by rfl) (hB2.own.alloc _) ⟨w2.heap.size, 0, none⟩ 1 1 [.slice a2 x.r.length n2, .int .i64 x.n] (by rfl) (by rfl) (World.news_of_block (cs := #[.slice a2 x.r.length n2, .int .i64 x.n]) (t := 49) (fr := (0, 0)) (heap_alloc_new w2 _)) (by simp [Value.oneCell']) (by omega) hml hby (by simp; omega) (w2.heap.size + 1) (by simp) ?_
      intro gg cap w3 hown3 hgrow hat hlt3
      have hz3 := hgrow.size
      simp at hz3
      have far : ∀ b q, b < w2.heap.size → y.ownBlock ≠ some b → w3.cell? ⟨b, q, none⟩ = w2.cell? ⟨b, q, none⟩ := fun b q hb hne => (hgrow.cell_far _ (by simp; omega) (Ne.symm hne)).trans (cell_blk (Below.heap_alloc _ _ _ hb))
      have farf : ∀ b q, b < w2.heap.size → y.ownBlock ≠ some b → w3.frozen? ⟨b, q, none⟩ = w2.frozen? ⟨b, q, none⟩ := fun b q hb hne => (hgrow.frozen_far _ (by simp; omega) (Ne.symm hne)).trans (frozen_blk (Below.heap_alloc _ _ _ hb))
      have pf3 : ∀ q, w3.frozen? ⟨w.heap.size + 1 + 1, q, none⟩ = false := fun q => (farf _ q (by omega) hv2).trans (pf2 q)
      have rf3 : ∀ q, w3.frozen? ⟨w.heap.size + 1, q, none⟩ = false := fun q => (farf _ q (by omega) hvr).trans (rf2 q)
      have p03 := (far (w.heap.size + 1 + 1) 0 (by omega) hv2).trans p02
      have p13 := (far (w.heap.size + 1 + 1) 1 (by omega) hv2).trans p12
      have r03 := (far (w.heap.size + 1) 0 (by omega) hvr).trans r02
      have r13 := (far (w.heap.size + 1) 1 (by omega) hvr).trans r12
      have hBp := BagOwn.push (hB2.below ((Below.refl _ _).alloc (Nat.le_refl _) (.cells #[.slice a2 x.r.length n2, .int .i64 x.n] 49))) (hR2.below ((Below.refl _ _).alloc (Nat.le_refl _) _)) ⟨hO2.1, fun b hb => by have := hO2.2.1 b hb; have : wr.drew.heap.size = wr.heap.size := rfl; omega, fun b hb q => (frozen_blk (Below.heap_alloc _ _ _ (hR2.lt b hb))).trans (hO2.2.2 b hb q)⟩ (fun b hb hb' => by have := hO2.2.1 b hb'; have := hGl b hb; simp at *; omega) (fun b hb hb' => by have := hO2.2.1 b hb'; have := (ownsRow_lt hB.own b hb).2; simp at *; omega) hown3 hgrow (fun b hb => by simp [Value.ownBlock] at hb; subst hb; rcases hat with h | h; exact .inl h; exact .inr (by simp; omega))
      have bel3 : Below w.heap.size w w3 := Below.grown (by repeat (first | (with_reducible exact Below.refl _ _) | (with_reducible refine Below.drew ?_) | (with_reducible refine Below.alloc ?_ ?hh _; case hh => first | (simp; done) | (simp; omega) | omega) | (with_reducible refine Below.setCell ?_ ?hh _; case hh => first | (simp; done) | (simp; omega) | omega) | refine bstep (by assumption) (by first | (simp; done) | (simp; omega) | omega) ?_)) hgrow (by simp; omega) (fun b hb => by have := (ownsRow_lt hB.own b hb).1; omega)
      have b03 := (far w.heap.size 0 (by omega) (hvT _ (Nat.le_refl _))).trans b02
      have b13 := (far w.heap.size 1 (by omega) (hvT _ (Nat.le_refl _))).trans b12
      have c03 := (far b (o + k * 2) (by omega) (hvT _ (by omega))).trans c02
      have c13 := (far b (o + k * 2 + 1) (by omega) (hvT _ (by omega))).trans c12
      refine hK.out _ _ ?_ (fun hHeld17 => ?_)
      · intro _
        (try dsimp only)
        exact ⟨p13, b13, c03, c13⟩
      clear hK
      replace hHeld17 := hHeld17 (by decide)
      try simp only [List.setIfInBounds_toArray, List.set_cons_zero, List.set_cons_succ]
      refine takeE (i := 18) (d := 33) (v := ?_) rfl rfl (by kernel_rfl) (by kernel_rfl) (by kernel_rfl) (by kernel_rfl) (fun _ _ _ h => h) (by rfl) (by assumption) ?_ ?_
      rotate_left
      · intro w' hSw; (try dsimp only at hSw); go_simp; try exact rfl
      try simp only [List.setIfInBounds_toArray, List.set_cons_zero, List.set_cons_succ]
      refine oneE (i := 19) (by kernel_rfl) rfl (fun K hK => ?_)
      go_simp
      refine hK.out _ _ ?_ (fun hHeld19 => ?_)
      · exact fun h => absurd rfl h
      clear hK hHeld19
      try simp only [List.setIfInBounds_toArray, List.set_cons_zero, List.set_cons_succ]
      refine doneE (by kernel_rfl) ?_ _
      -- end of the region
      have Q0 : (w3.setCell ⟨w.heap.size + 1 + 1, 1, none⟩ (.slice (some ⟨gg, 0, none⟩) (ct.length + 1) cap)).cell? ⟨w.heap.size, 0, none⟩ = some (.int .i64 W) := (World.cell?_setCell_other _ _ _ _ (by simp; try omega)).trans b03
      have Q1 : (w3.setCell ⟨w.heap.size + 1 + 1, 1, none⟩ (.slice (some ⟨gg, 0, none⟩) (ct.length + 1) cap)).cell? ⟨w.heap.size, 1, none⟩ = some (.slice (some ⟨b, o, none⟩) cs.length c) := (World.cell?_setCell_other _ _ _ _ (by simp; try omega)).trans b13
      have P0 : (w3.setCell ⟨w.heap.size + 1 + 1, 1, none⟩ (.slice (some ⟨gg, 0, none⟩) (ct.length + 1) cap)).cell? ⟨w.heap.size + 1 + 1, 0, none⟩ = some (.int .i64 W) := (World.cell?_setCell_other _ _ _ _ (by simp)).trans p03
      have P1 : (w3.setCell ⟨w.heap.size + 1 + 1, 1, none⟩ (.slice (some ⟨gg, 0, none⟩) (ct.length + 1) cap)).cell? ⟨w.heap.size + 1 + 1, 1, none⟩ = some (.slice (some ⟨gg, 0, none⟩) (ct.length + 1) cap) := World.cell?_setCell_same _ _ _ p13
      have PF : ∀ q, (w3.setCell ⟨w.heap.size + 1 + 1, 1, none⟩ (.slice (some ⟨gg, 0, none⟩) (ct.length + 1) cap)).frozen? ⟨w.heap.size + 1 + 1, q, none⟩ = false := fun q => by simpa using pf3 q
      have R0 : (w3.setCell ⟨w.heap.size + 1 + 1, 1, none⟩ (.slice (some ⟨gg, 0, none⟩) (ct.length + 1) cap)).cell? ⟨w.heap.size + 1, 0, none⟩ = some (.int .i64 0) := (World.cell?_setCell_other _ _ _ _ (by simp)).trans r03
      have R1 : (w3.setCell ⟨w.heap.size + 1 + 1, 1, none⟩ (.slice (some ⟨gg, 0, none⟩) (ct.length + 1) cap)).cell? ⟨w.heap.size + 1, 1, none⟩ = some (.slice none 0 0) := (World.cell?_setCell_other _ _ _ _ (by simp)).trans r13
      have RF : ∀ q, (w3.setCell ⟨w.heap.size + 1 + 1, 1, none⟩ (.slice (some ⟨gg, 0, none⟩) (ct.length + 1) cap)).frozen? ⟨w.heap.size + 1, q, none⟩ = false := fun q => by simpa using rf3 q
      have hBs := hBp.keep (w' := w3.setCell ⟨w.heap.size + 1 + 1, 1, none⟩ (.slice (some ⟨gg, 0, none⟩) (ct.length + 1) cap)) (by simp) (fun b hb _ => Below.heap_setCell _ _ _ _ (by simp; omega))
      rw [← HT.out] at hBs
      have belS : Below w.heap.size w (w3.setCell ⟨w.heap.size + 1 + 1, 1, none⟩ (.slice (some ⟨gg, 0, none⟩) (ct.length + 1) cap)) := bel3.setCell (by simp; omega) _
      have hzS : w.heap.size + 1 + 1 + 1 ≤ (w3.setCell ⟨w.heap.size + 1 + 1, 1, none⟩ (.slice (some ⟨gg, 0, none⟩) (ct.length + 1) cap)).heap.size := by simp; omega
      clear hown3 hgrow hat far farf hBp hB2 hR2 hO2 hb2 hB p03 p13 pf3 r03 r13 rf3
      go_wp2
      exact ⟨⟨k + 1, _, _, _, hlt, by simp, Q0, Q1, P0, P1, PF, R0, R1, RF, hBs, belS, hzS⟩, by simp [intOf]; omega⟩
    · obtain rfl : k = cs.length := by omega
      rw [List.take_length] at hB
      obtain ⟨ay, cy, rfl⟩ := hB.shape
      clear ha hC
      go_wp2
      refine bodyPost_ret (v := .agg #[.int .i64 W, .slice ay cs.length cy]) (by simp [results, Try.results13, go_sem, *]) rfl ⟨⟨_, us, G, rfl, (hB.keep (by simp) fun b hb _ => ?_).weak (by omega)⟩, ?_⟩
      · repeat rw [Below.heap_setCell _ _ _ _ (by simp; omega)]
      · repeat (first | (with_reducible exact hb) | (with_reducible refine Below.setCell ?_ ?hh _; case hh => (simp; try omega)))
end Go.Proofs.Ytobbfmcfibmicaa
/- Own text. Two bags together: the contract of spec.l02Sum. -/
namespace Go.Proofs.Ytobbfmcfibmicaa
open Go.RowKit Go.Deep Go.ChangeShapes Go.WideShapes
set_option linter.unusedVariables false
set_option maxHeartbeats 4000000 in
set_option maxRecDepth 100000 in
theorem l02Sum_any (W Wb n : Int) (va vb : Value) (cs ds : List C2) (F F2 : List Nat) (w : World) (ha : RowsF w va cs F) (hb : RowsF w vb ds F2) (hn : wtb cs ≤ 1048576) (hn2 : wtb ds ≤ 1048576) (hA : Asc cs) (hz : ∀ c ∈ cs, c.n ≠ 0)
    (hc : ∀ c ∈ cs, -1000000000000 ≤ c.n ∧ c.n ≤ 1000000000000) (hd : ∀ x ∈ ds, -1000000000000 ≤ n * x.n ∧ n * x.n ≤ 1000000000000) (P : List C2) (hP : Hid (sumC cs ds n = P)) :
    Calls Try.prog 14 #[.agg #[.int .i64 W, va], .agg #[.int .i64 Wb, vb], .int .i64 n] w fun e w' => (∃ u us G, e = .returned (.agg #[.int .i64 W, u]) ∧ BagOwn w' w.heap.size u P us G) ∧ Below w.heap.size w w' := by
  have ha' := ha
  obtain ⟨aa, ca, GA, rfl, _⟩ := ha'
  obtain ⟨a, c, b, o, G0, rfl, hl, hcm, _, hG0, _, hC, hat⟩ := hb.pick
  unfold maxLen at hcm
  have hl1 : cs.length ≤ 1048576 := by unfold wtb at hn; omega
  have hl2 : ds.length ≤ 1048576 := by unfold wtb at hn2; omega
  go_enter Try.func14, Try.ntmps14
  go_wp2_with fail
  refine Calls.mono (l02Copy_any W _ cs F _ (ha.below ?hbb) hn) ?_
  case hbb => repeat (first | (with_reducible exact Below.refl _ _) | (with_reducible refine Below.drew ?_) | (with_reducible refine Below.alloc ?_ ?hh _; case hh => first | (simp; done) | (simp; omega) | omega) | (with_reducible refine Below.setCell ?_ ?hh _; case hh => first | (simp; done) | (simp; omega) | omega) | refine bstep (by assumption) (by first | (simp; done) | (simp; omega) | omega) ?_)
  rintro e w2 ⟨⟨u2, us2, G2, rfl, hB2⟩, hb2⟩
  obtain ⟨a2, c2, rfl⟩ := hB2.shape
  have hz2 := hb2.size
  simp at hz2
  have hB2' : BagOwn w2 (w.heap.size + 1 + 1 + 1) (.slice a2 cs.length c2) cs us2 G2 := by simpa using hB2
  have bel2 : Below w.heap.size w w2 := by repeat (first | (with_reducible exact Below.refl _ _) | (with_reducible refine Below.drew ?_) | (with_reducible refine Below.alloc ?_ ?hh _; case hh => first | (simp; done) | (simp; omega) | omega) | (with_reducible refine Below.setCell ?_ ?hh _; case hh => first | (simp; done) | (simp; omega) | omega) | refine bstep (by assumption) (by first | (simp; done) | (simp; omega) | omega) ?_)
  have d0 : w2.cell? ⟨w.heap.size + 1, 0, none⟩ = some (.int .i64 Wb) := cell_later hb2 (by go_simp)
  have d1 : w2.cell? ⟨w.heap.size + 1, 1, none⟩ = some (.slice a ds.length c) := cell_later hb2 (by go_simp)
  have r0 : w2.cell? ⟨w.heap.size + 1 + 1, 0, none⟩ = some (.int .i64 0) := cell_later hb2 (by go_simp)
  have r1 : w2.cell? ⟨w.heap.size + 1 + 1, 1, none⟩ = some (.slice none 0 0) := cell_later hb2 (by go_simp)
  have rf : ∀ q, w2.frozen? ⟨w.heap.size + 1 + 1, q, none⟩ = false := fun q => ((bcell hb2).2 _ q (by simp)).trans (by go_simp)
  have hlt2 := hB2'.lt
  have hol2 := ownsRow_lt hB2'.own
  obtain ⟨X, hX⟩ : ∃ X, X = w2.heap.size := ⟨_, rfl⟩
  clear hB2 hb2 hb ha
  go_wp2_with fail
  go_loopw [8] (fun i wr => ∃ (k : Nat) (y : Value) (us : List Value) (G : List (List Nat)), k ≤ ds.length ∧ i = .int .i64 k ∧ wr.cell? ⟨w2.heap.size, 0, none⟩ = some (.int .i64 W) ∧ wr.cell? ⟨w2.heap.size, 1, none⟩ = some y ∧ (∀ q, wr.frozen? ⟨w2.heap.size, q, none⟩ = false) ∧ wr.cell? ⟨w.heap.size + 1, 0, none⟩ = some (.int .i64 Wb) ∧ wr.cell? ⟨w.heap.size + 1, 1, none⟩ = some (.slice a ds.length c) ∧ wr.cell? ⟨w.heap.size + 1 + 1, 0, none⟩ = some (.int .i64 0) ∧ wr.cell? ⟨w.heap.size + 1 + 1, 1, none⟩ = some (.slice none 0 0) ∧ (∀ q, wr.frozen? ⟨w.heap.size + 1 + 1, q, none⟩ = false) ∧ BagOwn wr (w.heap.size + 1 + 1 + 1) y (sumC cs (ds.take k) n) us G ∧ y.ownBlock ≠ some w2.heap.size ∧ w2.heap.size ∉ G.flatten ∧ Below w.heap.size w wr ∧ w2.heap.size < wr.heap.size) (fun i _ => ds.length - (intOf i).toNat)
  case atStart =>
    refine ⟨0, .slice a2 cs.length c2, us2, G2, Nat.zero_le _, rfl, by go_simp, by go_simp, fun q => by go_simp, (by go_simp; exact (cell_blk (Below.heap_alloc w2 _ _ (by omega))).trans d0), (by go_simp; exact (cell_blk (Below.heap_alloc w2 _ _ (by omega))).trans d1), (by go_simp; exact (cell_blk (Below.heap_alloc w2 _ _ (by omega))).trans r0), (by go_simp; exact (cell_blk (Below.heap_alloc w2 _ _ (by omega))).trans r1), fun q => (by go_simp; exact (frozen_blk (Below.heap_alloc w2 _ _ (by omega))).trans (rf q)), ?_, fun e => by have := (hol2 _ e).2; omega, fun e => by have := hlt2 _ e; omega, by repeat (first | (with_reducible exact Below.refl _ _) | (with_reducible refine Below.drew ?_) | (with_reducible refine Below.alloc ?_ ?hh _; case hh => first | (simp; done) | (simp; omega) | omega) | (with_reducible refine Below.setCell ?_ ?hh _; case hh => first | (simp; done) | (simp; omega) | omega) | refine bstep (by assumption) (by first | (simp; done) | (simp; omega) | omega) ?_), by simp⟩
    rw [List.take_zero]
    exact hB2'.below (by repeat (first | (with_reducible exact Below.refl _ _) | (with_reducible refine Below.drew ?_) | (with_reducible refine Below.alloc ?_ ?hh _; case hh => first | (simp; done) | (simp; omega) | omega) | (with_reducible refine Below.setCell ?_ ?hh _; case hh => first | (simp; done) | (simp; omega) | omega) | refine bstep (by assumption) (by first | (simp; done) | (simp; omega) | omega) ?_))
  case round =>
    obtain ⟨k, y, us, G, hk, rfl, p0, p1, pf, d0, d1, r0, r1, rf, hB, hyX, hGX, hb, hzb⟩ := hrel
    by_cases hlt : k < ds.length
    · obtain ⟨rfl, hblt, _⟩ := hat k hlt
      obtain ⟨x, u0, g0, hx, _, c0, hR, c1, hbr⟩ := hC.at hG0 hblt hb hlt
      obtain ⟨a0, n0, rfl⟩ := hR.shape
      obtain ⟨ay, cy, rfl⟩ := hB.shape
      have hxd := hd x (List.mem_of_getElem? hx)
      have hxn : x.r.length ≤ 1048576 := by have := wt_mem (List.mem_of_getElem? hx); unfold wt at this; unfold wtb at hn2; omega
      have hkI : (k : Int) < ds.length := by omega
      have hwx : IntKind.i64.wrap (n * x.n) = n * x.n := by rw [IntKind.wrap_i64]; omega
      have hwx2 : wrap64 (n * x.n) = n * x.n := by unfold wrap64; omega
      have HT : Hid (sumC cs (ds.take (k + 1)) n = putC (sumC cs (ds.take k) n) x.r (n * x.n)) := by show _ = _; rw [take_snoc hx, sumC_snoc]
      obtain ⟨hsl, hsb⟩ := sumC_bound (n := n) (m := 1000000000000) (ds := ds.take k) (fun c h => hc c h) (by omega) (by omega) (fun y hy => hd y (List.mem_of_mem_take hy))
      obtain ⟨hsA, hsz, _⟩ := sumC_all (n := n) (ds := ds.take k) hA hz
      have htl : (ds.take k).length ≤ 1048576 := by simp; omega
      have hsb2 : ∀ c ∈ sumC cs (ds.take k) n, -4000000000000000000 ≤ c.n ∧ c.n ≤ 4000000000000000000 := fun c h => by have := hsb c h; omega
      have hsl2 : (sumC cs (ds.take k) n).length ≤ 2097152 := by omega
      clear hsb hsl hsz htl
      generalize sumC cs (ds.take k) n = ct at *
      obtain ⟨m, hm⟩ : ∃ m, m = n * x.n := ⟨_, rfl⟩
      clear hat hC hx hd hc
      go_wp2_with fail
      -- region
      refine startE 16 (fun w' => w'.cell? ⟨w2.heap.size, 0, none⟩ = some (.int .i64 W) ∧ w'.cell? ⟨w2.heap.size, 1, none⟩ = some (.slice ay ct.length cy) ∧ w'.cell? ⟨w.heap.size + 1, 1, none⟩ = some (.slice (some ⟨b, o, none⟩) ds.length c) ∧ w'.cell? ⟨b, o + k * 2, none⟩ = some (.slice a0 x.r.length n0) ∧ w'.cell? ⟨b, o + k * 2 + 1, none⟩ = some (.int .i64 x.n)) (by kernel_rfl) ?_ (fun hHeld => ?_)
      · (try dsimp only)
        exact ⟨p0, p1, d1, c0, c1⟩
      refine takeE (i := 0) (d := 18) (v := ?_) rfl rfl (by kernel_rfl) (by kernel_rfl) (by kernel_rfl) (by kernel_rfl) (fun _ _ _ h => h) (by rfl) (by assumption) ?_ ?_
      rotate_left
      · intro w' hSw; (try dsimp only at hSw); go_simp; try exact rfl
      try simp only [List.setIfInBounds_toArray, List.set_cons_zero, List.set_cons_succ]
      refine takeE (i := 1) (d := 19) (v := ?_) rfl rfl (by kernel_rfl) (by kernel_rfl) (by kernel_rfl) (by kernel_rfl) (fun _ _ _ h => h) (by rfl) (by assumption) ?_ ?_
      rotate_left
      · intro w' hSw; (try dsimp only at hSw); go_simp; try exact rfl
      try simp only [List.setIfInBounds_toArray, List.set_cons_zero, List.set_cons_succ]
      refine takeE (i := 2) (d := 20) (v := ?_) rfl rfl (by kernel_rfl) (by kernel_rfl) (by kernel_rfl) (by kernel_rfl) (fun _ _ _ h => h) (by rfl) (by assumption) ?_ ?_
      rotate_left
      · intro w' hSw; (try dsimp only at hSw); go_simp; try exact rfl
      try simp only [List.setIfInBounds_toArray, List.set_cons_zero, List.set_cons_succ]
      refine takeE (i := 3) (d := 21) (v := ?_) rfl rfl (by kernel_rfl) (by kernel_rfl) (by kernel_rfl) (by kernel_rfl) (fun _ _ _ h => h) (by rfl) (by assumption) ?_ ?_
      rotate_left
      · intro w' hSw; (try dsimp only at hSw); go_simp; try exact rfl
      try simp only [List.setIfInBounds_toArray, List.set_cons_zero, List.set_cons_succ]
      refine takeE (i := 4) (d := 22) (v := ?_) rfl rfl (by kernel_rfl) (by kernel_rfl) (by kernel_rfl) (by kernel_rfl) (fun _ _ _ h => h) (by rfl) (by assumption) ?_ ?_
      rotate_left
      · intro w' hSw; (try dsimp only at hSw); go_simp; try exact rfl
      try simp only [List.setIfInBounds_toArray, List.set_cons_zero, List.set_cons_succ]
      refine takeE (i := 5) (d := 23) (v := ?_) rfl rfl (by kernel_rfl) (by kernel_rfl) (by kernel_rfl) (by kernel_rfl) (fun _ _ _ h => h) (by rfl) (by assumption) ?_ ?_
      rotate_left
      · intro w' hSw; (try dsimp only at hSw); go_simp; try exact rfl
      try simp only [List.setIfInBounds_toArray, List.set_cons_zero, List.set_cons_succ]
      refine takeE (i := 6) (d := 24) (v := ?_) rfl rfl (by kernel_rfl) (by kernel_rfl) (by kernel_rfl) (by kernel_rfl) (fun _ _ _ h => h) (by rfl) (by assumption) ?_ ?_
      rotate_left
      · intro w' hSw; (try dsimp only at hSw); go_simp; try exact rfl
      try simp only [List.setIfInBounds_toArray, List.set_cons_zero, List.set_cons_succ]
      refine takeE (i := 7) (d := 25) (v := ?_) rfl rfl (by kernel_rfl) (by kernel_rfl) (by kernel_rfl) (by kernel_rfl) (fun _ _ _ h => h) (by rfl) (by assumption) ?_ ?_
      rotate_left
      · intro w' hSw; (try dsimp only at hSw); go_simp; try exact rfl
      try simp only [List.setIfInBounds_toArray, List.set_cons_zero, List.set_cons_succ]
      refine takeE (i := 8) (d := 26) (v := ?_) rfl rfl (by kernel_rfl) (by kernel_rfl) (by kernel_rfl) (by kernel_rfl) (fun _ _ _ h => h) (by rfl) (by assumption) ?_ ?_
      rotate_left
      · intro w' hSw; (try dsimp only at hSw); go_simp; try exact rfl
      try simp only [List.setIfInBounds_toArray, List.set_cons_zero, List.set_cons_succ]
      refine takeE (i := 9) (d := 27) (v := ?_) rfl rfl (by kernel_rfl) (by kernel_rfl) (by kernel_rfl) (by kernel_rfl) (fun _ _ _ h => h) (by rfl) (by assumption) ?_ ?_
      rotate_left
      · intro w' hSw; (try dsimp only at hSw); go_simp; try exact rfl
      try simp only [List.setIfInBounds_toArray, List.set_cons_zero, List.set_cons_succ]
      refine takeE (i := 10) (d := 28) (v := ?_) rfl rfl (by kernel_rfl) (by kernel_rfl) (by kernel_rfl) (by kernel_rfl) (fun _ _ _ h => h) (by rfl) (by assumption) ?_ ?_
      rotate_left
      · intro w' hSw; (try dsimp only at hSw); go_simp; try exact rfl
      try simp only [List.setIfInBounds_toArray, List.set_cons_zero, List.set_cons_succ]
      refine takeE (i := 11) (d := 29) (v := ?_) rfl rfl (by kernel_rfl) (by kernel_rfl) (by kernel_rfl) (by kernel_rfl) (fun _ _ _ h => h) (by rfl) (by assumption) ?_ ?_
      rotate_left
      · intro w' hSw; (try dsimp only at hSw); go_simp; try exact rfl
      try simp only [List.setIfInBounds_toArray, List.set_cons_zero, List.set_cons_succ]
      refine takeE (i := 12) (d := 30) (v := ?_) rfl rfl (by kernel_rfl) (by kernel_rfl) (by kernel_rfl) (by kernel_rfl) (fun _ _ _ h => h) (by rfl) (by assumption) ?_ ?_
      rotate_left
      · intro w' hSw; (try dsimp only at hSw); go_simp; try exact rfl
      try simp only [List.setIfInBounds_toArray, List.set_cons_zero, List.set_cons_succ]
      refine takeE (i := 13) (d := 31) (v := ?_) rfl rfl (by kernel_rfl) (by kernel_rfl) (by kernel_rfl) (by kernel_rfl) (fun _ _ _ h => h) (by rfl) (by assumption) ?_ ?_
      rotate_left
      · intro w' hSw; (try dsimp only at hSw); go_simp; try exact rfl
      try simp only [List.setIfInBounds_toArray, List.set_cons_zero, List.set_cons_succ]
      refine takeE (i := 14) (d := 32) (v := ?_) rfl rfl (by kernel_rfl) (by kernel_rfl) (by kernel_rfl) (by kernel_rfl) (fun _ _ _ h => h) (by rfl) (by assumption) ?_ ?_
      rotate_left
      · intro w' hSw; (try dsimp only at hSw); go_simp; try exact rfl
      try simp only [List.setIfInBounds_toArray, List.set_cons_zero, List.set_cons_succ]
      refine oneE (i := 15) (by kernel_rfl) rfl (fun K hK => ?_)
      go_simp
      go_at_call 26
      refine Calls.mono (l02Put_any W (n * x.n) (.slice ay ct.length cy) (.slice a0 x.r.length n0) ct us G x.r g0 (w.heap.size + 1 + 1 + 1) _ (hB.below (by repeat (first | (with_reducible exact Below.refl _ _) | (with_reducible refine Below.drew ?_) | (with_reducible refine Below.alloc ?_ ?hh _; case hh => first | (simp; done) | (simp; omega) | omega) | (with_reducible refine Below.setCell ?_ ?hh _; case hh => first | (simp; done) | (simp; omega) | omega) | refine bstep (by assumption) (by first | (simp; done) | (simp; omega) | omega) ?_))) (hR.below (by repeat (first | (with_reducible exact Below.refl _ _) | (with_reducible refine Below.drew ?_) | (with_reducible refine Below.alloc ?_ ?hh _; case hh => first | (simp; done) | (simp; omega) | omega) | (with_reducible refine Below.setCell ?_ ?hh _; case hh => first | (simp; done) | (simp; omega) | omega) | refine bstep (by assumption) (by first | (simp; done) | (simp; omega) | omega) ?_))) hsA (by simp; omega) hsl2 hxn (by omega) (by omega) hsb2 _ rfl) ?_
      rintro e w5 ⟨v5, us5, G5, rfl, hB5, hv5, hG5, hb5, hgr5⟩
      obtain ⟨a5, c5, rfl⟩ := hB5.shape
      have hz5 := hb5.size
      simp at hz5
      have kX : w5.heap[w2.heap.size]? = wr.heap[w2.heap.size]? := hgr5.block _ (by simp; omega) (fun e => hyX e.symm)
      have kB : ∀ q, q < w.heap.size + 1 + 1 + 1 → w5.heap[q]? = wr.heap[q]? := fun q hq => hb5.block q hq
      have p05 := (cell_blk kX).trans p0
      have p15 := (cell_blk kX).trans p1
      have pf5 : ∀ q, w5.frozen? ⟨w2.heap.size, q, none⟩ = false := fun q => (frozen_blk kX).trans (pf q)
      have d05 := (cell_blk (kB (w.heap.size + 1) (by omega))).trans d0
      have d15 := (cell_blk (kB (w.heap.size + 1) (by omega))).trans d1
      have r05 := (cell_blk (kB (w.heap.size + 1 + 1) (by omega))).trans r0
      have r15 := (cell_blk (kB (w.heap.size + 1 + 1) (by omega))).trans r1
      have rf5 : ∀ q, w5.frozen? ⟨w.heap.size + 1 + 1, q, none⟩ = false := fun q => (frozen_blk (kB (w.heap.size + 1 + 1) (by omega))).trans (rf q)
      have c05 := (cell_blk (kB b (by omega))).trans c0
      have c15 := (cell_blk (kB b (by omega))).trans c1
      have hvX : (Value.slice a5 (putC ct x.r (n * x.n)).length c5).ownBlock ≠ some w2.heap.size := fun e => hyX (hv5 _ (by simp; omega) e)
      have hGX5 : w2.heap.size ∉ G5.flatten := fun e => hGX (hG5 _ (by simp; omega) e)
      have bel5 : Below w.heap.size w w5 := hb.trans ((show Below (w.heap.size + 1 + 1 + 1) wr w5 from ⟨hb5.os, hb5.tape, hb5.output, hb5.size, hb5.block⟩).mono (by omega))
      skip
      try go_wp2_with fail
      refine hK.out _ _ ?_ (fun hHeld15 => ?_)
      · intro _
        (try dsimp only)
        exact ⟨p05, p15, d15, c05, c15⟩
      clear hK
      replace hHeld15 := hHeld15 (by decide)
      try simp only [List.setIfInBounds_toArray, List.set_cons_zero, List.set_cons_succ]
      refine oneE (i := 16) (by kernel_rfl) rfl (fun K hK => ?_)
      go_simp
      refine hK.out _ _ ?_ (fun hHeld16 => ?_)
      · exact fun h => absurd rfl h
      clear hK hHeld16
      try simp only [List.setIfInBounds_toArray, List.set_cons_zero, List.set_cons_succ]
      refine doneE (by kernel_rfl) ?_ _
      -- end of the region
      have hBs : BagOwn ((w5.setCell ⟨w2.heap.size, 0, none⟩ (.int .i64 W)).setCell ⟨w2.heap.size, 1, none⟩ (.slice a5 (putC ct x.r (n * x.n)).length c5)) (w.heap.size + 1 + 1 + 1) (.slice a5 (putC ct x.r (n * x.n)).length c5) (sumC cs (ds.take (k + 1)) n) us5 G5 := by
        rw [HT.out]
        exact hB5.keepO (by simp) (fun b hb => (Below.heap_setCell _ _ _ _ (by rintro rfl; exact hvX hb)).trans (Below.heap_setCell _ _ _ _ (by rintro rfl; exact hvX hb))) (fun b hb => (Below.heap_setCell _ _ _ _ (by rintro rfl; exact hGX5 hb)).trans (Below.heap_setCell _ _ _ _ (by rintro rfl; exact hGX5 hb)))
      have P0 : ((w5.setCell ⟨w2.heap.size, 0, none⟩ (.int .i64 W)).setCell ⟨w2.heap.size, 1, none⟩ (.slice a5 (putC ct x.r (n * x.n)).length c5)).cell? ⟨w2.heap.size, 0, none⟩ = some (.int .i64 W) := (World.cell?_setCell_other _ _ _ _ (by simp)).trans (World.cell?_setCell_same _ _ _ p05)
      have P1 : ((w5.setCell ⟨w2.heap.size, 0, none⟩ (.int .i64 W)).setCell ⟨w2.heap.size, 1, none⟩ (.slice a5 (putC ct x.r (n * x.n)).length c5)).cell? ⟨w2.heap.size, 1, none⟩ = some (.slice a5 (putC ct x.r (n * x.n)).length c5) := World.cell?_setCell_same _ _ _ ((World.cell?_setCell_other _ _ _ _ (by simp)).trans p15)
      have PF : ∀ q, ((w5.setCell ⟨w2.heap.size, 0, none⟩ (.int .i64 W)).setCell ⟨w2.heap.size, 1, none⟩ (.slice a5 (putC ct x.r (n * x.n)).length c5)).frozen? ⟨w2.heap.size, q, none⟩ = false := fun q => by simpa using pf5 q
      have keep : ∀ b q, b < w2.heap.size → ((w5.setCell ⟨w2.heap.size, 0, none⟩ (.int .i64 W)).setCell ⟨w2.heap.size, 1, none⟩ (.slice a5 (putC ct x.r (n * x.n)).length c5)).cell? ⟨b, q, none⟩ = w5.cell? ⟨b, q, none⟩ := fun b q h => (World.cell?_setCell_other _ _ _ _ (by simp; try omega)).trans (World.cell?_setCell_other _ _ _ _ (by simp; try omega))
      have D0 := (keep (w.heap.size + 1) 0 (by omega)).trans d05
      have D1 := (keep (w.heap.size + 1) 1 (by omega)).trans d15
      have R0 := (keep (w.heap.size + 1 + 1) 0 (by omega)).trans r05
      have R1 := (keep (w.heap.size + 1 + 1) 1 (by omega)).trans r15
      have RF : ∀ q, ((w5.setCell ⟨w2.heap.size, 0, none⟩ (.int .i64 W)).setCell ⟨w2.heap.size, 1, none⟩ (.slice a5 (putC ct x.r (n * x.n)).length c5)).frozen? ⟨w.heap.size + 1 + 1, q, none⟩ = false := fun q => by simpa using rf5 q
      have belS : Below w.heap.size w ((w5.setCell ⟨w2.heap.size, 0, none⟩ (.int .i64 W)).setCell ⟨w2.heap.size, 1, none⟩ (.slice a5 (putC ct x.r (n * x.n)).length c5)) := (bel5.setCell (by simp; try omega) _).setCell (by simp; try omega) _
      have hzS : w2.heap.size < ((w5.setCell ⟨w2.heap.size, 0, none⟩ (.int .i64 W)).setCell ⟨w2.heap.size, 1, none⟩ (.slice a5 (putC ct x.r (n * x.n)).length c5)).heap.size := by simp; omega
      clear hB hB5 hgr5 keep p05 p15 d05 d15 r05 r15 rf5 pf5 c05 c15 hsA hsb2 HT
      go_wp2
      exact ⟨⟨k + 1, _, _, _, hlt, by simp, P0, P1, PF, D0, D1, R0, R1, RF, hBs, hvX, hGX5, belS, hzS⟩, by simp [intOf]; omega⟩
    · obtain rfl : k = ds.length := by omega
      rw [List.take_length, hP.out] at hB
      obtain ⟨ay, cy, rfl⟩ := hB.shape
      clear hat hC hP
      go_wp2
      refine bodyPost_ret (v := .agg #[.int .i64 W, .slice ay P.length cy]) (by simp [results, Try.results14, go_sem, *]) rfl ⟨⟨_, us, G, rfl, (hB.keep (by simp) fun b hb _ => ?_).weak (by omega)⟩, ?_⟩
      · repeat rw [Below.heap_setCell _ _ _ _ (by simp; omega)]
      · repeat (first | (with_reducible exact hb) | (with_reducible refine Below.setCell ?_ ?hh _; case hh => (simp; try omega)))
end Go.Proofs.Ytobbfmcfibmicaa
/- Own text. Whether a bag is right: the contract of spec.BagOk. -/
namespace Go.Proofs.Ytobbfmcfibmicaa
open Go.RowKit
set_option linter.unusedVariables false
theorem okN_zero {n : Int} (h : n = 0) : okN n = false := by simp [okN, h]
theorem okN_out {n : Int} (h : ¬ (decide (-1000000000 ≤ n) && decide (n ≤ 1000000000)) = true) : okN n = false := by
  unfold okN
  rw [Bool.and_assoc, show (decide (-1000000000 ≤ n) && decide (n ≤ 1000000000)) = false from by simpa using h, Bool.and_false]
theorem okN_in {n : Int} (h0 : ¬ n = 0) (h : (decide (-1000000000 ≤ n) && decide (n ≤ 1000000000)) = true) : okN n = true := by
  unfold okN
  rw [Bool.and_assoc, h]
  simp [h0]
set_option maxHeartbeats 8000000 in
set_option maxRecDepth 100000 in
theorem specBagOk_any (W : Int) (v : Value) (cs : List C2) (w : World) (hw : CsWf cs) (hr : RowsIs w v cs) :
    Calls Try.prog 12 #[.agg #[.int .i64 W, v]] w fun e w' => e = .returned (.bool (okBag W cs)) ∧ Below w.heap.size w w' := by
  obtain ⟨a, c, b, o, rfl, hl, hc, ha⟩ := hr.pick
  unfold maxLen at hc
  clear hr
  go_enter Try.func12, Try.ntmps12
  go_wp2
  go_loopw [3] (fun i wr => ∃ (k : Nat) (q : Int), k ≤ cs.length ∧ q = k ∧ i = .int .i64 q ∧ Below w.heap.size w wr ∧ w.heap.size < wr.heap.size ∧ wr.cell? ⟨w.heap.size, 0, none⟩ = some (.int .i64 W) ∧ wr.cell? ⟨w.heap.size, 1, none⟩ = some (.slice a cs.length c) ∧ okCs W none cs = okCs W (prev cs k) (cs.drop k)) (fun i _ => cs.length - (intOf i).toNat)
  case atStart => exact ⟨0, 0, Nat.zero_le _, rfl, rfl, by go_grown, by simp, by go_simp, by go_simp, by simp [prev]⟩
  case round =>
    obtain ⟨k, q, hk, hq, rfl, hb, hsz, p0, p1, heq⟩ := hrel
    have HE : Hid (okCs W none cs = okCs W (prev cs k) (cs.drop k)) := heq
    have hzb := hb.size
    clear heq
    by_cases hlt : k < cs.length
    · obtain ⟨rfl, hblt, hL⟩ := ha k hlt
      obtain ⟨x, u, hx, c0, hR, c1, hbr⟩ := hL.at hblt hb hlt
      obtain ⟨ur, lr, cr, rfl⟩ := hR.shape
      have hxw : VsWf x.r := (hw x (List.mem_of_getElem? hx)).1
      have HS : Hid (okCs W (prev cs k) (cs.drop k) = (okRow x.r W && okN x.n && okPrev (prev cs k) x && okCs W (prev cs (k + 1)) (cs.drop (k + 1)))) := okCs_step hx
      by_cases hok : okRow x.r W = true
      rotate_left
      · have hf : okRow x.r W = false := by simpa using hok
        subst hq
        clear ha hw hL hx
        go_wp2_with fail
        refine wp_region_held_drew (S := (fun w' => w'.cell? ⟨w.heap.size, 0, none⟩ = some (.int .i64 W) ∧ w'.cell? ⟨w.heap.size, 1, none⟩ = some (.slice (some ⟨b, o, none⟩) cs.length c) ∧ w'.cell? ⟨wr.heap.size, 0, none⟩ = some (.slice ur lr cr) ∧ w'.cell? ⟨wr.heap.size, 1, none⟩ = some (.int .i64 x.n))) (by kernel_rfl) ?_ (fun hHeld => ?_)
        · (try dsimp only); refine ⟨?_, ?_, ?_, ?_⟩ <;> first | (go_simp; done) | (exact cell_later (by assumption) (by go_simp))
        refine takeYes (i := 0) (d := 17) (v := ?_) rfl rfl (by kernel_rfl) (by kernel_rfl) (by kernel_rfl) (fun _ _ _ h => h) (by rfl) (by assumption) ?_ ?_
        rotate_left
        · intro w' hSw; (try dsimp only at hSw); go_simp; try exact rfl
        try simp only [List.setIfInBounds_toArray, List.set_cons_zero, List.set_cons_succ]
        refine takeYes (i := 1) (d := 18) (v := ?_) rfl rfl (by kernel_rfl) (by kernel_rfl) (by kernel_rfl) (fun _ _ _ h => h) (by rfl) (by assumption) ?_ ?_
        rotate_left
        · intro w' hSw; (try dsimp only at hSw); go_simp; try exact rfl
        try simp only [List.setIfInBounds_toArray, List.set_cons_zero, List.set_cons_succ]
        refine takeYes (i := 2) (d := 19) (v := ?_) rfl rfl (by kernel_rfl) (by kernel_rfl) (by kernel_rfl) (fun _ _ _ h => h) (by rfl) (by assumption) ?_ ?_
        rotate_left
        · intro w' hSw; (try dsimp only at hSw); go_simp; try exact rfl
        try simp only [List.setIfInBounds_toArray, List.set_cons_zero, List.set_cons_succ]
        refine takeYes (i := 3) (d := 20) (v := ?_) rfl rfl (by kernel_rfl) (by kernel_rfl) (by kernel_rfl) (fun _ _ _ h => h) (by rfl) (by assumption) ?_ ?_
        rotate_left
        · intro w' hSw; (try dsimp only at hSw); go_simp; try exact rfl
        try simp only [List.setIfInBounds_toArray, List.set_cons_zero, List.set_cons_succ]
        refine wpAnyH_ready (rs := [4]) (by kernel_rfl) (by simp) ?_
        refine AllReadyH.cons rfl (fun K hK => ?_) AllReadyH.nil
        go_simp
        go_at_call 22
        refine Calls.mono (l02Row_any (.slice ur lr cr) x.r W _ (hR.below (by repeat (first | exact Below.refl _ _ | refine Below.drew ?_ | refine Below.alloc ?_ (by first | (simp; done) | (simp; omega) | omega) _ | refine Below.setCell ?_ (by first | (simp; done) | (simp; omega) | omega) _ | refine bstep (by assumption) (by first | (simp; done) | (simp; omega) | omega) ?_))) hxw) ?_
        rintro e w1 ⟨rfl, hb1⟩
        have hz1 := hb1.size
        (try simp at hz1)
        try go_wp2_with fail
        refine hK.out _ _ ?_ (fun hHeld4 => ?_)
        · (try dsimp only); refine ⟨?_, ?_, ?_, ?_⟩ <;> first | (go_simp; done) | (exact cell_later (by assumption) (by go_simp))
        clear hK
        refine takeYes (i := 5) (d := 22) (v := ?_) rfl rfl (by kernel_rfl) (by kernel_rfl) (by kernel_rfl) (fun _ _ _ h => h) (by rfl) (by assumption) ?_ ?_
        rotate_left
        · intro w' hSw; (try dsimp only at hSw); go_simp; try exact rfl
        try simp only [List.setIfInBounds_toArray, List.set_cons_zero, List.set_cons_succ]
        refine takeYes (i := 6) (d := 23) (v := ?_) rfl rfl (by kernel_rfl) (by kernel_rfl) (by kernel_rfl) (fun _ _ _ h => h) (by rfl) (by assumption) ?_ ?_
        rotate_left
        · intro w' hSw; (try dsimp only at hSw); go_simp; try exact rfl
        try simp only [List.setIfInBounds_toArray, List.set_cons_zero, List.set_cons_succ]
        refine takeNo (i := 7) (d := 24) rfl rfl (by kernel_rfl) (by kernel_rfl) (by kernel_rfl) (fun _ _ _ h => h) (by rfl) (by assumption) ?_
        try simp only [List.setIfInBounds_toArray, List.set_cons_zero, List.set_cons_succ]
        refine takeNo (i := 8) (d := 25) rfl rfl (by kernel_rfl) (by kernel_rfl) (by kernel_rfl) (fun _ _ _ h => h) (by rfl) (by assumption) ?_
        try simp only [List.setIfInBounds_toArray, List.set_cons_zero, List.set_cons_succ]
        refine takeNo (i := 9) (d := 26) rfl rfl (by kernel_rfl) (by kernel_rfl) (by kernel_rfl) (fun _ _ _ h => h) (by rfl) (by assumption) ?_
        try simp only [List.setIfInBounds_toArray, List.set_cons_zero, List.set_cons_succ]
        refine takeYes (i := 10) (d := 27) (v := ?_) rfl rfl (by kernel_rfl) (by kernel_rfl) (by kernel_rfl) (fun _ _ _ h => h) (by rfl) (by assumption) ?_ ?_
        rotate_left
        · intro w' hSw; (try dsimp only at hSw); go_simp; try exact rfl
        try simp only [List.setIfInBounds_toArray, List.set_cons_zero, List.set_cons_succ]
        refine takeYes (i := 11) (d := 28) (v := ?_) rfl rfl (by kernel_rfl) (by kernel_rfl) (by kernel_rfl) (fun _ _ _ h => h) (by rfl) (by assumption) ?_ ?_
        rotate_left
        · intro w' hSw; (try dsimp only at hSw); go_simp; try exact rfl
        try simp only [List.setIfInBounds_toArray, List.set_cons_zero, List.set_cons_succ]
        refine takeNo (i := 12) (d := 29) rfl rfl (by kernel_rfl) (by kernel_rfl) (by kernel_rfl) (fun _ _ _ h => h) (by rfl) (by assumption) ?_
        try simp only [List.setIfInBounds_toArray, List.set_cons_zero, List.set_cons_succ]
        refine takeNo (i := 13) (d := 30) rfl rfl (by kernel_rfl) (by kernel_rfl) (by kernel_rfl) (fun _ _ _ h => h) (by rfl) (by assumption) ?_
        try simp only [List.setIfInBounds_toArray, List.set_cons_zero, List.set_cons_succ]
        refine wpAnyH_ready (rs := [14]) (by kernel_rfl) (by simp) ?_
        refine AllReadyH.cons rfl (fun K hK => ?_) AllReadyH.nil
        go_simp
        refine hK.out _ _ ?_ (fun hHeld14 => ?_)
        · (try dsimp only); refine ⟨?_, ?_, ?_, ?_⟩ <;> first | (go_simp; done) | (exact cell_later (by assumption) (by go_simp))
        clear hK
        refine takeNo (i := 15) (d := 32) rfl rfl (by kernel_rfl) (by kernel_rfl) (by kernel_rfl) (fun _ _ _ h => h) (by rfl) (by assumption) ?_
        try simp only [List.setIfInBounds_toArray, List.set_cons_zero, List.set_cons_succ]
        refine takeYes (i := 16) (d := 33) (v := ?_) rfl rfl (by kernel_rfl) (by kernel_rfl) (by kernel_rfl) (fun _ _ _ h => h) (by rfl) (by assumption) ?_ ?_
        rotate_left
        · intro w' hSw; (try dsimp only at hSw); go_simp; try exact rfl
        try simp only [List.setIfInBounds_toArray, List.set_cons_zero, List.set_cons_succ]
        refine takeYes (i := 17) (d := 34) (v := ?_) rfl rfl (by kernel_rfl) (by kernel_rfl) (by kernel_rfl) (fun _ _ _ h => h) (by rfl) (by assumption) ?_ ?_
        rotate_left
        · intro w' hSw; (try dsimp only at hSw); go_simp; try exact rfl
        try simp only [List.setIfInBounds_toArray, List.set_cons_zero, List.set_cons_succ]
        refine takeNo (i := 18) (d := 35) rfl rfl (by kernel_rfl) (by kernel_rfl) (by kernel_rfl) (fun _ _ _ h => h) (by rfl) (by assumption) ?_
        try simp only [List.setIfInBounds_toArray, List.set_cons_zero, List.set_cons_succ]
        refine takeNo (i := 19) (d := 36) rfl rfl (by kernel_rfl) (by kernel_rfl) (by kernel_rfl) (fun _ _ _ h => h) (by rfl) (by assumption) ?_
        try simp only [List.setIfInBounds_toArray, List.set_cons_zero, List.set_cons_succ]
        refine takeNo (i := 20) (d := 37) rfl rfl (by kernel_rfl) (by kernel_rfl) (by kernel_rfl) (fun _ _ _ h => h) (by rfl) (by assumption) ?_
        try simp only [List.setIfInBounds_toArray, List.set_cons_zero, List.set_cons_succ]
        refine takeNo (i := 21) (d := 38) rfl rfl (by kernel_rfl) (by kernel_rfl) (by kernel_rfl) (fun _ _ _ h => h) (by rfl) (by assumption) ?_
        try simp only [List.setIfInBounds_toArray, List.set_cons_zero, List.set_cons_succ]
        refine takeNo (i := 22) (d := 39) rfl rfl (by kernel_rfl) (by kernel_rfl) (by kernel_rfl) (fun _ _ _ h => h) (by rfl) (by assumption) ?_
        try simp only [List.setIfInBounds_toArray, List.set_cons_zero, List.set_cons_succ]
        refine takeNo (i := 23) (d := 40) rfl rfl (by kernel_rfl) (by kernel_rfl) (by kernel_rfl) (fun _ _ _ h => h) (by rfl) (by assumption) ?_
        try simp only [List.setIfInBounds_toArray, List.set_cons_zero, List.set_cons_succ]
        refine takeNo (i := 24) (d := 41) rfl rfl (by kernel_rfl) (by kernel_rfl) (by kernel_rfl) (fun _ _ _ h => h) (by rfl) (by assumption) ?_
        try simp only [List.setIfInBounds_toArray, List.set_cons_zero, List.set_cons_succ]
        refine takeNo (i := 25) (d := 42) rfl rfl (by kernel_rfl) (by kernel_rfl) (by kernel_rfl) (fun _ _ _ h => h) (by rfl) (by assumption) ?_
        try simp only [List.setIfInBounds_toArray, List.set_cons_zero, List.set_cons_succ]
        refine takeNo (i := 26) (d := 43) rfl rfl (by kernel_rfl) (by kernel_rfl) (by kernel_rfl) (fun _ _ _ h => h) (by rfl) (by assumption) ?_
        try simp only [List.setIfInBounds_toArray, List.set_cons_zero, List.set_cons_succ]
        refine takeNo (i := 27) (d := 44) rfl rfl (by kernel_rfl) (by kernel_rfl) (by kernel_rfl) (fun _ _ _ h => h) (by rfl) (by assumption) ?_
        try simp only [List.setIfInBounds_toArray, List.set_cons_zero, List.set_cons_succ]
        refine takeNo (i := 28) (d := 45) rfl rfl (by kernel_rfl) (by kernel_rfl) (by kernel_rfl) (fun _ _ _ h => h) (by rfl) (by assumption) ?_
        try simp only [List.setIfInBounds_toArray, List.set_cons_zero, List.set_cons_succ]
        refine takeNo (i := 29) (d := 46) rfl rfl (by kernel_rfl) (by kernel_rfl) (by kernel_rfl) (fun _ _ _ h => h) (by rfl) (by assumption) ?_
        try simp only [List.setIfInBounds_toArray, List.set_cons_zero, List.set_cons_succ]
        refine wpAnyH_ready (rs := [30]) (by kernel_rfl) (by simp) ?_
        refine AllReadyH.cons rfl (fun K hK => ?_) AllReadyH.nil
        go_simp
        refine hK.out _ _ ?_ (fun hHeld30 => ?_)
        · (try dsimp only); refine ⟨?_, ?_, ?_, ?_⟩ <;> first | (go_simp; done) | (exact cell_later (by assumption) (by go_simp))
        clear hK
        refine takeNo (i := 31) (d := 48) rfl rfl (by kernel_rfl) (by kernel_rfl) (by kernel_rfl) (fun _ _ _ h => h) (by rfl) (by assumption) ?_
        try simp only [List.setIfInBounds_toArray, List.set_cons_zero, List.set_cons_succ]
        refine takeNo (i := 32) (d := 49) rfl rfl (by kernel_rfl) (by kernel_rfl) (by kernel_rfl) (fun _ _ _ h => h) (by rfl) (by assumption) ?_
        try simp only [List.setIfInBounds_toArray, List.set_cons_zero, List.set_cons_succ]
        refine takeYes (i := 33) (d := 50) (v := ?_) rfl rfl (by kernel_rfl) (by kernel_rfl) (by kernel_rfl) (fun _ _ _ h => h) (by rfl) (by assumption) ?_ ?_
        rotate_left
        · intro w' hSw; (try dsimp only at hSw); go_simp; try exact rfl
        try simp only [List.setIfInBounds_toArray, List.set_cons_zero, List.set_cons_succ]
        refine wpAnyH_done (by kernel_rfl) ?_ _
        go_wp2
        go_returns
        refine ⟨ret_bool ?_, by repeat (first | exact Below.refl _ _ | refine Below.drew ?_ | refine Below.alloc ?_ (by first | (simp; done) | (simp; omega) | omega) _ | refine Below.setCell ?_ (by first | (simp; done) | (simp; omega) | omega) _ | refine bstep (by assumption) (by first | (simp; done) | (simp; omega) | omega) ?_)⟩
        unfold okBag
        rw [HE.out, HS.out, hf]
        simp
      by_cases hn0 : x.n = 0
      · have HN : Hid (okN x.n = false) := okN_zero hn0
        have hn1 : (x.n == 0) = true := by simpa using hn0
        subst hq
        clear ha hw hL hx hn0
        go_wp2_with fail
        refine wp_region_held_drew (S := (fun w' => w'.cell? ⟨w.heap.size, 0, none⟩ = some (.int .i64 W) ∧ w'.cell? ⟨w.heap.size, 1, none⟩ = some (.slice (some ⟨b, o, none⟩) cs.length c) ∧ w'.cell? ⟨wr.heap.size, 0, none⟩ = some (.slice ur lr cr) ∧ w'.cell? ⟨wr.heap.size, 1, none⟩ = some (.int .i64 x.n))) (by kernel_rfl) ?_ (fun hHeld => ?_)
        · (try dsimp only); refine ⟨?_, ?_, ?_, ?_⟩ <;> first | (go_simp; done) | (exact cell_later (by assumption) (by go_simp))
        refine takeYes (i := 0) (d := 17) (v := ?_) rfl rfl (by kernel_rfl) (by kernel_rfl) (by kernel_rfl) (fun _ _ _ h => h) (by rfl) (by assumption) ?_ ?_
        rotate_left
        · intro w' hSw; (try dsimp only at hSw); go_simp; try exact rfl
        try simp only [List.setIfInBounds_toArray, List.set_cons_zero, List.set_cons_succ]
        refine takeYes (i := 1) (d := 18) (v := ?_) rfl rfl (by kernel_rfl) (by kernel_rfl) (by kernel_rfl) (fun _ _ _ h => h) (by rfl) (by assumption) ?_ ?_
        rotate_left
        · intro w' hSw; (try dsimp only at hSw); go_simp; try exact rfl
        try simp only [List.setIfInBounds_toArray, List.set_cons_zero, List.set_cons_succ]
        refine takeYes (i := 2) (d := 19) (v := ?_) rfl rfl (by kernel_rfl) (by kernel_rfl) (by kernel_rfl) (fun _ _ _ h => h) (by rfl) (by assumption) ?_ ?_
        rotate_left
        · intro w' hSw; (try dsimp only at hSw); go_simp; try exact rfl
        try simp only [List.setIfInBounds_toArray, List.set_cons_zero, List.set_cons_succ]
        refine takeYes (i := 3) (d := 20) (v := ?_) rfl rfl (by kernel_rfl) (by kernel_rfl) (by kernel_rfl) (fun _ _ _ h => h) (by rfl) (by assumption) ?_ ?_
        rotate_left
        · intro w' hSw; (try dsimp only at hSw); go_simp; try exact rfl
        try simp only [List.setIfInBounds_toArray, List.set_cons_zero, List.set_cons_succ]
        refine wpAnyH_ready (rs := [4]) (by kernel_rfl) (by simp) ?_
        refine AllReadyH.cons rfl (fun K hK => ?_) AllReadyH.nil
        go_simp
        go_at_call 22
        refine Calls.mono (l02Row_any (.slice ur lr cr) x.r W _ (hR.below (by repeat (first | exact Below.refl _ _ | refine Below.drew ?_ | refine Below.alloc ?_ (by first | (simp; done) | (simp; omega) | omega) _ | refine Below.setCell ?_ (by first | (simp; done) | (simp; omega) | omega) _ | refine bstep (by assumption) (by first | (simp; done) | (simp; omega) | omega) ?_))) hxw) ?_
        rintro e w1 ⟨rfl, hb1⟩
        have hz1 := hb1.size
        (try simp at hz1)
        try go_wp2_with fail
        refine hK.out _ _ ?_ (fun hHeld4 => ?_)
        · (try dsimp only); refine ⟨?_, ?_, ?_, ?_⟩ <;> first | (go_simp; done) | (exact cell_later (by assumption) (by go_simp))
        clear hK
        refine takeYes (i := 5) (d := 22) (v := ?_) rfl rfl (by kernel_rfl) (by kernel_rfl) (by kernel_rfl) (fun _ _ _ h => h) (by rfl) (by assumption) ?_ ?_
        rotate_left
        · intro w' hSw; (try dsimp only at hSw); go_simp; try exact rfl
        try simp only [List.setIfInBounds_toArray, List.set_cons_zero, List.set_cons_succ]
        refine takeYes (i := 6) (d := 23) (v := ?_) rfl rfl (by kernel_rfl) (by kernel_rfl) (by kernel_rfl) (fun _ _ _ h => h) (by rfl) (by assumption) ?_ ?_
        rotate_left
        · intro w' hSw; (try dsimp only at hSw); go_simp; try exact rfl
        try simp only [List.setIfInBounds_toArray, List.set_cons_zero, List.set_cons_succ]
        refine takeYes (i := 7) (d := 24) (v := ?_) rfl rfl (by kernel_rfl) (by kernel_rfl) (by kernel_rfl) (fun _ _ _ h => h) (by rfl) (by assumption) ?_ ?_
        rotate_left
        · intro w' hSw; (try dsimp only at hSw); go_simp; try exact rfl
        try simp only [List.setIfInBounds_toArray, List.set_cons_zero, List.set_cons_succ]
        refine takeYes (i := 8) (d := 25) (v := ?_) rfl rfl (by kernel_rfl) (by kernel_rfl) (by kernel_rfl) (fun _ _ _ h => h) (by rfl) (by assumption) ?_ ?_
        rotate_left
        · intro w' hSw; (try dsimp only at hSw); go_simp; try exact rfl
        try simp only [List.setIfInBounds_toArray, List.set_cons_zero, List.set_cons_succ]
        refine takeYes (i := 9) (d := 26) (v := ?_) rfl rfl (by kernel_rfl) (by kernel_rfl) (by kernel_rfl) (fun _ _ _ h => h) (by rfl) (by assumption) ?_ ?_
        rotate_left
        · intro w' hSw; (try dsimp only at hSw); go_simp; try exact rfl
        try simp only [List.setIfInBounds_toArray, List.set_cons_zero, List.set_cons_succ]
        refine takeYes (i := 10) (d := 27) (v := ?_) rfl rfl (by kernel_rfl) (by kernel_rfl) (by kernel_rfl) (fun _ _ _ h => h) (by rfl) (by assumption) ?_ ?_
        rotate_left
        · intro w' hSw; (try dsimp only at hSw); go_simp; try exact rfl
        try simp only [List.setIfInBounds_toArray, List.set_cons_zero, List.set_cons_succ]
        refine takeYes (i := 11) (d := 28) (v := ?_) rfl rfl (by kernel_rfl) (by kernel_rfl) (by kernel_rfl) (fun _ _ _ h => h) (by rfl) (by assumption) ?_ ?_
        rotate_left
        · intro w' hSw; (try dsimp only at hSw); go_simp; try exact rfl
        try simp only [List.setIfInBounds_toArray, List.set_cons_zero, List.set_cons_succ]
        refine takeNo (i := 12) (d := 29) rfl rfl (by kernel_rfl) (by kernel_rfl) (by kernel_rfl) (fun _ _ _ h => h) (by rfl) (by assumption) ?_
        try simp only [List.setIfInBounds_toArray, List.set_cons_zero, List.set_cons_succ]
        refine takeNo (i := 13) (d := 30) rfl rfl (by kernel_rfl) (by kernel_rfl) (by kernel_rfl) (fun _ _ _ h => h) (by rfl) (by assumption) ?_
        try simp only [List.setIfInBounds_toArray, List.set_cons_zero, List.set_cons_succ]
        refine wpAnyH_ready (rs := [14]) (by kernel_rfl) (by simp) ?_
        refine AllReadyH.cons rfl (fun K hK => ?_) AllReadyH.nil
        go_simp
        refine hK.out _ _ ?_ (fun hHeld14 => ?_)
        · (try dsimp only); refine ⟨?_, ?_, ?_, ?_⟩ <;> first | (go_simp; done) | (exact cell_later (by assumption) (by go_simp))
        clear hK
        refine takeNo (i := 15) (d := 32) rfl rfl (by kernel_rfl) (by kernel_rfl) (by kernel_rfl) (fun _ _ _ h => h) (by rfl) (by assumption) ?_
        try simp only [List.setIfInBounds_toArray, List.set_cons_zero, List.set_cons_succ]
        refine takeYes (i := 16) (d := 33) (v := ?_) rfl rfl (by kernel_rfl) (by kernel_rfl) (by kernel_rfl) (fun _ _ _ h => h) (by rfl) (by assumption) ?_ ?_
        rotate_left
        · intro w' hSw; (try dsimp only at hSw); go_simp; try exact rfl
        try simp only [List.setIfInBounds_toArray, List.set_cons_zero, List.set_cons_succ]
        refine takeYes (i := 17) (d := 34) (v := ?_) rfl rfl (by kernel_rfl) (by kernel_rfl) (by kernel_rfl) (fun _ _ _ h => h) (by rfl) (by assumption) ?_ ?_
        rotate_left
        · intro w' hSw; (try dsimp only at hSw); go_simp; try exact rfl
        try simp only [List.setIfInBounds_toArray, List.set_cons_zero, List.set_cons_succ]
        refine takeNo (i := 18) (d := 35) rfl rfl (by kernel_rfl) (by kernel_rfl) (by kernel_rfl) (fun _ _ _ h => h) (by rfl) (by assumption) ?_
        try simp only [List.setIfInBounds_toArray, List.set_cons_zero, List.set_cons_succ]
        refine takeNo (i := 19) (d := 36) rfl rfl (by kernel_rfl) (by kernel_rfl) (by kernel_rfl) (fun _ _ _ h => h) (by rfl) (by assumption) ?_
        try simp only [List.setIfInBounds_toArray, List.set_cons_zero, List.set_cons_succ]
        refine takeNo (i := 20) (d := 37) rfl rfl (by kernel_rfl) (by kernel_rfl) (by kernel_rfl) (fun _ _ _ h => h) (by rfl) (by assumption) ?_
        try simp only [List.setIfInBounds_toArray, List.set_cons_zero, List.set_cons_succ]
        refine takeNo (i := 21) (d := 38) rfl rfl (by kernel_rfl) (by kernel_rfl) (by kernel_rfl) (fun _ _ _ h => h) (by rfl) (by assumption) ?_
        try simp only [List.setIfInBounds_toArray, List.set_cons_zero, List.set_cons_succ]
        refine takeNo (i := 22) (d := 39) rfl rfl (by kernel_rfl) (by kernel_rfl) (by kernel_rfl) (fun _ _ _ h => h) (by rfl) (by assumption) ?_
        try simp only [List.setIfInBounds_toArray, List.set_cons_zero, List.set_cons_succ]
        refine takeNo (i := 23) (d := 40) rfl rfl (by kernel_rfl) (by kernel_rfl) (by kernel_rfl) (fun _ _ _ h => h) (by rfl) (by assumption) ?_
        try simp only [List.setIfInBounds_toArray, List.set_cons_zero, List.set_cons_succ]
        refine takeNo (i := 24) (d := 41) rfl rfl (by kernel_rfl) (by kernel_rfl) (by kernel_rfl) (fun _ _ _ h => h) (by rfl) (by assumption) ?_
        try simp only [List.setIfInBounds_toArray, List.set_cons_zero, List.set_cons_succ]
        refine takeNo (i := 25) (d := 42) rfl rfl (by kernel_rfl) (by kernel_rfl) (by kernel_rfl) (fun _ _ _ h => h) (by rfl) (by assumption) ?_
        try simp only [List.setIfInBounds_toArray, List.set_cons_zero, List.set_cons_succ]
        refine takeNo (i := 26) (d := 43) rfl rfl (by kernel_rfl) (by kernel_rfl) (by kernel_rfl) (fun _ _ _ h => h) (by rfl) (by assumption) ?_
        try simp only [List.setIfInBounds_toArray, List.set_cons_zero, List.set_cons_succ]
        refine takeNo (i := 27) (d := 44) rfl rfl (by kernel_rfl) (by kernel_rfl) (by kernel_rfl) (fun _ _ _ h => h) (by rfl) (by assumption) ?_
        try simp only [List.setIfInBounds_toArray, List.set_cons_zero, List.set_cons_succ]
        refine takeNo (i := 28) (d := 45) rfl rfl (by kernel_rfl) (by kernel_rfl) (by kernel_rfl) (fun _ _ _ h => h) (by rfl) (by assumption) ?_
        try simp only [List.setIfInBounds_toArray, List.set_cons_zero, List.set_cons_succ]
        refine takeNo (i := 29) (d := 46) rfl rfl (by kernel_rfl) (by kernel_rfl) (by kernel_rfl) (fun _ _ _ h => h) (by rfl) (by assumption) ?_
        try simp only [List.setIfInBounds_toArray, List.set_cons_zero, List.set_cons_succ]
        refine wpAnyH_ready (rs := [30]) (by kernel_rfl) (by simp) ?_
        refine AllReadyH.cons rfl (fun K hK => ?_) AllReadyH.nil
        go_simp
        refine hK.out _ _ ?_ (fun hHeld30 => ?_)
        · (try dsimp only); refine ⟨?_, ?_, ?_, ?_⟩ <;> first | (go_simp; done) | (exact cell_later (by assumption) (by go_simp))
        clear hK
        refine takeNo (i := 31) (d := 48) rfl rfl (by kernel_rfl) (by kernel_rfl) (by kernel_rfl) (fun _ _ _ h => h) (by rfl) (by assumption) ?_
        try simp only [List.setIfInBounds_toArray, List.set_cons_zero, List.set_cons_succ]
        refine takeNo (i := 32) (d := 49) rfl rfl (by kernel_rfl) (by kernel_rfl) (by kernel_rfl) (fun _ _ _ h => h) (by rfl) (by assumption) ?_
        try simp only [List.setIfInBounds_toArray, List.set_cons_zero, List.set_cons_succ]
        refine takeYes (i := 33) (d := 50) (v := ?_) rfl rfl (by kernel_rfl) (by kernel_rfl) (by kernel_rfl) (fun _ _ _ h => h) (by rfl) (by assumption) ?_ ?_
        rotate_left
        · intro w' hSw; (try dsimp only at hSw); go_simp; try exact rfl
        try simp only [List.setIfInBounds_toArray, List.set_cons_zero, List.set_cons_succ]
        refine wpAnyH_done (by kernel_rfl) ?_ _
        go_wp2
        go_returns
        refine ⟨ret_bool ?_, by repeat (first | exact Below.refl _ _ | refine Below.drew ?_ | refine Below.alloc ?_ (by first | (simp; done) | (simp; omega) | omega) _ | refine Below.setCell ?_ (by first | (simp; done) | (simp; omega) | omega) _ | refine bstep (by assumption) (by first | (simp; done) | (simp; omega) | omega) ?_)⟩
        unfold okBag
        rw [HE.out, HS.out, HN.out]
        simp
      have hn1 : (x.n == 0) = false := by simpa using hn0
      by_cases hcn : (decide (-1000000000 ≤ x.n) && decide (x.n ≤ 1000000000)) = true
      rotate_left
      · have HN : Hid (okN x.n = false) := okN_out hcn
        have hcf : (decide (-1000000000 ≤ x.n) && decide (x.n ≤ 1000000000)) = false := by simpa using hcn
        subst hq
        clear ha hw hL hx hn0 hcn
        go_wp2_with fail
        refine wp_region_held_drew (S := (fun w' => w'.cell? ⟨w.heap.size, 0, none⟩ = some (.int .i64 W) ∧ w'.cell? ⟨w.heap.size, 1, none⟩ = some (.slice (some ⟨b, o, none⟩) cs.length c) ∧ w'.cell? ⟨wr.heap.size, 0, none⟩ = some (.slice ur lr cr) ∧ w'.cell? ⟨wr.heap.size, 1, none⟩ = some (.int .i64 x.n))) (by kernel_rfl) ?_ (fun hHeld => ?_)
        · (try dsimp only); refine ⟨?_, ?_, ?_, ?_⟩ <;> first | (go_simp; done) | (exact cell_later (by assumption) (by go_simp))
        refine takeYes (i := 0) (d := 17) (v := ?_) rfl rfl (by kernel_rfl) (by kernel_rfl) (by kernel_rfl) (fun _ _ _ h => h) (by rfl) (by assumption) ?_ ?_
        rotate_left
        · intro w' hSw; (try dsimp only at hSw); go_simp; try exact rfl
        try simp only [List.setIfInBounds_toArray, List.set_cons_zero, List.set_cons_succ]
        refine takeYes (i := 1) (d := 18) (v := ?_) rfl rfl (by kernel_rfl) (by kernel_rfl) (by kernel_rfl) (fun _ _ _ h => h) (by rfl) (by assumption) ?_ ?_
        rotate_left
        · intro w' hSw; (try dsimp only at hSw); go_simp; try exact rfl
        try simp only [List.setIfInBounds_toArray, List.set_cons_zero, List.set_cons_succ]
        refine takeYes (i := 2) (d := 19) (v := ?_) rfl rfl (by kernel_rfl) (by kernel_rfl) (by kernel_rfl) (fun _ _ _ h => h) (by rfl) (by assumption) ?_ ?_
        rotate_left
        · intro w' hSw; (try dsimp only at hSw); go_simp; try exact rfl
        try simp only [List.setIfInBounds_toArray, List.set_cons_zero, List.set_cons_succ]
        refine takeYes (i := 3) (d := 20) (v := ?_) rfl rfl (by kernel_rfl) (by kernel_rfl) (by kernel_rfl) (fun _ _ _ h => h) (by rfl) (by assumption) ?_ ?_
        rotate_left
        · intro w' hSw; (try dsimp only at hSw); go_simp; try exact rfl
        try simp only [List.setIfInBounds_toArray, List.set_cons_zero, List.set_cons_succ]
        refine wpAnyH_ready (rs := [4]) (by kernel_rfl) (by simp) ?_
        refine AllReadyH.cons rfl (fun K hK => ?_) AllReadyH.nil
        go_simp
        go_at_call 22
        refine Calls.mono (l02Row_any (.slice ur lr cr) x.r W _ (hR.below (by repeat (first | exact Below.refl _ _ | refine Below.drew ?_ | refine Below.alloc ?_ (by first | (simp; done) | (simp; omega) | omega) _ | refine Below.setCell ?_ (by first | (simp; done) | (simp; omega) | omega) _ | refine bstep (by assumption) (by first | (simp; done) | (simp; omega) | omega) ?_))) hxw) ?_
        rintro e w1 ⟨rfl, hb1⟩
        have hz1 := hb1.size
        (try simp at hz1)
        try go_wp2_with fail
        refine hK.out _ _ ?_ (fun hHeld4 => ?_)
        · (try dsimp only); refine ⟨?_, ?_, ?_, ?_⟩ <;> first | (go_simp; done) | (exact cell_later (by assumption) (by go_simp))
        clear hK
        refine takeYes (i := 5) (d := 22) (v := ?_) rfl rfl (by kernel_rfl) (by kernel_rfl) (by kernel_rfl) (fun _ _ _ h => h) (by rfl) (by assumption) ?_ ?_
        rotate_left
        · intro w' hSw; (try dsimp only at hSw); go_simp; try exact rfl
        try simp only [List.setIfInBounds_toArray, List.set_cons_zero, List.set_cons_succ]
        refine takeYes (i := 6) (d := 23) (v := ?_) rfl rfl (by kernel_rfl) (by kernel_rfl) (by kernel_rfl) (fun _ _ _ h => h) (by rfl) (by assumption) ?_ ?_
        rotate_left
        · intro w' hSw; (try dsimp only at hSw); go_simp; try exact rfl
        try simp only [List.setIfInBounds_toArray, List.set_cons_zero, List.set_cons_succ]
        refine takeYes (i := 7) (d := 24) (v := ?_) rfl rfl (by kernel_rfl) (by kernel_rfl) (by kernel_rfl) (fun _ _ _ h => h) (by rfl) (by assumption) ?_ ?_
        rotate_left
        · intro w' hSw; (try dsimp only at hSw); go_simp; try exact rfl
        try simp only [List.setIfInBounds_toArray, List.set_cons_zero, List.set_cons_succ]
        refine takeYes (i := 8) (d := 25) (v := ?_) rfl rfl (by kernel_rfl) (by kernel_rfl) (by kernel_rfl) (fun _ _ _ h => h) (by rfl) (by assumption) ?_ ?_
        rotate_left
        · intro w' hSw; (try dsimp only at hSw); go_simp; try exact rfl
        try simp only [List.setIfInBounds_toArray, List.set_cons_zero, List.set_cons_succ]
        refine takeYes (i := 9) (d := 26) (v := ?_) rfl rfl (by kernel_rfl) (by kernel_rfl) (by kernel_rfl) (fun _ _ _ h => h) (by rfl) (by assumption) ?_ ?_
        rotate_left
        · intro w' hSw; (try dsimp only at hSw); go_simp; try exact rfl
        try simp only [List.setIfInBounds_toArray, List.set_cons_zero, List.set_cons_succ]
        refine takeYes (i := 10) (d := 27) (v := ?_) rfl rfl (by kernel_rfl) (by kernel_rfl) (by kernel_rfl) (fun _ _ _ h => h) (by rfl) (by assumption) ?_ ?_
        rotate_left
        · intro w' hSw; (try dsimp only at hSw); go_simp; try exact rfl
        try simp only [List.setIfInBounds_toArray, List.set_cons_zero, List.set_cons_succ]
        refine takeYes (i := 11) (d := 28) (v := ?_) rfl rfl (by kernel_rfl) (by kernel_rfl) (by kernel_rfl) (fun _ _ _ h => h) (by rfl) (by assumption) ?_ ?_
        rotate_left
        · intro w' hSw; (try dsimp only at hSw); go_simp; try exact rfl
        try simp only [List.setIfInBounds_toArray, List.set_cons_zero, List.set_cons_succ]
        refine takeYes (i := 12) (d := 29) (v := ?_) rfl rfl (by kernel_rfl) (by kernel_rfl) (by kernel_rfl) (fun _ _ _ h => h) (by rfl) (by assumption) ?_ ?_
        rotate_left
        · intro w' hSw; (try dsimp only at hSw); go_simp; try exact rfl
        try simp only [List.setIfInBounds_toArray, List.set_cons_zero, List.set_cons_succ]
        refine takeYes (i := 13) (d := 30) (v := ?_) rfl rfl (by kernel_rfl) (by kernel_rfl) (by kernel_rfl) (fun _ _ _ h => h) (by rfl) (by assumption) ?_ ?_
        rotate_left
        · intro w' hSw; (try dsimp only at hSw); go_simp; try exact rfl
        try simp only [List.setIfInBounds_toArray, List.set_cons_zero, List.set_cons_succ]
        refine wpAnyH_ready (rs := [14]) (by kernel_rfl) (by simp) ?_
        refine AllReadyH.cons rfl (fun K hK => ?_) AllReadyH.nil
        go_simp
        go_at_call 23
        refine Calls.mono (l01In_any x.n (-1000000000) 1000000000 _) ?_
        rintro e w2 ⟨rfl, hb2⟩
        have hz2 := hb2.size
        (try simp at hz2)
        try go_wp2_with fail
        refine hK.out _ _ ?_ (fun hHeld14 => ?_)
        · (try dsimp only); refine ⟨?_, ?_, ?_, ?_⟩ <;> first | (go_simp; done) | (exact cell_later (by assumption) (by go_simp))
        clear hK
        refine takeYes (i := 15) (d := 32) (v := ?_) rfl rfl (by kernel_rfl) (by kernel_rfl) (by kernel_rfl) (fun _ _ _ h => h) (by rfl) (by assumption) ?_ ?_
        rotate_left
        · intro w' hSw; (try dsimp only at hSw); go_simp; try exact rfl
        try simp only [List.setIfInBounds_toArray, List.set_cons_zero, List.set_cons_succ]
        refine takeYes (i := 16) (d := 33) (v := ?_) rfl rfl (by kernel_rfl) (by kernel_rfl) (by kernel_rfl) (fun _ _ _ h => h) (by rfl) (by assumption) ?_ ?_
        rotate_left
        · intro w' hSw; (try dsimp only at hSw); go_simp; try exact rfl
        try simp only [List.setIfInBounds_toArray, List.set_cons_zero, List.set_cons_succ]
        refine takeYes (i := 17) (d := 34) (v := ?_) rfl rfl (by kernel_rfl) (by kernel_rfl) (by kernel_rfl) (fun _ _ _ h => h) (by rfl) (by assumption) ?_ ?_
        rotate_left
        · intro w' hSw; (try dsimp only at hSw); go_simp; try exact rfl
        try simp only [List.setIfInBounds_toArray, List.set_cons_zero, List.set_cons_succ]
        refine takeNo (i := 18) (d := 35) rfl rfl (by kernel_rfl) (by kernel_rfl) (by kernel_rfl) (fun _ _ _ h => h) (by rfl) (by assumption) ?_
        try simp only [List.setIfInBounds_toArray, List.set_cons_zero, List.set_cons_succ]
        refine takeNo (i := 19) (d := 36) rfl rfl (by kernel_rfl) (by kernel_rfl) (by kernel_rfl) (fun _ _ _ h => h) (by rfl) (by assumption) ?_
        try simp only [List.setIfInBounds_toArray, List.set_cons_zero, List.set_cons_succ]
        refine takeNo (i := 20) (d := 37) rfl rfl (by kernel_rfl) (by kernel_rfl) (by kernel_rfl) (fun _ _ _ h => h) (by rfl) (by assumption) ?_
        try simp only [List.setIfInBounds_toArray, List.set_cons_zero, List.set_cons_succ]
        refine takeNo (i := 21) (d := 38) rfl rfl (by kernel_rfl) (by kernel_rfl) (by kernel_rfl) (fun _ _ _ h => h) (by rfl) (by assumption) ?_
        try simp only [List.setIfInBounds_toArray, List.set_cons_zero, List.set_cons_succ]
        refine takeNo (i := 22) (d := 39) rfl rfl (by kernel_rfl) (by kernel_rfl) (by kernel_rfl) (fun _ _ _ h => h) (by rfl) (by assumption) ?_
        try simp only [List.setIfInBounds_toArray, List.set_cons_zero, List.set_cons_succ]
        refine takeNo (i := 23) (d := 40) rfl rfl (by kernel_rfl) (by kernel_rfl) (by kernel_rfl) (fun _ _ _ h => h) (by rfl) (by assumption) ?_
        try simp only [List.setIfInBounds_toArray, List.set_cons_zero, List.set_cons_succ]
        refine takeNo (i := 24) (d := 41) rfl rfl (by kernel_rfl) (by kernel_rfl) (by kernel_rfl) (fun _ _ _ h => h) (by rfl) (by assumption) ?_
        try simp only [List.setIfInBounds_toArray, List.set_cons_zero, List.set_cons_succ]
        refine takeNo (i := 25) (d := 42) rfl rfl (by kernel_rfl) (by kernel_rfl) (by kernel_rfl) (fun _ _ _ h => h) (by rfl) (by assumption) ?_
        try simp only [List.setIfInBounds_toArray, List.set_cons_zero, List.set_cons_succ]
        refine takeNo (i := 26) (d := 43) rfl rfl (by kernel_rfl) (by kernel_rfl) (by kernel_rfl) (fun _ _ _ h => h) (by rfl) (by assumption) ?_
        try simp only [List.setIfInBounds_toArray, List.set_cons_zero, List.set_cons_succ]
        refine takeNo (i := 27) (d := 44) rfl rfl (by kernel_rfl) (by kernel_rfl) (by kernel_rfl) (fun _ _ _ h => h) (by rfl) (by assumption) ?_
        try simp only [List.setIfInBounds_toArray, List.set_cons_zero, List.set_cons_succ]
        refine takeNo (i := 28) (d := 45) rfl rfl (by kernel_rfl) (by kernel_rfl) (by kernel_rfl) (fun _ _ _ h => h) (by rfl) (by assumption) ?_
        try simp only [List.setIfInBounds_toArray, List.set_cons_zero, List.set_cons_succ]
        refine takeNo (i := 29) (d := 46) rfl rfl (by kernel_rfl) (by kernel_rfl) (by kernel_rfl) (fun _ _ _ h => h) (by rfl) (by assumption) ?_
        try simp only [List.setIfInBounds_toArray, List.set_cons_zero, List.set_cons_succ]
        refine wpAnyH_ready (rs := [30]) (by kernel_rfl) (by simp) ?_
        refine AllReadyH.cons rfl (fun K hK => ?_) AllReadyH.nil
        go_simp
        refine hK.out _ _ ?_ (fun hHeld30 => ?_)
        · (try dsimp only); refine ⟨?_, ?_, ?_, ?_⟩ <;> first | (go_simp; done) | (exact cell_later (by assumption) (by go_simp))
        clear hK
        refine takeNo (i := 31) (d := 48) rfl rfl (by kernel_rfl) (by kernel_rfl) (by kernel_rfl) (fun _ _ _ h => h) (by rfl) (by assumption) ?_
        try simp only [List.setIfInBounds_toArray, List.set_cons_zero, List.set_cons_succ]
        refine takeNo (i := 32) (d := 49) rfl rfl (by kernel_rfl) (by kernel_rfl) (by kernel_rfl) (fun _ _ _ h => h) (by rfl) (by assumption) ?_
        try simp only [List.setIfInBounds_toArray, List.set_cons_zero, List.set_cons_succ]
        refine takeYes (i := 33) (d := 50) (v := ?_) rfl rfl (by kernel_rfl) (by kernel_rfl) (by kernel_rfl) (fun _ _ _ h => h) (by rfl) (by assumption) ?_ ?_
        rotate_left
        · intro w' hSw; (try dsimp only at hSw); go_simp; try exact rfl
        try simp only [List.setIfInBounds_toArray, List.set_cons_zero, List.set_cons_succ]
        refine wpAnyH_done (by kernel_rfl) ?_ _
        go_wp2
        go_returns
        refine ⟨ret_bool ?_, by repeat (first | exact Below.refl _ _ | refine Below.drew ?_ | refine Below.alloc ?_ (by first | (simp; done) | (simp; omega) | omega) _ | refine Below.setCell ?_ (by first | (simp; done) | (simp; omega) | omega) _ | refine bstep (by assumption) (by first | (simp; done) | (simp; omega) | omega) ?_)⟩
        unfold okBag
        rw [HE.out, HS.out, HN.out]
        simp
      have HN : Hid (okN x.n = true) := okN_in hn0 hcn
      clear hn0
      rcases Nat.eq_zero_or_pos k with hk0 | hk0
      · subst hk0
        obtain rfl : q = 0 := by simpa using hq
        rw [Nat.zero_mul, Nat.add_zero] at c0
        rw [Nat.zero_mul, Nat.add_zero] at c1
        clear ha hw hL hx hq
        go_wp2_with fail
        refine wp_region_held_drew (S := (fun w' => w'.cell? ⟨w.heap.size, 0, none⟩ = some (.int .i64 W) ∧ w'.cell? ⟨w.heap.size, 1, none⟩ = some (.slice (some ⟨b, o, none⟩) cs.length c) ∧ w'.cell? ⟨wr.heap.size, 0, none⟩ = some (.slice ur lr cr) ∧ w'.cell? ⟨wr.heap.size, 1, none⟩ = some (.int .i64 x.n))) (by kernel_rfl) ?_ (fun hHeld => ?_)
        · (try dsimp only); refine ⟨?_, ?_, ?_, ?_⟩ <;> first | (go_simp; done) | (exact cell_later (by assumption) (by go_simp))
        refine takeYes (i := 0) (d := 17) (v := ?_) rfl rfl (by kernel_rfl) (by kernel_rfl) (by kernel_rfl) (fun _ _ _ h => h) (by rfl) (by assumption) ?_ ?_
        rotate_left
        · intro w' hSw; (try dsimp only at hSw); go_simp; try exact rfl
        try simp only [List.setIfInBounds_toArray, List.set_cons_zero, List.set_cons_succ]
        refine takeYes (i := 1) (d := 18) (v := ?_) rfl rfl (by kernel_rfl) (by kernel_rfl) (by kernel_rfl) (fun _ _ _ h => h) (by rfl) (by assumption) ?_ ?_
        rotate_left
        · intro w' hSw; (try dsimp only at hSw); go_simp; try exact rfl
        try simp only [List.setIfInBounds_toArray, List.set_cons_zero, List.set_cons_succ]
        refine takeYes (i := 2) (d := 19) (v := ?_) rfl rfl (by kernel_rfl) (by kernel_rfl) (by kernel_rfl) (fun _ _ _ h => h) (by rfl) (by assumption) ?_ ?_
        rotate_left
        · intro w' hSw; (try dsimp only at hSw); go_simp; try exact rfl
        try simp only [List.setIfInBounds_toArray, List.set_cons_zero, List.set_cons_succ]
        refine takeYes (i := 3) (d := 20) (v := ?_) rfl rfl (by kernel_rfl) (by kernel_rfl) (by kernel_rfl) (fun _ _ _ h => h) (by rfl) (by assumption) ?_ ?_
        rotate_left
        · intro w' hSw; (try dsimp only at hSw); go_simp; try exact rfl
        try simp only [List.setIfInBounds_toArray, List.set_cons_zero, List.set_cons_succ]
        refine wpAnyH_ready (rs := [4]) (by kernel_rfl) (by simp) ?_
        refine AllReadyH.cons rfl (fun K hK => ?_) AllReadyH.nil
        go_simp
        go_at_call 22
        refine Calls.mono (l02Row_any (.slice ur lr cr) x.r W _ (hR.below (by repeat (first | exact Below.refl _ _ | refine Below.drew ?_ | refine Below.alloc ?_ (by first | (simp; done) | (simp; omega) | omega) _ | refine Below.setCell ?_ (by first | (simp; done) | (simp; omega) | omega) _ | refine bstep (by assumption) (by first | (simp; done) | (simp; omega) | omega) ?_))) hxw) ?_
        rintro e w1 ⟨rfl, hb1⟩
        have hz1 := hb1.size
        (try simp at hz1)
        try go_wp2_with fail
        refine hK.out _ _ ?_ (fun hHeld4 => ?_)
        · (try dsimp only); refine ⟨?_, ?_, ?_, ?_⟩ <;> first | (go_simp; done) | (exact cell_later (by assumption) (by go_simp))
        clear hK
        refine takeYes (i := 5) (d := 22) (v := ?_) rfl rfl (by kernel_rfl) (by kernel_rfl) (by kernel_rfl) (fun _ _ _ h => h) (by rfl) (by assumption) ?_ ?_
        rotate_left
        · intro w' hSw; (try dsimp only at hSw); go_simp; try exact rfl
        try simp only [List.setIfInBounds_toArray, List.set_cons_zero, List.set_cons_succ]
        refine takeYes (i := 6) (d := 23) (v := ?_) rfl rfl (by kernel_rfl) (by kernel_rfl) (by kernel_rfl) (fun _ _ _ h => h) (by rfl) (by assumption) ?_ ?_
        rotate_left
        · intro w' hSw; (try dsimp only at hSw); go_simp; try exact rfl
        try simp only [List.setIfInBounds_toArray, List.set_cons_zero, List.set_cons_succ]
        refine takeYes (i := 7) (d := 24) (v := ?_) rfl rfl (by kernel_rfl) (by kernel_rfl) (by kernel_rfl) (fun _ _ _ h => h) (by rfl) (by assumption) ?_ ?_
        rotate_left
        · intro w' hSw; (try dsimp only at hSw); go_simp; try exact rfl
        try simp only [List.setIfInBounds_toArray, List.set_cons_zero, List.set_cons_succ]
        refine takeYes (i := 8) (d := 25) (v := ?_) rfl rfl (by kernel_rfl) (by kernel_rfl) (by kernel_rfl) (fun _ _ _ h => h) (by rfl) (by assumption) ?_ ?_
        rotate_left
        · intro w' hSw; (try dsimp only at hSw); go_simp; try exact rfl
        try simp only [List.setIfInBounds_toArray, List.set_cons_zero, List.set_cons_succ]
        refine takeYes (i := 9) (d := 26) (v := ?_) rfl rfl (by kernel_rfl) (by kernel_rfl) (by kernel_rfl) (fun _ _ _ h => h) (by rfl) (by assumption) ?_ ?_
        rotate_left
        · intro w' hSw; (try dsimp only at hSw); go_simp; try exact rfl
        try simp only [List.setIfInBounds_toArray, List.set_cons_zero, List.set_cons_succ]
        refine takeYes (i := 10) (d := 27) (v := ?_) rfl rfl (by kernel_rfl) (by kernel_rfl) (by kernel_rfl) (fun _ _ _ h => h) (by rfl) (by assumption) ?_ ?_
        rotate_left
        · intro w' hSw; (try dsimp only at hSw); go_simp; try exact rfl
        try simp only [List.setIfInBounds_toArray, List.set_cons_zero, List.set_cons_succ]
        refine takeYes (i := 11) (d := 28) (v := ?_) rfl rfl (by kernel_rfl) (by kernel_rfl) (by kernel_rfl) (fun _ _ _ h => h) (by rfl) (by assumption) ?_ ?_
        rotate_left
        · intro w' hSw; (try dsimp only at hSw); go_simp; try exact rfl
        try simp only [List.setIfInBounds_toArray, List.set_cons_zero, List.set_cons_succ]
        refine takeYes (i := 12) (d := 29) (v := ?_) rfl rfl (by kernel_rfl) (by kernel_rfl) (by kernel_rfl) (fun _ _ _ h => h) (by rfl) (by assumption) ?_ ?_
        rotate_left
        · intro w' hSw; (try dsimp only at hSw); go_simp; try exact rfl
        try simp only [List.setIfInBounds_toArray, List.set_cons_zero, List.set_cons_succ]
        refine takeYes (i := 13) (d := 30) (v := ?_) rfl rfl (by kernel_rfl) (by kernel_rfl) (by kernel_rfl) (fun _ _ _ h => h) (by rfl) (by assumption) ?_ ?_
        rotate_left
        · intro w' hSw; (try dsimp only at hSw); go_simp; try exact rfl
        try simp only [List.setIfInBounds_toArray, List.set_cons_zero, List.set_cons_succ]
        refine wpAnyH_ready (rs := [14]) (by kernel_rfl) (by simp) ?_
        refine AllReadyH.cons rfl (fun K hK => ?_) AllReadyH.nil
        go_simp
        go_at_call 23
        refine Calls.mono (l01In_any x.n (-1000000000) 1000000000 _) ?_
        rintro e w2 ⟨rfl, hb2⟩
        have hz2 := hb2.size
        (try simp at hz2)
        try go_wp2_with fail
        refine hK.out _ _ ?_ (fun hHeld14 => ?_)
        · (try dsimp only); refine ⟨?_, ?_, ?_, ?_⟩ <;> first | (go_simp; done) | (exact cell_later (by assumption) (by go_simp))
        clear hK
        refine takeYes (i := 15) (d := 32) (v := ?_) rfl rfl (by kernel_rfl) (by kernel_rfl) (by kernel_rfl) (fun _ _ _ h => h) (by rfl) (by assumption) ?_ ?_
        rotate_left
        · intro w' hSw; (try dsimp only at hSw); go_simp; try exact rfl
        try simp only [List.setIfInBounds_toArray, List.set_cons_zero, List.set_cons_succ]
        refine takeYes (i := 16) (d := 33) (v := ?_) rfl rfl (by kernel_rfl) (by kernel_rfl) (by kernel_rfl) (fun _ _ _ h => h) (by rfl) (by assumption) ?_ ?_
        rotate_left
        · intro w' hSw; (try dsimp only at hSw); go_simp; try exact rfl
        try simp only [List.setIfInBounds_toArray, List.set_cons_zero, List.set_cons_succ]
        refine takeYes (i := 17) (d := 34) (v := ?_) rfl rfl (by kernel_rfl) (by kernel_rfl) (by kernel_rfl) (fun _ _ _ h => h) (by rfl) (by assumption) ?_ ?_
        rotate_left
        · intro w' hSw; (try dsimp only at hSw); go_simp; try exact rfl
        try simp only [List.setIfInBounds_toArray, List.set_cons_zero, List.set_cons_succ]
        refine takeYes (i := 18) (d := 35) (v := ?_) rfl rfl (by kernel_rfl) (by kernel_rfl) (by kernel_rfl) (fun _ _ _ h => h) (by rfl) (by assumption) ?_ ?_
        rotate_left
        · intro w' hSw; (try dsimp only at hSw); go_simp; try exact rfl
        try simp only [List.setIfInBounds_toArray, List.set_cons_zero, List.set_cons_succ]
        refine takeYes (i := 19) (d := 36) (v := ?_) rfl rfl (by kernel_rfl) (by kernel_rfl) (by kernel_rfl) (fun _ _ _ h => h) (by rfl) (by assumption) ?_ ?_
        rotate_left
        · intro w' hSw; (try dsimp only at hSw); go_simp; try exact rfl
        try simp only [List.setIfInBounds_toArray, List.set_cons_zero, List.set_cons_succ]
        refine takeYes (i := 20) (d := 37) (v := ?_) rfl rfl (by kernel_rfl) (by kernel_rfl) (by kernel_rfl) (fun _ _ _ h => h) (by rfl) (by assumption) ?_ ?_
        rotate_left
        · intro w' hSw; (try dsimp only at hSw); go_simp; try exact rfl
        try simp only [List.setIfInBounds_toArray, List.set_cons_zero, List.set_cons_succ]
        refine takeNo (i := 21) (d := 38) rfl rfl (by kernel_rfl) (by kernel_rfl) (by kernel_rfl) (fun _ _ _ h => h) (by rfl) (by assumption) ?_
        try simp only [List.setIfInBounds_toArray, List.set_cons_zero, List.set_cons_succ]
        refine takeNo (i := 22) (d := 39) rfl rfl (by kernel_rfl) (by kernel_rfl) (by kernel_rfl) (fun _ _ _ h => h) (by rfl) (by assumption) ?_
        try simp only [List.setIfInBounds_toArray, List.set_cons_zero, List.set_cons_succ]
        refine takeNo (i := 23) (d := 40) rfl rfl (by kernel_rfl) (by kernel_rfl) (by kernel_rfl) (fun _ _ _ h => h) (by rfl) (by assumption) ?_
        try simp only [List.setIfInBounds_toArray, List.set_cons_zero, List.set_cons_succ]
        refine takeNo (i := 24) (d := 41) rfl rfl (by kernel_rfl) (by kernel_rfl) (by kernel_rfl) (fun _ _ _ h => h) (by rfl) (by assumption) ?_
        try simp only [List.setIfInBounds_toArray, List.set_cons_zero, List.set_cons_succ]
        refine takeNo (i := 25) (d := 42) rfl rfl (by kernel_rfl) (by kernel_rfl) (by kernel_rfl) (fun _ _ _ h => h) (by rfl) (by assumption) ?_
        try simp only [List.setIfInBounds_toArray, List.set_cons_zero, List.set_cons_succ]
        refine takeNo (i := 26) (d := 43) rfl rfl (by kernel_rfl) (by kernel_rfl) (by kernel_rfl) (fun _ _ _ h => h) (by rfl) (by assumption) ?_
        try simp only [List.setIfInBounds_toArray, List.set_cons_zero, List.set_cons_succ]
        refine takeNo (i := 27) (d := 44) rfl rfl (by kernel_rfl) (by kernel_rfl) (by kernel_rfl) (fun _ _ _ h => h) (by rfl) (by assumption) ?_
        try simp only [List.setIfInBounds_toArray, List.set_cons_zero, List.set_cons_succ]
        refine takeNo (i := 28) (d := 45) rfl rfl (by kernel_rfl) (by kernel_rfl) (by kernel_rfl) (fun _ _ _ h => h) (by rfl) (by assumption) ?_
        try simp only [List.setIfInBounds_toArray, List.set_cons_zero, List.set_cons_succ]
        refine takeNo (i := 29) (d := 46) rfl rfl (by kernel_rfl) (by kernel_rfl) (by kernel_rfl) (fun _ _ _ h => h) (by rfl) (by assumption) ?_
        try simp only [List.setIfInBounds_toArray, List.set_cons_zero, List.set_cons_succ]
        refine wpAnyH_ready (rs := [30]) (by kernel_rfl) (by simp) ?_
        refine AllReadyH.cons rfl (fun K hK => ?_) AllReadyH.nil
        go_simp
        refine hK.out _ _ ?_ (fun hHeld30 => ?_)
        · (try dsimp only); refine ⟨?_, ?_, ?_, ?_⟩ <;> first | (go_simp; done) | (exact cell_later (by assumption) (by go_simp))
        clear hK
        refine takeNo (i := 31) (d := 48) rfl rfl (by kernel_rfl) (by kernel_rfl) (by kernel_rfl) (fun _ _ _ h => h) (by rfl) (by assumption) ?_
        try simp only [List.setIfInBounds_toArray, List.set_cons_zero, List.set_cons_succ]
        refine takeYes (i := 32) (d := 49) (v := ?_) rfl rfl (by kernel_rfl) (by kernel_rfl) (by kernel_rfl) (fun _ _ _ h => h) (by rfl) (by assumption) ?_ ?_
        rotate_left
        · intro w' hSw; (try dsimp only at hSw); go_simp; try exact rfl
        try simp only [List.setIfInBounds_toArray, List.set_cons_zero, List.set_cons_succ]
        refine takeYes (i := 33) (d := 50) (v := ?_) rfl rfl (by kernel_rfl) (by kernel_rfl) (by kernel_rfl) (fun _ _ _ h => h) (by rfl) (by assumption) ?_ ?_
        rotate_left
        · intro w' hSw; (try dsimp only at hSw); go_simp; try exact rfl
        try simp only [List.setIfInBounds_toArray, List.set_cons_zero, List.set_cons_succ]
        refine wpAnyH_done (by kernel_rfl) ?_ _
        obtain ⟨r0, r1, _⟩ := hHeld30
        go_wp2
        go_roundw
        case rel =>
          refine ⟨1, 1, hlt, rfl, by simp, by repeat (first | exact Below.refl _ _ | refine Below.drew ?_ | refine Below.alloc ?_ (by first | (simp; done) | (simp; omega) | omega) _ | refine Below.setCell ?_ (by first | (simp; done) | (simp; omega) | omega) _ | refine bstep (by assumption) (by first | (simp; done) | (simp; omega) | omega) ?_), by (first | omega | (simp; omega)), r0, r1, ?_⟩
          rw [HE.out, HS.out, hok, HN.out, prev_zero]
          simp [okPrev]
        case measure => simp [intOf]; omega
      · obtain ⟨j, rfl⟩ : ∃ j, k = j + 1 := ⟨k - 1, by omega⟩
        obtain rfl : q = (j : Int) + 1 := by omega
        obtain ⟨y, t, hy, d0, hT, d1, _⟩ := hL.at hblt hb (show j < cs.length by omega)
        have HP : Hid (prev cs (j + 1) = some y) := prev_succ hy
        have HQ : Hid (okPrev (prev cs (j + 1)) x = decide (cmpRow y.r x.r < 0)) := by rw [HP.out]; rfl
        have hw1 : IntKind.i64.wrap (j : Int) = j := by rw [IntKind.wrap_i64]; omega
        have hw2 : IntKind.i64.wrap ((j : Int) + 1 - 1) = j := by rw [IntKind.wrap_i64]; omega
        have hi0 : (0 : Int) ≤ j := by omega
        have hi1 : (j : Int) < cs.length := by omega
        have hi2 : (0 : Int) < (j : Int) + 1 := by omega
        clear ha hw hL hx hy hq
        go_wp2_with fail
        go_region_held3 (fun w' => w'.cell? ⟨w.heap.size, 0, none⟩ = some (.int .i64 W) ∧ w'.cell? ⟨w.heap.size, 1, none⟩ = some (.slice (some ⟨b, o, none⟩) cs.length c) ∧ w'.cell? ⟨wr.heap.size, 0, none⟩ = some (.slice ur lr cr) ∧ w'.cell? ⟨wr.heap.size, 1, none⟩ = some (.int .i64 x.n) ∧ w'.cell? ⟨b, o + j * 2, none⟩ = some t) (refine ⟨?_, ?_, ?_, ?_, ?_⟩ <;> first | (go_simp; done) | (exact cell_later (by assumption) (by go_simp))) (first | (go_at_call 22; refine Calls.mono (l02Row_any (.slice ur lr cr) x.r W _ (hR.below (by repeat (first | exact Below.refl _ _ | refine Below.drew ?_ | refine Below.alloc ?_ (by first | (simp; done) | (simp; omega) | omega) _ | refine Below.setCell ?_ (by first | (simp; done) | (simp; omega) | omega) _ | refine bstep (by assumption) (by first | (simp; done) | (simp; omega) | omega) ?_))) hxw) ?_; rintro e w1 ⟨rfl, hb1⟩; have hz1 := hb1.size; (try simp at hz1)) | (go_at_call 23; refine Calls.mono (l01In_any x.n (-1000000000) 1000000000 _) ?_; rintro e w2 ⟨rfl, hb2⟩; have hz2 := hb2.size; (try simp at hz2)) | (go_at_call 24; refine Calls.mono (specRow_any t (.slice ur lr cr) y.r x.r _ (hT.below (by repeat (first | exact Below.refl _ _ | refine Below.drew ?_ | refine Below.alloc ?_ (by first | (simp; done) | (simp; omega) | omega) _ | refine Below.setCell ?_ (by first | (simp; done) | (simp; omega) | omega) _ | refine bstep (by assumption) (by first | (simp; done) | (simp; omega) | omega) ?_))) (hR.below (by repeat (first | exact Below.refl _ _ | refine Below.drew ?_ | refine Below.alloc ?_ (by first | (simp; done) | (simp; omega) | omega) _ | refine Below.setCell ?_ (by first | (simp; done) | (simp; omega) | omega) _ | refine bstep (by assumption) (by first | (simp; done) | (simp; omega) | omega) ?_)))) ?_; rintro e w3 ⟨rfl, hb3⟩; have hz3 := hb3.size; (try simp at hz3)))
        rename_i hHeld
        obtain ⟨r0, r1, _⟩ := hHeld
        by_cases hcmp : 0 ≤ cmpRow y.r x.r
        · go_wp2
          go_returns
          refine ⟨ret_bool ?_, by repeat (first | exact Below.refl _ _ | refine Below.drew ?_ | refine Below.alloc ?_ (by first | (simp; done) | (simp; omega) | omega) _ | refine Below.setCell ?_ (by first | (simp; done) | (simp; omega) | omega) _ | refine bstep (by assumption) (by first | (simp; done) | (simp; omega) | omega) ?_)⟩
          unfold okBag
          rw [HE.out, HS.out, HQ.out]
          simp [show ¬ cmpRow y.r x.r < 0 from by omega]
        · go_wp2
          go_roundw
          case rel =>
            refine ⟨j + 1 + 1, (j : Int) + 1 + 1, hlt, by omega, by simp, by repeat (first | exact Below.refl _ _ | refine Below.drew ?_ | refine Below.alloc ?_ (by first | (simp; done) | (simp; omega) | omega) _ | refine Below.setCell ?_ (by first | (simp; done) | (simp; omega) | omega) _ | refine bstep (by assumption) (by first | (simp; done) | (simp; omega) | omega) ?_), by (first | omega | (simp; omega)), r0, r1, ?_⟩
            rw [HE.out, HS.out, HQ.out, hok, HN.out]
            simp [show cmpRow y.r x.r < 0 from by omega]
          case measure => simp [intOf]; omega
    · have HN : Hid (okCs W none cs = true) := by rw [HE.out, List.drop_eq_nil_of_le (by omega)]; exact rfl
      clear ha hw
      by_cases h0 : (decide (0 ≤ W) && decide (W ≤ 12)) = true
      · go_wp2_with (first | (go_at_call 23; refine Calls.mono (l01In_any W 0 12 _) ?_; rintro e w1 ⟨rfl, hb1⟩; have hz1 := hb1.size; have r1 : w1.cell? ⟨w.heap.size, 1, none⟩ = some (.slice a cs.length c) := cell_later hb1 (by go_simp)) | fail)
        all_goals go_returns
        all_goals refine ⟨ret_bool ?_, by repeat (first | exact Below.refl _ _ | refine Below.drew ?_ | refine Below.alloc ?_ (by first | (simp; done) | (simp; omega) | omega) _ | refine Below.setCell ?_ (by first | (simp; done) | (simp; omega) | omega) _ | refine bstep (by assumption) (by first | (simp; done) | (simp; omega) | omega) ?_)⟩
        all_goals (unfold okBag; rw [HN.out, h0, Bool.and_true, Bool.true_and])
        all_goals first | rfl | (simp; try omega)
      · go_wp2_with (first | (go_at_call 23; refine Calls.mono (l01In_any W 0 12 _) ?_; rintro e w1 ⟨rfl, hb1⟩; have hz1 := hb1.size; have r1 : w1.cell? ⟨w.heap.size, 1, none⟩ = some (.slice a cs.length c) := cell_later hb1 (by go_simp)) | fail)
        all_goals go_returns
        all_goals refine ⟨ret_bool ?_, by repeat (first | exact Below.refl _ _ | refine Below.drew ?_ | refine Below.alloc ?_ (by first | (simp; done) | (simp; omega) | omega) _ | refine Below.setCell ?_ (by first | (simp; done) | (simp; omega) | omega) _ | refine bstep (by assumption) (by first | (simp; done) | (simp; omega) | omega) ?_)⟩
        all_goals (unfold okBag; rw [show (decide (0 ≤ W) && decide (W ≤ 12)) = false from by simpa using h0, Bool.false_and, Bool.false_and])
        all_goals first | rfl | (simp_all; try omega)
end Go.Proofs.Ytobbfmcfibmicaa
/- Own text. The contract of spec.AddBag. -/
namespace Go.Proofs.Ytobbfmcfibmicaa
open Go.RowKit Go.Shelf
set_option linter.unusedVariables false
set_option maxHeartbeats 2000000 in
set_option maxRecDepth 100000 in
theorem specAdd_any (W Wb : Int) (va vb : Value) (cs ds : List C2) (F F2 : List Nat) (w : World) (ha : RowsF w va cs F) (hb : RowsF w vb ds F2) (hn : wtb cs ≤ 1048576) (hn2 : wtb ds ≤ 1048576) (wc : CsWf cs) (wd : CsWf ds) :
    Calls Try.prog 5 #[.agg #[.int .i64 W, va], .agg #[.int .i64 Wb, vb]] w fun e w' => (∃ u us G, e = .returned (.agg #[.int .i64 W, u]) ∧ BagOwn w' w.heap.size u (addC W Wb cs ds) us G) ∧ Below w.heap.size w w' := by
  obtain ⟨aa, ca, rfl⟩ : ∃ a c, va = .slice a cs.length c := by obtain ⟨a, c, _, e, _⟩ := ha; exact ⟨a, c, e⟩
  obtain ⟨ab, cb, rfl⟩ : ∃ a c, vb = .slice a ds.length c := by obtain ⟨a, c, _, e, _⟩ := hb; exact ⟨a, c, e⟩
  go_enter Try.func5, Try.ntmps5
  go_wp2_with fail
  refine Calls.mono (specBagOk_any W (.slice aa cs.length ca) cs _ wc (ha.is.below ?hba)) ?_
  case hba => repeat (first | (with_reducible exact Below.refl _ _) | (with_reducible refine Below.drew ?_) | (with_reducible refine Below.alloc ?_ ?hh _; case hh => first | (simp; done) | (simp; omega) | omega) | (with_reducible refine Below.setCell ?_ ?hh _; case hh => first | (simp; done) | (simp; omega) | omega) | refine bstep (by assumption) (by first | (simp; done) | (simp; omega) | omega) ?_)
  rintro e w1 ⟨rfl, hb1⟩
  have hz1 := hb1.size
  (try simp at hz1)
  have ap0 : w1.cell? ⟨w.heap.size, 0, none⟩ = some (.int .i64 W) := cell_later hb1 (by go_simp)
  have ap1 : w1.cell? ⟨w.heap.size, 1, none⟩ = some (.slice aa cs.length ca) := cell_later hb1 (by go_simp)
  have aq0 : w1.cell? ⟨w.heap.size + 1, 0, none⟩ = some (.int .i64 Wb) := cell_later hb1 (by go_simp)
  have aq1 : w1.cell? ⟨w.heap.size + 1, 1, none⟩ = some (.slice ab ds.length cb) := cell_later hb1 (by go_simp)
  have ar0 : w1.cell? ⟨w.heap.size + 1 + 1, 0, none⟩ = some (.int .i64 0) := cell_later hb1 (by go_simp)
  have ar1 : w1.cell? ⟨w.heap.size + 1 + 1, 1, none⟩ = some (.slice none 0 0) := cell_later hb1 (by go_simp)
  have arf : ∀ q, w1.frozen? ⟨w.heap.size + 1 + 1, q, none⟩ = false := fun q => ((bcell hb1).2 _ q (by first | omega | (simp; done) | (simp; omega))).trans (by go_simp)
  have abw : Below w.heap.size w w1 := by repeat (first | (with_reducible exact Below.refl _ _) | (with_reducible refine Below.drew ?_) | (with_reducible refine Below.alloc ?_ ?hh _; case hh => first | (simp; done) | (simp; omega) | omega) | (with_reducible refine Below.setCell ?_ ?hh _; case hh => first | (simp; done) | (simp; omega) | omega) | refine bstep (by assumption) (by first | (simp; done) | (simp; omega) | omega) ?_)
  have az : w.heap.size + 1 + 1 < w1.heap.size := by omega
  have az0 : w.heap.size < w1.heap.size := by omega
  have az1 : w.heap.size + 1 < w1.heap.size := by omega
  clear hb1
  cases hok : okBag W cs with
  | false =>
    have HA : Hid (addC W Wb cs ds = cs) := addC_no (by rw [sumOk, hok]; rfl)
    clear hb
    go_wp2_with fail
    refine Calls.mono (l02Copy_any W (.slice aa cs.length ca) cs F _ (ha.below ?hba) hn) ?_
    case hba => repeat (first | (with_reducible exact Below.refl _ _) | (with_reducible refine Below.drew ?_) | (with_reducible refine Below.alloc ?_ ?hh _; case hh => first | (simp; done) | (simp; omega) | omega) | (with_reducible refine Below.setCell ?_ ?hh _; case hh => first | (simp; done) | (simp; omega) | omega) | refine bstep (by assumption) (by first | (simp; done) | (simp; omega) | omega) ?_)
    rintro e w7 ⟨⟨u7, us7, G7, rfl, hO7⟩, hb7⟩
    obtain ⟨a7, n7, rfl⟩ := hO7.shape
    have hz7 := hb7.size
    (try simp at hz7)
    have z0 : w7.cell? ⟨w.heap.size + 1 + 1, 0, none⟩ = some (.int .i64 0) := cell_later hb7 (by go_simp)
    have z1 : w7.cell? ⟨w.heap.size + 1 + 1, 1, none⟩ = some (.slice none 0 0) := cell_later hb7 (by go_simp)
    have zf : ∀ q, w7.frozen? ⟨w.heap.size + 1 + 1, q, none⟩ = false := fun q => ((bcell hb7).2 _ q (by first | omega | (simp; done) | (simp; omega))).trans (by go_simp)
    have hw7 : w.heap.size + 1 + 1 < w7.heap.size := by omega
    have hbw7 : Below w.heap.size w w7 := by repeat (first | (with_reducible exact Below.refl _ _) | (with_reducible refine Below.drew ?_) | (with_reducible refine Below.alloc ?_ ?hh _; case hh => first | (simp; done) | (simp; omega) | omega) | (with_reducible refine Below.setCell ?_ ?hh _; case hh => first | (simp; done) | (simp; omega) | omega) | refine bstep (by assumption) (by first | (simp; done) | (simp; omega) | omega) ?_)
    replace hO7 := hO7.weak (M := w.heap.size + 1 + 1 + 1) (by first | omega | (simp; done) | (simp; omega))
    clear ap0 ap1 aq0 aq1 ar0 ar1 arf hb7
    go_wp2_with fail
    refine bodyPost_ret (v := .agg #[.int .i64 W, .slice a7 cs.length n7]) (by simp [results, Try.results5, go_sem, *]) rfl ⟨⟨_, us7, G7, rfl, by rw [HA.out]; exact (hO7.keep (w' := _) (by simp) fun k hk _ => (by rw [Below.heap_setCell _ _ _ _ (by first | omega | (simp; done) | (simp; omega)), Below.heap_setCell _ _ _ _ (by first | omega | (simp; done) | (simp; omega))])).weak (by omega)⟩, ?_⟩
    exact (hbw7.setCell (by first | omega | (simp; done) | (simp; omega)) _).setCell (by first | omega | (simp; done) | (simp; omega)) _
  | true =>
    go_wp2_with fail
    refine Calls.mono (specBagOk_any Wb (.slice ab ds.length cb) ds _ wd (hb.is.below ?hbb)) ?_
    case hbb => repeat (first | (with_reducible exact Below.refl _ _) | (with_reducible refine Below.drew ?_) | (with_reducible refine Below.alloc ?_ ?hh _; case hh => first | (simp; done) | (simp; omega) | omega) | (with_reducible refine Below.setCell ?_ ?hh _; case hh => first | (simp; done) | (simp; omega) | omega) | refine bstep (by assumption) (by first | (simp; done) | (simp; omega) | omega) ?_)
    rintro e w2 ⟨rfl, hb2⟩
    have hz2 := hb2.size
    (try simp at hz2)
    have bp0 : w2.cell? ⟨w.heap.size, 0, none⟩ = some (.int .i64 W) := cell_later hb2 (by go_simp)
    have bp1 : w2.cell? ⟨w.heap.size, 1, none⟩ = some (.slice aa cs.length ca) := cell_later hb2 (by go_simp)
    have bq0 : w2.cell? ⟨w.heap.size + 1, 0, none⟩ = some (.int .i64 Wb) := cell_later hb2 (by go_simp)
    have bq1 : w2.cell? ⟨w.heap.size + 1, 1, none⟩ = some (.slice ab ds.length cb) := cell_later hb2 (by go_simp)
    have br0 : w2.cell? ⟨w.heap.size + 1 + 1, 0, none⟩ = some (.int .i64 0) := cell_later hb2 (by go_simp)
    have br1 : w2.cell? ⟨w.heap.size + 1 + 1, 1, none⟩ = some (.slice none 0 0) := cell_later hb2 (by go_simp)
    have brf : ∀ q, w2.frozen? ⟨w.heap.size + 1 + 1, q, none⟩ = false := fun q => ((bcell hb2).2 _ q (by first | omega | (simp; done) | (simp; omega))).trans (by go_simp)
    have bbw : Below w.heap.size w w2 := by repeat (first | (with_reducible exact Below.refl _ _) | (with_reducible refine Below.drew ?_) | (with_reducible refine Below.alloc ?_ ?hh _; case hh => first | (simp; done) | (simp; omega) | omega) | (with_reducible refine Below.setCell ?_ ?hh _; case hh => first | (simp; done) | (simp; omega) | omega) | refine bstep (by assumption) (by first | (simp; done) | (simp; omega) | omega) ?_)
    have bz : w.heap.size + 1 + 1 < w2.heap.size := by omega
    have bz0 : w.heap.size < w2.heap.size := by omega
    have bz1 : w.heap.size + 1 < w2.heap.size := by omega
    clear hb2 ap0 ap1 aq0 aq1 ar0 ar1 arf
    cases hok2 : okBag Wb ds with
    | false =>
      have HA : Hid (addC W Wb cs ds = cs) := addC_no (by rw [sumOk, hok, hok2]; rfl)
      clear hb
      go_wp2_with fail
      refine Calls.mono (l02Copy_any W (.slice aa cs.length ca) cs F _ (ha.below ?hba) hn) ?_
      case hba => repeat (first | (with_reducible exact Below.refl _ _) | (with_reducible refine Below.drew ?_) | (with_reducible refine Below.alloc ?_ ?hh _; case hh => first | (simp; done) | (simp; omega) | omega) | (with_reducible refine Below.setCell ?_ ?hh _; case hh => first | (simp; done) | (simp; omega) | omega) | refine bstep (by assumption) (by first | (simp; done) | (simp; omega) | omega) ?_)
      rintro e w7 ⟨⟨u7, us7, G7, rfl, hO7⟩, hb7⟩
      obtain ⟨a7, n7, rfl⟩ := hO7.shape
      have hz7 := hb7.size
      (try simp at hz7)
      have z0 : w7.cell? ⟨w.heap.size + 1 + 1, 0, none⟩ = some (.int .i64 0) := cell_later hb7 (by go_simp)
      have z1 : w7.cell? ⟨w.heap.size + 1 + 1, 1, none⟩ = some (.slice none 0 0) := cell_later hb7 (by go_simp)
      have zf : ∀ q, w7.frozen? ⟨w.heap.size + 1 + 1, q, none⟩ = false := fun q => ((bcell hb7).2 _ q (by first | omega | (simp; done) | (simp; omega))).trans (by go_simp)
      have hw7 : w.heap.size + 1 + 1 < w7.heap.size := by omega
      have hbw7 : Below w.heap.size w w7 := by repeat (first | (with_reducible exact Below.refl _ _) | (with_reducible refine Below.drew ?_) | (with_reducible refine Below.alloc ?_ ?hh _; case hh => first | (simp; done) | (simp; omega) | omega) | (with_reducible refine Below.setCell ?_ ?hh _; case hh => first | (simp; done) | (simp; omega) | omega) | refine bstep (by assumption) (by first | (simp; done) | (simp; omega) | omega) ?_)
      replace hO7 := hO7.weak (M := w.heap.size + 1 + 1 + 1) (by first | omega | (simp; done) | (simp; omega))
      clear bp0 bp1 bq0 bq1 br0 br1 brf hb7
      go_wp2_with fail
      refine bodyPost_ret (v := .agg #[.int .i64 W, .slice a7 cs.length n7]) (by simp [results, Try.results5, go_sem, *]) rfl ⟨⟨_, us7, G7, rfl, by rw [HA.out]; exact (hO7.keep (w' := _) (by simp) fun k hk _ => (by rw [Below.heap_setCell _ _ _ _ (by first | omega | (simp; done) | (simp; omega)), Below.heap_setCell _ _ _ _ (by first | omega | (simp; done) | (simp; omega))])).weak (by omega)⟩, ?_⟩
      exact (hbw7.setCell (by first | omega | (simp; done) | (simp; omega)) _).setCell (by first | omega | (simp; done) | (simp; omega)) _
    | true =>
      by_cases hww : W = Wb
      rotate_left
      · have hwI : (W != Wb) = true := by simpa using hww
        have HA : Hid (addC W Wb cs ds = cs) := addC_no (by rw [sumOk, hok, hok2]; simp [hww])
        clear hb
        go_wp2_with fail
        refine Calls.mono (l02Copy_any W (.slice aa cs.length ca) cs F _ (ha.below ?hba) hn) ?_
        case hba => repeat (first | (with_reducible exact Below.refl _ _) | (with_reducible refine Below.drew ?_) | (with_reducible refine Below.alloc ?_ ?hh _; case hh => first | (simp; done) | (simp; omega) | omega) | (with_reducible refine Below.setCell ?_ ?hh _; case hh => first | (simp; done) | (simp; omega) | omega) | refine bstep (by assumption) (by first | (simp; done) | (simp; omega) | omega) ?_)
        rintro e w7 ⟨⟨u7, us7, G7, rfl, hO7⟩, hb7⟩
        obtain ⟨a7, n7, rfl⟩ := hO7.shape
        have hz7 := hb7.size
        (try simp at hz7)
        have z0 : w7.cell? ⟨w.heap.size + 1 + 1, 0, none⟩ = some (.int .i64 0) := cell_later hb7 (by go_simp)
        have z1 : w7.cell? ⟨w.heap.size + 1 + 1, 1, none⟩ = some (.slice none 0 0) := cell_later hb7 (by go_simp)
        have zf : ∀ q, w7.frozen? ⟨w.heap.size + 1 + 1, q, none⟩ = false := fun q => ((bcell hb7).2 _ q (by first | omega | (simp; done) | (simp; omega))).trans (by go_simp)
        have hw7 : w.heap.size + 1 + 1 < w7.heap.size := by omega
        have hbw7 : Below w.heap.size w w7 := by repeat (first | (with_reducible exact Below.refl _ _) | (with_reducible refine Below.drew ?_) | (with_reducible refine Below.alloc ?_ ?hh _; case hh => first | (simp; done) | (simp; omega) | omega) | (with_reducible refine Below.setCell ?_ ?hh _; case hh => first | (simp; done) | (simp; omega) | omega) | refine bstep (by assumption) (by first | (simp; done) | (simp; omega) | omega) ?_)
        replace hO7 := hO7.weak (M := w.heap.size + 1 + 1 + 1) (by first | omega | (simp; done) | (simp; omega))
        clear bp0 bp1 bq0 bq1 br0 br1 brf hb7
        go_wp2_with fail
        refine bodyPost_ret (v := .agg #[.int .i64 W, .slice a7 cs.length n7]) (by simp [results, Try.results5, go_sem, *]) rfl ⟨⟨_, us7, G7, rfl, by rw [HA.out]; exact (hO7.keep (w' := _) (by simp) fun k hk _ => (by rw [Below.heap_setCell _ _ _ _ (by first | omega | (simp; done) | (simp; omega)), Below.heap_setCell _ _ _ _ (by first | omega | (simp; done) | (simp; omega))])).weak (by omega)⟩, ?_⟩
        exact (hbw7.setCell (by first | omega | (simp; done) | (simp; omega)) _).setCell (by first | omega | (simp; done) | (simp; omega)) _
      · subst hww
        obtain ⟨_, _, _, ac, gc⟩ := okBag_all hok wc
        obtain ⟨_, _, _, ad, gd⟩ := okBag_all hok2 wd
        obtain ⟨P, HP⟩ : ∃ P, Hid (sumC cs ds 1 = P) := ⟨_, rfl⟩
        have hPw : CsWf P := by rw [← HP.out]; exact sumC_wf hok hok2 wc wd
        have hK : sumOk W W cs ds = okBag W P := by rw [sumOk, hok, hok2, HP.out]; simp
        go_wp2_with fail
        refine Calls.mono (l02Sum_any W W 1 (.slice aa cs.length ca) (.slice ab ds.length cb) cs ds F F2 _ (ha.below ?hba) (hb.below ?hbb) hn hn2 ac (fun c hc => (gc c hc).2.1) (fun c hc => by have := (gc c hc).2.2; omega) (fun c hc => by have := (gd c hc).2.2; omega) P HP) ?_
        case hba => repeat (first | (with_reducible exact Below.refl _ _) | (with_reducible refine Below.drew ?_) | (with_reducible refine Below.alloc ?_ ?hh _; case hh => first | (simp; done) | (simp; omega) | omega) | (with_reducible refine Below.setCell ?_ ?hh _; case hh => first | (simp; done) | (simp; omega) | omega) | refine bstep (by assumption) (by first | (simp; done) | (simp; omega) | omega) ?_)
        case hbb => repeat (first | (with_reducible exact Below.refl _ _) | (with_reducible refine Below.drew ?_) | (with_reducible refine Below.alloc ?_ ?hh _; case hh => first | (simp; done) | (simp; omega) | omega) | (with_reducible refine Below.setCell ?_ ?hh _; case hh => first | (simp; done) | (simp; omega) | omega) | refine bstep (by assumption) (by first | (simp; done) | (simp; omega) | omega) ?_)
        rintro e w3 ⟨⟨u3, us3, G3, rfl, hO3⟩, hb3⟩
        obtain ⟨a3, n3, rfl⟩ := hO3.shape
        have hz3 := hb3.size
        (try simp at hz3)
        have cp0 : w3.cell? ⟨w.heap.size, 0, none⟩ = some (.int .i64 W) := cell_later hb3 (by go_simp)
        have cp1 : w3.cell? ⟨w.heap.size, 1, none⟩ = some (.slice aa cs.length ca) := cell_later hb3 (by go_simp)
        have cq0 : w3.cell? ⟨w.heap.size + 1, 0, none⟩ = some (.int .i64 W) := cell_later hb3 (by go_simp)
        have cq1 : w3.cell? ⟨w.heap.size + 1, 1, none⟩ = some (.slice ab ds.length cb) := cell_later hb3 (by go_simp)
        have cr0 : w3.cell? ⟨w.heap.size + 1 + 1, 0, none⟩ = some (.int .i64 0) := cell_later hb3 (by go_simp)
        have cr1 : w3.cell? ⟨w.heap.size + 1 + 1, 1, none⟩ = some (.slice none 0 0) := cell_later hb3 (by go_simp)
        have crf : ∀ q, w3.frozen? ⟨w.heap.size + 1 + 1, q, none⟩ = false := fun q => ((bcell hb3).2 _ q (by first | omega | (simp; done) | (simp; omega))).trans (by go_simp)
        have cbw : Below w.heap.size w w3 := by repeat (first | (with_reducible exact Below.refl _ _) | (with_reducible refine Below.drew ?_) | (with_reducible refine Below.alloc ?_ ?hh _; case hh => first | (simp; done) | (simp; omega) | omega) | (with_reducible refine Below.setCell ?_ ?hh _; case hh => first | (simp; done) | (simp; omega) | omega) | refine bstep (by assumption) (by first | (simp; done) | (simp; omega) | omega) ?_)
        have cz : w.heap.size + 1 + 1 < w3.heap.size := by omega
        have cz0 : w.heap.size < w3.heap.size := by omega
        have cz1 : w.heap.size + 1 < w3.heap.size := by omega
        clear hb3 bp0 bp1 bq0 bq1 br0 br1 brf
        obtain ⟨FP, hFP, _⟩ := hO3.rowsF
        have hRP := hFP.is
        clear hFP ac gc ad gd
        go_wp2_with fail
        refine Calls.mono (specBagOk_any W (.slice a3 P.length n3) P _ hPw (hRP.below ?hbp)) ?_
        case hbp => repeat (first | (with_reducible exact Below.refl _ _) | (with_reducible refine Below.drew ?_) | (with_reducible refine Below.alloc ?_ ?hh _; case hh => first | (simp; done) | (simp; omega) | omega) | (with_reducible refine Below.setCell ?_ ?hh _; case hh => first | (simp; done) | (simp; omega) | omega) | refine bstep (by assumption) (by first | (simp; done) | (simp; omega) | omega) ?_)
        rintro e w4 ⟨rfl, hb4⟩
        have hz4 := hb4.size
        (try simp at hz4)
        have t0 : w4.cell? ⟨w3.heap.size, 0, none⟩ = some (.int .i64 W) := cell_later hb4 (by go_simp)
        have t1 : w4.cell? ⟨w3.heap.size, 1, none⟩ = some (.slice a3 P.length n3) := cell_later hb4 (by go_simp)
        have hb34 : Below w3.heap.size w3 w4 := by repeat (first | (with_reducible exact Below.refl _ _) | (with_reducible refine Below.drew ?_) | (with_reducible refine Below.alloc ?_ ?hh _; case hh => first | (simp; done) | (simp; omega) | omega) | (with_reducible refine Below.setCell ?_ ?hh _; case hh => first | (simp; done) | (simp; omega) | omega) | refine bstep (by assumption) (by first | (simp; done) | (simp; omega) | omega) ?_)
        have hz34 : w3.heap.size < w4.heap.size := by omega
        have dp0 : w4.cell? ⟨w.heap.size, 0, none⟩ = some (.int .i64 W) := cell_later hb4 (by go_simp)
        have dp1 : w4.cell? ⟨w.heap.size, 1, none⟩ = some (.slice aa cs.length ca) := cell_later hb4 (by go_simp)
        have dq0 : w4.cell? ⟨w.heap.size + 1, 0, none⟩ = some (.int .i64 W) := cell_later hb4 (by go_simp)
        have dq1 : w4.cell? ⟨w.heap.size + 1, 1, none⟩ = some (.slice ab ds.length cb) := cell_later hb4 (by go_simp)
        have dr0 : w4.cell? ⟨w.heap.size + 1 + 1, 0, none⟩ = some (.int .i64 0) := cell_later hb4 (by go_simp)
        have dr1 : w4.cell? ⟨w.heap.size + 1 + 1, 1, none⟩ = some (.slice none 0 0) := cell_later hb4 (by go_simp)
        have drf : ∀ q, w4.frozen? ⟨w.heap.size + 1 + 1, q, none⟩ = false := fun q => ((bcell hb4).2 _ q (by first | omega | (simp; done) | (simp; omega))).trans (by go_simp)
        have dbw : Below w.heap.size w w4 := by repeat (first | (with_reducible exact Below.refl _ _) | (with_reducible refine Below.drew ?_) | (with_reducible refine Below.alloc ?_ ?hh _; case hh => first | (simp; done) | (simp; omega) | omega) | (with_reducible refine Below.setCell ?_ ?hh _; case hh => first | (simp; done) | (simp; omega) | omega) | refine bstep (by assumption) (by first | (simp; done) | (simp; omega) | omega) ?_)
        have dz : w.heap.size + 1 + 1 < w4.heap.size := by omega
        have dz0 : w.heap.size < w4.heap.size := by omega
        have dz1 : w.heap.size + 1 < w4.heap.size := by omega
        clear hb4 cp0 cp1 cq0 cq1 cr0 cr1 crf
        cases hok4 : okBag W P with
        | false =>
          have HA : Hid (addC W W cs ds = cs) := addC_no (by rw [hK, hok4])
          clear hb hO3
          go_wp2_with fail
          refine Calls.mono (l02Copy_any W (.slice aa cs.length ca) cs F _ (ha.below ?hba) hn) ?_
          case hba => repeat (first | (with_reducible exact Below.refl _ _) | (with_reducible refine Below.drew ?_) | (with_reducible refine Below.alloc ?_ ?hh _; case hh => first | (simp; done) | (simp; omega) | omega) | (with_reducible refine Below.setCell ?_ ?hh _; case hh => first | (simp; done) | (simp; omega) | omega) | refine bstep (by assumption) (by first | (simp; done) | (simp; omega) | omega) ?_)
          rintro e w7 ⟨⟨u7, us7, G7, rfl, hO7⟩, hb7⟩
          obtain ⟨a7, n7, rfl⟩ := hO7.shape
          have hz7 := hb7.size
          (try simp at hz7)
          have z0 : w7.cell? ⟨w.heap.size + 1 + 1, 0, none⟩ = some (.int .i64 0) := cell_later hb7 (by go_simp)
          have z1 : w7.cell? ⟨w.heap.size + 1 + 1, 1, none⟩ = some (.slice none 0 0) := cell_later hb7 (by go_simp)
          have zf : ∀ q, w7.frozen? ⟨w.heap.size + 1 + 1, q, none⟩ = false := fun q => ((bcell hb7).2 _ q (by first | omega | (simp; done) | (simp; omega))).trans (by go_simp)
          have hw7 : w.heap.size + 1 + 1 < w7.heap.size := by omega
          have hbw7 : Below w.heap.size w w7 := by repeat (first | (with_reducible exact Below.refl _ _) | (with_reducible refine Below.drew ?_) | (with_reducible refine Below.alloc ?_ ?hh _; case hh => first | (simp; done) | (simp; omega) | omega) | (with_reducible refine Below.setCell ?_ ?hh _; case hh => first | (simp; done) | (simp; omega) | omega) | refine bstep (by assumption) (by first | (simp; done) | (simp; omega) | omega) ?_)
          replace hO7 := hO7.weak (M := w.heap.size + 1 + 1 + 1) (by first | omega | (simp; done) | (simp; omega))
          clear dp0 dp1 dq0 dq1 dr0 dr1 drf t0 t1 hb7
          go_wp2_with fail
          refine bodyPost_ret (v := .agg #[.int .i64 W, .slice a7 cs.length n7]) (by simp [results, Try.results5, go_sem, *]) rfl ⟨⟨_, us7, G7, rfl, by rw [HA.out]; exact (hO7.keep (w' := _) (by simp) fun k hk _ => (by rw [Below.heap_setCell _ _ _ _ (by first | omega | (simp; done) | (simp; omega)), Below.heap_setCell _ _ _ _ (by first | omega | (simp; done) | (simp; omega))])).weak (by omega)⟩, ?_⟩
          exact (hbw7.setCell (by first | omega | (simp; done) | (simp; omega)) _).setCell (by first | omega | (simp; done) | (simp; omega)) _
        | true =>
          have HA : Hid (addC W W cs ds = P) := by rw [Hid, addC_yes (by rw [hK, hok4]), HP.out]
          replace hO3 := (hO3.below hb34).weak (M := w.heap.size + 1 + 1 + 1) (by first | omega | (simp; done) | (simp; omega))
          clear ha hb
          go_wp2_with fail
          refine bodyPost_ret (v := .agg #[.int .i64 W, .slice a3 P.length n3]) (by simp [results, Try.results5, go_sem, *]) rfl ⟨⟨_, us3, G3, rfl, by rw [HA.out]; exact (hO3.keep (w' := _) (by simp) fun k hk _ => (by rw [Below.heap_setCell _ _ _ _ (by first | omega | (simp; done) | (simp; omega)), Below.heap_setCell _ _ _ _ (by first | omega | (simp; done) | (simp; omega))])).weak (by omega)⟩, ?_⟩
          exact (dbw.setCell (by first | omega | (simp; done) | (simp; omega)) _).setCell (by first | omega | (simp; done) | (simp; omega)) _
end Go.Proofs.Ytobbfmcfibmicaa
/- Own text. What the statement on AddBag holds together; the weight of two bags together. -/
namespace Go.Proofs.Ytobbfmcfibmicaa
open Go.RowKit
set_option linter.unusedVariables false
theorem wtb_addC (W Wb : Int) (cs ds : List C2) : wtb (addC W Wb cs ds) ≤ wtb cs + wtb ds := by
  unfold addC
  split
  · exact wtb_sumC 1 ds cs
  · omega
/-- what is known of the answers of region 8 and of region 31. -/
def RB (W Wb : Int) (cs ds : List C2) (i : Nat) (v : Value) (w : World) (bs : List Nat) : Prop := ∃ u, v = .agg #[.int .i64 (if i = 3 then Wb else W), u] ∧ RowsF w u (if i = 1 then cs else if i = 3 then ds else addC W Wb cs ds) bs
theorem RB.below {W Wb : Int} {cs ds : List C2} {i : Nat} {v : Value} {w w' : World} {bs : List Nat} (h : RB W Wb cs ds i v w bs) (hb : Below w.heap.size w w') : RB W Wb cs ds i v w' bs := by
  obtain ⟨u, e, hu⟩ := h
  exact ⟨u, e, hu.below hb⟩
theorem rb1 {W Wb : Int} {cs ds : List C2} {v : Value} {w : World} {bs : List Nat} : RB W Wb cs ds 1 v w bs ↔ ∃ u, v = .agg #[.int .i64 W, u] ∧ RowsF w u cs bs := by simp [RB]
theorem rb3 {W Wb : Int} {cs ds : List C2} {v : Value} {w : World} {bs : List Nat} : RB W Wb cs ds 3 v w bs ↔ ∃ u, v = .agg #[.int .i64 Wb, u] ∧ RowsF w u ds bs := by simp [RB]
theorem rb4 {W Wb : Int} {cs ds : List C2} {v : Value} {w : World} {bs : List Nat} : RB W Wb cs ds 4 v w bs ↔ ∃ u, v = .agg #[.int .i64 W, u] ∧ RowsF w u (addC W Wb cs ds) bs := by simp [RB]
structure St3 (w wi : World) (N6 A7 A8 A9 : Nat) (W Wb : Int) (va vb s u t g : Value) (R X X2 Y : List C2) (F3 F4 F5 F6 : List Nat) : Prop where
  bel : Below w.heap.size w wi
  pa : Var2 wi (w.heap.size) (.int .i64 W) va
  pb : Var2 wi (w.heap.size + 1) (.int .i64 Wb) vb
  ps : Var2 wi N6 (.int .i64 W) s
  px : Var2 wi A7 (.int .i64 W) u
  py : Var2 wi A8 (.int .i64 Wb) t
  pg : Var2 wi A9 (.int .i64 W) g
  sp : RowsF wi s R F3
  xx : RowsF wi u X F4
  yy : RowsF wi t X2 F5
  gg : RowsF wi g Y F6
  o4 : Own wi w.heap.size F4
  o5 : Own wi w.heap.size F5
  o6 : Own wi w.heap.size F6
  n4 : ∀ b ∈ F4, (b ≠ (w.heap.size) ∧ b ≠ (w.heap.size + 1) ∧ b ≠ N6 ∧ b ≠ A7 ∧ b ≠ A8 ∧ b ≠ A9) ∧ b ∉ F3 ∧ b ∉ F5 ∧ b ∉ F6
  n5 : ∀ b ∈ F5, (b ≠ (w.heap.size) ∧ b ≠ (w.heap.size + 1) ∧ b ≠ N6 ∧ b ≠ A7 ∧ b ≠ A8 ∧ b ≠ A9) ∧ b ∉ F3 ∧ b ∉ F4 ∧ b ∉ F6
  n6 : ∀ b ∈ F6, (b ≠ (w.heap.size) ∧ b ≠ (w.heap.size + 1) ∧ b ≠ N6 ∧ b ≠ A7 ∧ b ≠ A8 ∧ b ≠ A9) ∧ b ∉ F3 ∧ b ∉ F4 ∧ b ∉ F5
section
variable {w wi wj : World} {N6 A7 A8 A9 : Nat} {W Wb : Int} {va vb s u t g : Value} {R X X2 Y : List C2} {F3 F4 F5 F6 : List Nat}
theorem St3.below (h : St3 w wi N6 A7 A8 A9 W Wb va vb s u t g R X X2 Y F3 F4 F5 F6) (hb : Below wi.heap.size wi wj) : St3 w wj N6 A7 A8 A9 W Wb va vb s u t g R X X2 Y F3 F4 F5 F6 :=
  ⟨h.bel.trans (hb.mono h.bel.size), h.pa.below hb, h.pb.below hb, h.ps.below hb, h.px.below hb, h.py.below hb, h.pg.below hb, h.sp.below hb, h.xx.below hb, h.yy.below hb, h.gg.below hb, h.o4.below h.xx.lt hb, h.o5.below h.yy.lt hb, h.o6.below h.gg.lt hb, h.n4, h.n5, h.n6⟩
theorem St3.markX (h : St3 w wi N6 A7 A8 A9 W Wb va vb s u t g R X X2 Y F3 F4 F5 F6) {Z : List C2} (hc : Chg F4 wi wj) (hz : RowsF wj u Z F4) : St3 w wj N6 A7 A8 A9 W Wb va vb s u t g R Z X2 Y F3 F4 F5 F6 := by
  have c : ∀ b, b < wi.heap.size → b ∉ F4 → wj.heap[b]? = wi.heap[b]? := fun b hb hF => hc.block b hb hF
  exact ⟨h.bel.trans (hc.below h.o4.2.1 h.bel.size), h.pa.keep hc.size (c _ h.pa.lt fun hb => (h.n4 _ hb).1.1 rfl), h.pb.keep hc.size (c _ h.pb.lt fun hb => (h.n4 _ hb).1.2.1 rfl), h.ps.keep hc.size (c _ h.ps.lt fun hb => (h.n4 _ hb).1.2.2.1 rfl), h.px.keep hc.size (c _ h.px.lt fun hb => (h.n4 _ hb).1.2.2.2.1 rfl), h.py.keep hc.size (c _ h.py.lt fun hb => (h.n4 _ hb).1.2.2.2.2.1 rfl), h.pg.keep hc.size (c _ h.pg.lt fun hb => (h.n4 _ hb).1.2.2.2.2.2 rfl), h.sp.chg hc (fun b hb hb' => (h.n4 b hb').2.1 hb), hz, h.yy.chg hc (fun b hb hb' => (h.n4 b hb').2.2.1 hb), h.gg.chg hc (fun b hb hb' => (h.n4 b hb').2.2.2 hb), ⟨h.o4.1, h.o4.2.1, hc.free h.o4.2.2⟩, h.o5.keep (fun b hb => c b (h.yy.lt b hb) fun hb' => (h.n4 b hb').2.2.1 hb), h.o6.keep (fun b hb => c b (h.gg.lt b hb) fun hb' => (h.n4 b hb').2.2.2 hb), h.n4, h.n5, h.n6⟩
theorem St3.markY (h : St3 w wi N6 A7 A8 A9 W Wb va vb s u t g R X X2 Y F3 F4 F5 F6) {Z : List C2} (hc : Chg F5 wi wj) (hz : RowsF wj t Z F5) : St3 w wj N6 A7 A8 A9 W Wb va vb s u t g R X Z Y F3 F4 F5 F6 := by
  have c : ∀ b, b < wi.heap.size → b ∉ F5 → wj.heap[b]? = wi.heap[b]? := fun b hb hF => hc.block b hb hF
  exact ⟨h.bel.trans (hc.below h.o5.2.1 h.bel.size), h.pa.keep hc.size (c _ h.pa.lt fun hb => (h.n5 _ hb).1.1 rfl), h.pb.keep hc.size (c _ h.pb.lt fun hb => (h.n5 _ hb).1.2.1 rfl), h.ps.keep hc.size (c _ h.ps.lt fun hb => (h.n5 _ hb).1.2.2.1 rfl), h.px.keep hc.size (c _ h.px.lt fun hb => (h.n5 _ hb).1.2.2.2.1 rfl), h.py.keep hc.size (c _ h.py.lt fun hb => (h.n5 _ hb).1.2.2.2.2.1 rfl), h.pg.keep hc.size (c _ h.pg.lt fun hb => (h.n5 _ hb).1.2.2.2.2.2 rfl), h.sp.chg hc (fun b hb hb' => (h.n5 b hb').2.1 hb), h.xx.chg hc (fun b hb hb' => (h.n5 b hb').2.2.1 hb), hz, h.gg.chg hc (fun b hb hb' => (h.n5 b hb').2.2.2 hb), h.o4.keep (fun b hb => c b (h.xx.lt b hb) fun hb' => (h.n5 b hb').2.2.1 hb), ⟨h.o5.1, h.o5.2.1, hc.free h.o5.2.2⟩, h.o6.keep (fun b hb => c b (h.gg.lt b hb) fun hb' => (h.n5 b hb').2.2.2 hb), h.n4, h.n5, h.n6⟩
theorem St3.markG (h : St3 w wi N6 A7 A8 A9 W Wb va vb s u t g R X X2 Y F3 F4 F5 F6) {Z : List C2} (hc : Chg F6 wi wj) (hz : RowsF wj g Z F6) : St3 w wj N6 A7 A8 A9 W Wb va vb s u t g R X X2 Z F3 F4 F5 F6 := by
  have c : ∀ b, b < wi.heap.size → b ∉ F6 → wj.heap[b]? = wi.heap[b]? := fun b hb hF => hc.block b hb hF
  exact ⟨h.bel.trans (hc.below h.o6.2.1 h.bel.size), h.pa.keep hc.size (c _ h.pa.lt fun hb => (h.n6 _ hb).1.1 rfl), h.pb.keep hc.size (c _ h.pb.lt fun hb => (h.n6 _ hb).1.2.1 rfl), h.ps.keep hc.size (c _ h.ps.lt fun hb => (h.n6 _ hb).1.2.2.1 rfl), h.px.keep hc.size (c _ h.px.lt fun hb => (h.n6 _ hb).1.2.2.2.1 rfl), h.py.keep hc.size (c _ h.py.lt fun hb => (h.n6 _ hb).1.2.2.2.2.1 rfl), h.pg.keep hc.size (c _ h.pg.lt fun hb => (h.n6 _ hb).1.2.2.2.2.2 rfl), h.sp.chg hc (fun b hb hb' => (h.n6 b hb').2.1 hb), h.xx.chg hc (fun b hb hb' => (h.n6 b hb').2.2.1 hb), h.yy.chg hc (fun b hb hb' => (h.n6 b hb').2.2.2 hb), hz, h.o4.keep (fun b hb => c b (h.xx.lt b hb) fun hb' => (h.n6 b hb').2.2.1 hb), h.o5.keep (fun b hb => c b (h.yy.lt b hb) fun hb' => (h.n6 b hb').2.2.2 hb), ⟨h.o6.1, h.o6.2.1, hc.free h.o6.2.2⟩, h.n4, h.n5, h.n6⟩
end
end Go.Proofs.Ytobbfmcfibmicaa
/- Own text. The walk of the statement on AddBag. -/
namespace Go.Proofs.Ytobbfmcfibmicaa.fnExactAddBag
open Go.RowKit
set_option linter.unusedVariables false
set_option maxHeartbeats 8000000 in
set_option maxRecDepth 100000 in
theorem walk (W : Int) (v : Value) (cs : List C2) (hW : (Lit.int .i64 W).wf = true) (wc : CsWf cs) (Wb : Int) (vb : Value) (ds : List C2) (hWb : (Lit.int .i64 Wb).wf = true) (wd : CsWf ds) (w : World) (hra : RowsIs w v cs) (hrb : RowsIs w vb ds) :
    Calls Try.prog 3 #[.agg #[.int .i64 W, v], .agg #[.int .i64 Wb, vb]] w fun e w' => e = .returned (.bool true) ∧ Below w.heap.size w w' := by
  obtain ⟨av, lv, cv, rfl⟩ := hra.shape
  obtain ⟨bv, lb, cb, rfl⟩ := hrb.shape
  go_enter Try.func3, Try.ntmps3
  go_wp2_with fail
  refine Calls.mono (szBag_any W (.slice av lv cv) cs 1048576 _ (hra.below ?hb) wc (by decide) (by decide)) ?_
  case hb => repeat (first | (with_reducible exact Below.refl _ _) | (with_reducible refine Below.drew ?_) | (with_reducible refine Below.alloc ?_ ?hh _; case hh => first | (simp; done) | (simp; omega) | omega) | (with_reducible refine Below.setCell ?_ ?hh _; case hh => first | (simp; done) | (simp; omega) | omega) | refine bstep (by assumption) (by first | (simp; done) | (simp; omega) | omega) ?_)
  rintro e w1 ⟨⟨z1, rfl, l1, g1, s1⟩, hb1⟩
  have hz1 := hb1.size
  simp only [World.size_alloc] at hz1
  have hA : Var2 w1 w.heap.size (.int .i64 W) (.slice av lv cv) := ((Var2.new w _ _ _).below ((Below.refl _ _).alloc (Nat.le_refl _) _)).below hb1
  have hB : Var2 w1 (w.heap.size + 1) (.int .i64 Wb) (.slice bv lb cb) := by
    have h := (Var2.new (w.alloc (.cells #[.int .i64 W, .slice av lv cv] 24)) (.int .i64 Wb) (.slice bv lb cb) 24).below hb1
    rw [World.size_alloc] at h
    exact h
  have hbw : Below w.heap.size w w1 := by repeat (first | (with_reducible exact Below.refl _ _) | (with_reducible refine Below.drew ?_) | (with_reducible refine Below.alloc ?_ ?hh _; case hh => first | (simp; done) | (simp; omega) | omega) | (with_reducible refine Below.setCell ?_ ?hh _; case hh => first | (simp; done) | (simp; omega) | omega) | refine bstep (by assumption) (by first | (simp; done) | (simp; omega) | omega) ?_)
  have hzw := hbw.size
  by_cases hn1 : z1 < 0
  · go_wp2_with fail
    go_returns
    exact ⟨rfl, hbw⟩
  have hn : wtb cs ≤ 1048576 := by have := s1 (by omega); omega
  clear s1 hb1
  have q_b := hB; obtain ⟨_, _, b0, b1⟩ := q_b
  go_wp2_with fail
  refine Calls.mono (szBag_any Wb (.slice bv lb cb) ds z1 _ (hrb.below hbw) wd (by omega) (by omega)) ?_
  rintro e w2 ⟨⟨z2, rfl, l2, g2, s2⟩, hb2⟩
  clear b0 b1
  replace hA := hA.below hb2
  replace hB := hB.below hb2
  replace hbw : Below w.heap.size w w2 := hbw.trans (hb2.mono hzw)
  replace hzw := hbw.size
  by_cases hn2' : z2 < 0
  · go_wp2_with fail
    go_returns
    exact ⟨rfl, hbw⟩
  have hn2 : wtb ds ≤ 1048576 := by have := s2 (by omega); omega
  have hnR : wtb (addC W Wb cs ds) ≤ 2097152 := by have := wtb_addC W Wb cs ds; omega
  clear s2 hb2
  go_wp2_with fail
  have hzB : w.heap.size + 1 < w2.heap.size := hB.lt
  refine wp_region_held_drew (S := (fun w' => Var2 w' w.heap.size (.int .i64 W) (.slice av lv cv) ∧ Var2 w' (w.heap.size + 1) (.int .i64 Wb) (.slice bv lb cb))) (by kernel_rfl) ?_ (fun hHeld => ?_)
  · exact ⟨hA.below (by repeat (first | (with_reducible exact Below.refl _ _) | (with_reducible refine Below.drew ?_) | (with_reducible refine Below.alloc ?_ ?hh _; case hh => first | (simp; done) | (simp; omega) | omega) | (with_reducible refine Below.setCell ?_ ?hh _; case hh => first | (simp; done) | (simp; omega) | omega) | refine bstep (by assumption) (by first | (simp; done) | (simp; omega) | omega) ?_)), hB.below (by repeat (first | (with_reducible exact Below.refl _ _) | (with_reducible refine Below.drew ?_) | (with_reducible refine Below.alloc ?_ ?hh _; case hh => first | (simp; done) | (simp; omega) | omega) | (with_reducible refine Below.setCell ?_ ?hh _; case hh => first | (simp; done) | (simp; omega) | omega) | refine bstep (by assumption) (by first | (simp; done) | (simp; omega) | omega) ?_))⟩
  refine takeYes (i := 0) (d := 24) (v := ?_) rfl rfl (by kernel_rfl) (by kernel_rfl) (by kernel_rfl) (fun _ _ _ h => h) (by rfl) (by assumption) ?_ ?_
  rotate_left
  · intro w' hSw; obtain ⟨⟨_, _, a0, a1⟩, ⟨_, _, b0, b1⟩⟩ := hSw; go_simp; try exact rfl
  try simp only [List.setIfInBounds_toArray, List.set_cons_zero, List.set_cons_succ]
  refine takeYes (i := 2) (d := 26) (v := ?_) rfl rfl (by kernel_rfl) (by kernel_rfl) (by kernel_rfl) (fun _ _ _ h => h) (by rfl) (by assumption) ?_ ?_
  rotate_left
  · intro w' hSw; obtain ⟨⟨_, _, a0, a1⟩, ⟨_, _, b0, b1⟩⟩ := hSw; go_simp; try exact rfl
  try simp only [List.setIfInBounds_toArray, List.set_cons_zero, List.set_cons_succ]
  have zW : w2.drew.heap.size = w2.heap.size := rfl
  have hbd : Below w2.heap.size w2 w2.drew := (Below.refl _ _).drew
  refine calls_var (f0 := 1) [(1, 25), (3, 27), (4, 28)] (RB W Wb cs ds) (fun w' N => Var2 w' N (.int .i64 0) (.slice none 0 0)) 5 6 (.cells #[.int .i64 0, .slice none 0 0] 28) (Lend := #[true, true, true, true, true, true, false]) (by kernel_rfl) (by kernel_rfl) (by simp) (by simp) (by kernel_rfl) (by kernel_rfl) (fun w' => Var2.new _ _ _ _) (fun _ _ _ h hb => h.below hb) (fun _ _ h => h.lt) (fun w' hb => ⟨hHeld.1.below hb, hHeld.2.below hb⟩) (fun c _ v w' w'' bs h hb => h.below hb) ?_ ?_ ?_
  · intro c hc
    simp only [List.mem_cons, List.not_mem_nil, or_false] at hc
    rcases hc with rfl | rfl | rfl
    · intro listed a wq K hrd hO hbq hcs hK
      have hbq' : Below w.heap.size w wq := bstep (hbd.trans hbq) hzw hbw
      refine wpOp_step rfl (fun K' hK' => ?_)
      have hKK : Shut (∀ a w, K a w → K' a w) := hK'
      clear hK'
      obtain ⟨ats, ads⟩ := a
      have e0 : ats.getD 24 undef = .agg #[.int .i64 W, (.slice av lv cv)] := (hO.2.2 24 (by simp)).trans rfl
      clear hO hcs hrd
      rw [if_pos (by rfl)]
      go_simp
      refine Calls.mono (toBag_F W (.slice av lv cv) cs wq (hra.below hbq') hn) ?_
      rintro x w' ⟨⟨u, F, rfl, hU, hOw⟩, hb⟩
      exact hKK.out _ _ (hK.out _ w' F hb (rb1.2 ⟨u, rfl, hU⟩) (fun b hbF => ⟨hOw.2.1 b hbF, hU.lt b hbF⟩))
    · intro listed a wq K hrd hO hbq hcs hK
      have hbq' : Below w.heap.size w wq := bstep (hbd.trans hbq) hzw hbw
      refine wpOp_step rfl (fun K' hK' => ?_)
      have hKK : Shut (∀ a w, K a w → K' a w) := hK'
      clear hK'
      obtain ⟨ats, ads⟩ := a
      have e0 : ats.getD 26 undef = .agg #[.int .i64 Wb, (.slice bv lb cb)] := (hO.2.2 26 (by simp)).trans rfl
      clear hO hcs hrd
      rw [if_pos (by rfl)]
      go_simp
      refine Calls.mono (toBag_F Wb (.slice bv lb cb) ds wq (hrb.below hbq') hn2) ?_
      rintro x w' ⟨⟨u, F, rfl, hU, hOw⟩, hb⟩
      exact hKK.out _ _ (hK.out _ w' F hb (rb3.2 ⟨u, rfl, hU⟩) (fun b hbF => ⟨hOw.2.1 b hbF, hU.lt b hbF⟩))
    · intro listed a wq K hrd hO hbq hcs hK
      have hbq' : Below w.heap.size w wq := bstep (hbd.trans hbq) hzw hbw
      refine wpOp_step rfl (fun K' hK' => ?_)
      have hKK : Shut (∀ a w, K a w → K' a w) := hK'
      clear hK'
      obtain ⟨ats, ads⟩ := a
      obtain ⟨F1, h1⟩ := hcs (1, 25) (by simp) (waitsOn_listed (by kernel_rfl) hrd)
      obtain ⟨F2, h2⟩ := hcs (3, 27) (by simp) (waitsOn_listed (by kernel_rfl) hrd)
      obtain ⟨u1, e1, hU1⟩ := rb1.1 h1
      obtain ⟨u2, e2, hU2⟩ := rb3.1 h2
      have e1' : ats.getD 25 undef = .agg #[.int .i64 W, u1] := e1
      have e2' : ats.getD 27 undef = .agg #[.int .i64 Wb, u2] := e2
      clear hO hcs hrd e1 e2 h1 h2
      rw [if_pos (by rfl)]
      go_simp
      refine Calls.mono (specAdd_any W Wb u1 u2 cs ds F1 F2 wq hU1 hU2 hn hn2 wc wd) ?_
      rintro x w' ⟨⟨u, us, G, rfl, hBO⟩, hb⟩
      obtain ⟨F, hU, hOw⟩ := hBO.rowsF
      exact hKK.out _ _ (hK.out _ w' F hb (rb4.2 ⟨u, rfl, hU⟩) (fun b hbF => ⟨hOw.2.1 b hbF, hU.lt b hbF⟩))
  · intro a wq K hK
    refine wpOp_step rfl (fun K' hK' => ?_)
    have hKK := hK' _ _ hK
    clear hK hK'
    rw [if_pos (by rfl)]
    go_simp
    exact hKK
  intro V N wz hbz lN hN hcz
  obtain ⟨F3, h4, hf4, hn4⟩ := hcz (4, 28) (by simp)
  obtain ⟨u4, e4, hSp⟩ := rb4.1 h4
  clear hcz h4
  obtain ⟨a3, l3, c3, rfl⟩ := hSp.is.shape
  simp only [List.map, List.foldl, List.cons_append, List.nil_append, e4]
  generalize V 25 = V1
  generalize V 27 = V2
  clear e4 V
  try simp only [List.setIfInBounds_toArray, List.set_cons_zero, List.set_cons_succ]
  rw [zW] at lN hf4
  clear zW
  refine wpAnyH_ready (rs := [6]) (by kernel_rfl) (by simp) ?_
  refine AllReadyH.cons rfl (fun KK hKK => ?_) AllReadyH.nil
  have hq := hN
  obtain ⟨_, f6, z0, z1⟩ := hq
  go_simp
  clear f6 z0 z1
  have hbx : Below w2.heap.size w2 ((wz.setCell ⟨N, 0, none⟩ (.int .i64 W)).setCell ⟨N, 1, none⟩ (.slice a3 l3 c3)) := ((hbd.trans hbz).setCell lN _).setCell lN _
  replace hN := hN.put (.int .i64 W) (.slice a3 l3 c3)
  replace hSp := hSp.keep (w' := (wz.setCell ⟨N, 0, none⟩ (.int .i64 W)).setCell ⟨N, 1, none⟩ (.slice a3 l3 c3)) (by simp) (fun b hb => by rw [Below.heap_setCell _ _ _ _ (show b ≠ N from fun e => hn4 (e ▸ hb)), Below.heap_setCell _ _ _ _ (show b ≠ N from fun e => hn4 (e ▸ hb))])
  obtain ⟨w3, hW⟩ : ∃ x, x = ((wz.setCell ⟨N, 0, none⟩ (.int .i64 W)).setCell ⟨N, 1, none⟩ (.slice a3 l3 c3)) := ⟨_, rfl⟩
  rw [← hW] at hbx hN hSp
  rw [← hW]
  clear hW hbz hbd
  refine hKK.out _ _ ⟨hA.below hbx, hB.below hbx⟩ (fun hHeld6 => ?_)
  clear hKK hHeld6 hHeld
  refine wpAnyH_done (by kernel_rfl) ?_ _
  replace hA := hA.below hbx
  replace hB := hB.below hbx
  replace hbw : Below w.heap.size w w3 := hbw.trans (hbx.mono hzw)
  replace hzw := hbw.size
  have hz23 := hbx.size
  have hl3 := hSp.lt
  have hlN := hN.lt
  clear hbx hf4
  have q_a := hA; obtain ⟨_, _, a0, a1⟩ := q_a
  go_wp2_with fail
  refine Calls.mono (toBag_F W (.slice av lv cv) cs w3 (hra.below hbw) hn) ?_
  rintro e w4 ⟨⟨u4, F4, rfl, hU4, hO4⟩, hb4⟩
  obtain ⟨a4, l4, c4, rfl⟩ := hU4.is.shape
  clear a0 a1
  replace hA := hA.below hb4
  replace hB := hB.below hb4
  replace hN := hN.below hb4
  replace hSp := hSp.below hb4
  replace hbw : Below w.heap.size w w4 := hbw.trans (hb4.mono hzw)
  have hz34 := hb4.size
  have hl4 := hU4.lt
  have hy4 : w.heap.size + 1 < w4.heap.size := by omega
  clear hb4
  have q_b := hB; obtain ⟨_, _, b0, b1⟩ := q_b
  go_wp2_with fail
  refine Calls.mono (toBag_F Wb (.slice bv lb cb) ds _ (hrb.below ?hb) hn2) ?_
  case hb => exact hbw.alloc (by omega) _
  rintro e w5 ⟨⟨u5, F5, rfl, hU5, hO5⟩, hb5⟩
  obtain ⟨a5, l5, c5, rfl⟩ := hU5.is.shape
  clear b0 b1
  have hX : Var2 w5 w4.heap.size (.int .i64 W) (.slice a4 l4 c4) := (Var2.new w4 _ _ _).below hb5
  have hz45 := hb5.size
  simp only [World.size_alloc] at hz45 hO5
  have hbx : Below w4.heap.size w4 w5 := by repeat (first | (with_reducible exact Below.refl _ _) | (with_reducible refine Below.drew ?_) | (with_reducible refine Below.alloc ?_ ?hh _; case hh => first | (simp; done) | (simp; omega) | omega) | (with_reducible refine Below.setCell ?_ ?hh _; case hh => first | (simp; done) | (simp; omega) | omega) | refine bstep (by assumption) (by first | (simp; done) | (simp; omega) | omega) ?_)
  clear hb5
  replace hA := hA.below hbx
  replace hB := hB.below hbx
  replace hN := hN.below hbx
  replace hSp := hSp.below hbx
  have hU4' := hU4.below hbx
  have hO4' := hO4.below hl4 hbx
  replace hbw : Below w.heap.size w w5 := hbw.trans (hbx.mono (by omega))
  have hl5 := hU5.lt
  have hy45 : w4.heap.size < w5.heap.size := by omega
  have hy5 : w.heap.size + 1 < w5.heap.size := by omega
  clear hbx hU4
  have q_x := hX; obtain ⟨_, _, x0, x1⟩ := q_x
  go_wp2_with fail
  have hbB : Below w5.heap.size w5 (w5.alloc (.cells #[.int .i64 Wb, (.slice a5 l5 c5)] 28)) := (Below.refl _ _).alloc (Nat.le_refl _) _
  refine Calls.mono (implAdd_any W Wb (.slice a4 l4 c4) (.slice a5 l5 c5) cs ds F4 F5 _ (hU4'.below hbB) (hU5.below hbB) hn hn2 wc wd) ?_
  rintro e w6 ⟨⟨u6, us6, G6, rfl, hBO⟩, hb6⟩
  obtain ⟨F6, hU6, hO6⟩ := hBO.rowsF
  obtain ⟨a6, l6, c6, rfl⟩ := hU6.is.shape
  clear x0 x1
  clear hBO hbB
  have hY : Var2 w6 w5.heap.size (.int .i64 Wb) (.slice a5 l5 c5) := (Var2.new w5 _ _ _).below hb6
  have hz56 := hb6.size
  simp only [World.size_alloc] at hz56 hO6
  have hbx : Below w5.heap.size w5 w6 := by repeat (first | (with_reducible exact Below.refl _ _) | (with_reducible refine Below.drew ?_) | (with_reducible refine Below.alloc ?_ ?hh _; case hh => first | (simp; done) | (simp; omega) | omega) | (with_reducible refine Below.setCell ?_ ?hh _; case hh => first | (simp; done) | (simp; omega) | omega) | refine bstep (by assumption) (by first | (simp; done) | (simp; omega) | omega) ?_)
  have hl6 := hU6.lt
  have hbG : Below w6.heap.size w6 (w6.alloc (.cells #[.int .i64 W, (.slice a6 l6 c6)] 28)) := (Below.refl _ _).alloc (Nat.le_refl _) _
  have st : St3 w (w6.alloc (.cells #[.int .i64 W, (.slice a6 l6 c6)] 28)) N w4.heap.size w5.heap.size w6.heap.size W Wb (.slice av lv cv) (.slice bv lb cb) (.slice a3 l3 c3) (.slice a4 l4 c4) (.slice a5 l5 c5) (.slice a6 l6 c6) (addC W Wb cs ds) cs ds (addC W Wb cs ds) F3 F4 F5 F6 := by
    refine ⟨(hbw.trans (hbx.mono (by omega))).trans (hbG.mono (by omega)), (hA.below hbx).below hbG, (hB.below hbx).below hbG, (hN.below hbx).below hbG, (hX.below hbx).below hbG, hY.below hbG, Var2.new w6 _ _ _, (hSp.below hbx).below hbG, (hU4'.below hbx).below hbG, (hU5.below hbx).below hbG, hU6.below hbG, (Own.below ⟨hO4'.1, fun b hb => (by have := hO4'.2.1 b hb; omega), hO4'.2.2⟩ hU4'.lt hbx).below (hU4'.below hbx).lt hbG, (Own.below ⟨hO5.1, fun b hb => (by have := hO5.2.1 b hb; omega), hO5.2.2⟩ hl5 hbx).below (hU5.below hbx).lt hbG, Own.below ⟨hO6.1, fun b hb => (by have := hO6.2.1 b hb; omega), hO6.2.2⟩ hl6 hbG, ?_, ?_, ?_⟩
    · intro b hb
      have h1 := hl4 b hb
      have h2 := hO4'.2.1 b hb
      exact ⟨by omega, fun h => by have := hl3 b h; omega, fun h => by have := hO5.2.1 b h; omega, fun h => by have := hO6.2.1 b h; omega⟩
    · intro b hb
      have h1 := hl5 b hb
      have h2 := hO5.2.1 b hb
      exact ⟨by omega, fun h => by have := hl3 b h; omega, fun h => by have := hl4 b h; omega, fun h => by have := hO6.2.1 b h; omega⟩
    · intro b hb
      have h1 := hl6 b hb
      have h2 := hO6.2.1 b hb
      exact ⟨by omega, fun h => by have := hl3 b h; omega, fun h => by have := hl4 b h; omega, fun h => by have := hl5 b h; omega⟩
  have hyN : N < w6.heap.size := by omega
  have hy6 : w.heap.size + 1 < w6.heap.size := by omega
  have hy46 : w4.heap.size < w6.heap.size := by omega
  have hy56 : w5.heap.size < w6.heap.size := by omega
  clear hA hB hN hX hY hSp hU4' hU5 hU6 hO4 hO4' hO5 hO6 hb6 hbx hbG hl3 hl4 hl5 hl6 hlN hn4 hbw hzw
  have q_g := st.pg; obtain ⟨_, _, g0, g1⟩ := q_g
  have q_s := st.ps; obtain ⟨_, _, s0, s1⟩ := q_s
  go_wp2_with fail
  refine Calls.mono (eqBag_same W (.slice a6 l6 c6) (.slice a3 l3 c3) (addC W Wb cs ds) _ st.gg.is st.sp.is) ?_
  rintro e w7 ⟨rfl, hb7⟩
  have st7 := st.below hb7
  clear hb7
  clear g0 g1 s0 s1
  have hz7 : w6.heap.size < w7.heap.size := st7.pg.lt
  clear st
  have hbw := st7.bel
  have hzw := hbw.size
  go_wp2_with fail
  refine wp_region_held_drew (S := (fun w' => Var2 w' w4.heap.size (.int .i64 W) (.slice a4 l4 c4) ∧ Var2 w' w.heap.size (.int .i64 W) (.slice av lv cv))) (by kernel_rfl) ?_ (fun hHeld => ?_)
  · exact ⟨st7.px.below (by repeat (first | (with_reducible exact Below.refl _ _) | (with_reducible refine Below.drew ?_) | (with_reducible refine Below.alloc ?_ ?hh _; case hh => first | (simp; done) | (simp; omega) | omega) | (with_reducible refine Below.setCell ?_ ?hh _; case hh => first | (simp; done) | (simp; omega) | omega) | refine bstep (by assumption) (by first | (simp; done) | (simp; omega) | omega) ?_)), st7.pa.below (by repeat (first | (with_reducible exact Below.refl _ _) | (with_reducible refine Below.drew ?_) | (with_reducible refine Below.alloc ?_ ?hh _; case hh => first | (simp; done) | (simp; omega) | omega) | (with_reducible refine Below.setCell ?_ ?hh _; case hh => first | (simp; done) | (simp; omega) | omega) | refine bstep (by assumption) (by first | (simp; done) | (simp; omega) | omega) ?_))⟩
  refine takeYes (i := 0) (d := 40) (v := ?_) rfl rfl (by kernel_rfl) (by kernel_rfl) (by kernel_rfl) (fun _ _ _ h => h) (by rfl) (by assumption) ?_ ?_
  rotate_left
  · intro w' hSw; obtain ⟨⟨_, _, x0, x1⟩, ⟨_, _, a0, a1⟩⟩ := hSw; go_simp; try exact rfl
  try simp only [List.setIfInBounds_toArray, List.set_cons_zero, List.set_cons_succ]
  refine takeYes (i := 1) (d := 41) (v := ?_) rfl rfl (by kernel_rfl) (by kernel_rfl) (by kernel_rfl) (fun _ _ _ h => h) (by rfl) (by assumption) ?_ ?_
  rotate_left
  · intro w' hSw; obtain ⟨⟨_, _, x0, x1⟩, ⟨_, _, a0, a1⟩⟩ := hSw; go_simp; try exact rfl
  try simp only [List.setIfInBounds_toArray, List.set_cons_zero, List.set_cons_succ]
  refine wpAnyH_ready (rs := [2]) (by kernel_rfl) (by simp) ?_
  refine AllReadyH.cons rfl (fun KK hKK => ?_) AllReadyH.nil
  go_simp
  go_at_call 6
  refine Calls.mono (toBag_F W (.slice av lv cv) cs _ (hra.below (by repeat (first | (with_reducible exact Below.refl _ _) | (with_reducible refine Below.drew ?_) | (with_reducible refine Below.alloc ?_ ?hh _; case hh => first | (simp; done) | (simp; omega) | omega) | (with_reducible refine Below.setCell ?_ ?hh _; case hh => first | (simp; done) | (simp; omega) | omega) | refine bstep (by assumption) (by first | (simp; done) | (simp; omega) | omega) ?_))) hn) ?_
  rintro x w8 ⟨⟨u8, F8, rfl, hU, _⟩, hb8⟩
  obtain ⟨a8, l8, c8, rfl⟩ := hU.is.shape
  have hz8 := hb8.size
  (try simp at hz8)
  try go_wp2_with fail
  refine hKK.out _ _ ?_ (fun hHeld2 => ?_)
  · exact ⟨st7.px.below (by repeat (first | (with_reducible exact Below.refl _ _) | (with_reducible refine Below.drew ?_) | (with_reducible refine Below.alloc ?_ ?hh _; case hh => first | (simp; done) | (simp; omega) | omega) | (with_reducible refine Below.setCell ?_ ?hh _; case hh => first | (simp; done) | (simp; omega) | omega) | refine bstep (by assumption) (by first | (simp; done) | (simp; omega) | omega) ?_)), st7.pa.below (by repeat (first | (with_reducible exact Below.refl _ _) | (with_reducible refine Below.drew ?_) | (with_reducible refine Below.alloc ?_ ?hh _; case hh => first | (simp; done) | (simp; omega) | omega) | (with_reducible refine Below.setCell ?_ ?hh _; case hh => first | (simp; done) | (simp; omega) | omega) | refine bstep (by assumption) (by first | (simp; done) | (simp; omega) | omega) ?_))⟩
  clear hKK
  refine wpAnyH_ready (rs := [3]) (by kernel_rfl) (by simp) ?_
  refine AllReadyH.cons rfl (fun KK hKK => ?_) AllReadyH.nil
  go_simp
  go_at_call 8
  refine Calls.mono (eqBag_same W (.slice a4 l4 c4) (.slice a8 l8 c8) cs _ (st7.xx.below (by repeat (first | (with_reducible exact Below.refl _ _) | (with_reducible refine Below.drew ?_) | (with_reducible refine Below.alloc ?_ ?hh _; case hh => first | (simp; done) | (simp; omega) | omega) | (with_reducible refine Below.setCell ?_ ?hh _; case hh => first | (simp; done) | (simp; omega) | omega) | refine bstep (by assumption) (by first | (simp; done) | (simp; omega) | omega) ?_))).is (hU.below (by repeat (first | (with_reducible exact Below.refl _ _) | (with_reducible refine Below.drew ?_) | (with_reducible refine Below.alloc ?_ ?hh _; case hh => first | (simp; done) | (simp; omega) | omega) | (with_reducible refine Below.setCell ?_ ?hh _; case hh => first | (simp; done) | (simp; omega) | omega) | refine bstep (by assumption) (by first | (simp; done) | (simp; omega) | omega) ?_))).is) ?_
  rintro x w9 ⟨rfl, hb9⟩
  have hz9 := hb9.size
  (try simp at hz9)
  try go_wp2_with fail
  refine hKK.out _ _ ?_ (fun hHeld3 => ?_)
  · exact ⟨st7.px.below (by repeat (first | (with_reducible exact Below.refl _ _) | (with_reducible refine Below.drew ?_) | (with_reducible refine Below.alloc ?_ ?hh _; case hh => first | (simp; done) | (simp; omega) | omega) | (with_reducible refine Below.setCell ?_ ?hh _; case hh => first | (simp; done) | (simp; omega) | omega) | refine bstep (by assumption) (by first | (simp; done) | (simp; omega) | omega) ?_)), st7.pa.below (by repeat (first | (with_reducible exact Below.refl _ _) | (with_reducible refine Below.drew ?_) | (with_reducible refine Below.alloc ?_ ?hh _; case hh => first | (simp; done) | (simp; omega) | omega) | (with_reducible refine Below.setCell ?_ ?hh _; case hh => first | (simp; done) | (simp; omega) | omega) | refine bstep (by assumption) (by first | (simp; done) | (simp; omega) | omega) ?_))⟩
  clear hKK
  refine takeYes (i := 4) (d := 44) (v := ?_) rfl rfl (by kernel_rfl) (by kernel_rfl) (by kernel_rfl) (fun _ _ _ h => h) (by rfl) (by assumption) ?_ ?_
  rotate_left
  · intro w' hSw; obtain ⟨⟨_, _, x0, x1⟩, ⟨_, _, a0, a1⟩⟩ := hSw; go_simp; try exact rfl
  try simp only [List.setIfInBounds_toArray, List.set_cons_zero, List.set_cons_succ]
  refine wpAnyH_done (by kernel_rfl) ?_ _
  have hbx : Below w7.heap.size w7 w9 := by repeat (first | (with_reducible exact Below.refl _ _) | (with_reducible refine Below.drew ?_) | (with_reducible refine Below.alloc ?_ ?hh _; case hh => first | (simp; done) | (simp; omega) | omega) | (with_reducible refine Below.setCell ?_ ?hh _; case hh => first | (simp; done) | (simp; omega) | omega) | refine bstep (by assumption) (by first | (simp; done) | (simp; omega) | omega) ?_)
  have st9 := st7.below hbx
  clear hHeld hHeld2 hHeld3 hU hb8 hb9 hbx hbw hzw st7
  (try clear hz8 hz9)
  have hbw := st9.bel
  have hzw := hbw.size
  go_wp2_with fail
  refine wp_region_held_drew (S := (fun w' => Var2 w' w5.heap.size (.int .i64 Wb) (.slice a5 l5 c5) ∧ Var2 w' (w.heap.size + 1) (.int .i64 Wb) (.slice bv lb cb))) (by kernel_rfl) ?_ (fun hHeld => ?_)
  · exact ⟨st9.py.below (by repeat (first | (with_reducible exact Below.refl _ _) | (with_reducible refine Below.drew ?_) | (with_reducible refine Below.alloc ?_ ?hh _; case hh => first | (simp; done) | (simp; omega) | omega) | (with_reducible refine Below.setCell ?_ ?hh _; case hh => first | (simp; done) | (simp; omega) | omega) | refine bstep (by assumption) (by first | (simp; done) | (simp; omega) | omega) ?_)), st9.pb.below (by repeat (first | (with_reducible exact Below.refl _ _) | (with_reducible refine Below.drew ?_) | (with_reducible refine Below.alloc ?_ ?hh _; case hh => first | (simp; done) | (simp; omega) | omega) | (with_reducible refine Below.setCell ?_ ?hh _; case hh => first | (simp; done) | (simp; omega) | omega) | refine bstep (by assumption) (by first | (simp; done) | (simp; omega) | omega) ?_))⟩
  refine takeYes (i := 0) (d := 45) (v := ?_) rfl rfl (by kernel_rfl) (by kernel_rfl) (by kernel_rfl) (fun _ _ _ h => h) (by rfl) (by assumption) ?_ ?_
  rotate_left
  · intro w' hSw; obtain ⟨⟨_, _, x0, x1⟩, ⟨_, _, a0, a1⟩⟩ := hSw; go_simp; try exact rfl
  try simp only [List.setIfInBounds_toArray, List.set_cons_zero, List.set_cons_succ]
  refine takeYes (i := 1) (d := 46) (v := ?_) rfl rfl (by kernel_rfl) (by kernel_rfl) (by kernel_rfl) (fun _ _ _ h => h) (by rfl) (by assumption) ?_ ?_
  rotate_left
  · intro w' hSw; obtain ⟨⟨_, _, x0, x1⟩, ⟨_, _, a0, a1⟩⟩ := hSw; go_simp; try exact rfl
  try simp only [List.setIfInBounds_toArray, List.set_cons_zero, List.set_cons_succ]
  refine wpAnyH_ready (rs := [2]) (by kernel_rfl) (by simp) ?_
  refine AllReadyH.cons rfl (fun KK hKK => ?_) AllReadyH.nil
  go_simp
  go_at_call 6
  refine Calls.mono (toBag_F Wb (.slice bv lb cb) ds _ (hrb.below (by repeat (first | (with_reducible exact Below.refl _ _) | (with_reducible refine Below.drew ?_) | (with_reducible refine Below.alloc ?_ ?hh _; case hh => first | (simp; done) | (simp; omega) | omega) | (with_reducible refine Below.setCell ?_ ?hh _; case hh => first | (simp; done) | (simp; omega) | omega) | refine bstep (by assumption) (by first | (simp; done) | (simp; omega) | omega) ?_))) hn2) ?_
  rintro x w10 ⟨⟨u10, F10, rfl, hU, _⟩, hb10⟩
  obtain ⟨a10, l10, c10, rfl⟩ := hU.is.shape
  have hz10 := hb10.size
  (try simp at hz10)
  try go_wp2_with fail
  refine hKK.out _ _ ?_ (fun hHeld2 => ?_)
  · exact ⟨st9.py.below (by repeat (first | (with_reducible exact Below.refl _ _) | (with_reducible refine Below.drew ?_) | (with_reducible refine Below.alloc ?_ ?hh _; case hh => first | (simp; done) | (simp; omega) | omega) | (with_reducible refine Below.setCell ?_ ?hh _; case hh => first | (simp; done) | (simp; omega) | omega) | refine bstep (by assumption) (by first | (simp; done) | (simp; omega) | omega) ?_)), st9.pb.below (by repeat (first | (with_reducible exact Below.refl _ _) | (with_reducible refine Below.drew ?_) | (with_reducible refine Below.alloc ?_ ?hh _; case hh => first | (simp; done) | (simp; omega) | omega) | (with_reducible refine Below.setCell ?_ ?hh _; case hh => first | (simp; done) | (simp; omega) | omega) | refine bstep (by assumption) (by first | (simp; done) | (simp; omega) | omega) ?_))⟩
  clear hKK
  refine wpAnyH_ready (rs := [3]) (by kernel_rfl) (by simp) ?_
  refine AllReadyH.cons rfl (fun KK hKK => ?_) AllReadyH.nil
  go_simp
  go_at_call 8
  refine Calls.mono (eqBag_same Wb (.slice a5 l5 c5) (.slice a10 l10 c10) ds _ (st9.yy.below (by repeat (first | (with_reducible exact Below.refl _ _) | (with_reducible refine Below.drew ?_) | (with_reducible refine Below.alloc ?_ ?hh _; case hh => first | (simp; done) | (simp; omega) | omega) | (with_reducible refine Below.setCell ?_ ?hh _; case hh => first | (simp; done) | (simp; omega) | omega) | refine bstep (by assumption) (by first | (simp; done) | (simp; omega) | omega) ?_))).is (hU.below (by repeat (first | (with_reducible exact Below.refl _ _) | (with_reducible refine Below.drew ?_) | (with_reducible refine Below.alloc ?_ ?hh _; case hh => first | (simp; done) | (simp; omega) | omega) | (with_reducible refine Below.setCell ?_ ?hh _; case hh => first | (simp; done) | (simp; omega) | omega) | refine bstep (by assumption) (by first | (simp; done) | (simp; omega) | omega) ?_))).is) ?_
  rintro x w11 ⟨rfl, hb11⟩
  have hz11 := hb11.size
  (try simp at hz11)
  try go_wp2_with fail
  refine hKK.out _ _ ?_ (fun hHeld3 => ?_)
  · exact ⟨st9.py.below (by repeat (first | (with_reducible exact Below.refl _ _) | (with_reducible refine Below.drew ?_) | (with_reducible refine Below.alloc ?_ ?hh _; case hh => first | (simp; done) | (simp; omega) | omega) | (with_reducible refine Below.setCell ?_ ?hh _; case hh => first | (simp; done) | (simp; omega) | omega) | refine bstep (by assumption) (by first | (simp; done) | (simp; omega) | omega) ?_)), st9.pb.below (by repeat (first | (with_reducible exact Below.refl _ _) | (with_reducible refine Below.drew ?_) | (with_reducible refine Below.alloc ?_ ?hh _; case hh => first | (simp; done) | (simp; omega) | omega) | (with_reducible refine Below.setCell ?_ ?hh _; case hh => first | (simp; done) | (simp; omega) | omega) | refine bstep (by assumption) (by first | (simp; done) | (simp; omega) | omega) ?_))⟩
  clear hKK
  refine takeYes (i := 4) (d := 49) (v := ?_) rfl rfl (by kernel_rfl) (by kernel_rfl) (by kernel_rfl) (fun _ _ _ h => h) (by rfl) (by assumption) ?_ ?_
  rotate_left
  · intro w' hSw; obtain ⟨⟨_, _, x0, x1⟩, ⟨_, _, a0, a1⟩⟩ := hSw; go_simp; try exact rfl
  try simp only [List.setIfInBounds_toArray, List.set_cons_zero, List.set_cons_succ]
  refine wpAnyH_done (by kernel_rfl) ?_ _
  have hbx : Below w9.heap.size w9 w11 := by repeat (first | (with_reducible exact Below.refl _ _) | (with_reducible refine Below.drew ?_) | (with_reducible refine Below.alloc ?_ ?hh _; case hh => first | (simp; done) | (simp; omega) | omega) | (with_reducible refine Below.setCell ?_ ?hh _; case hh => first | (simp; done) | (simp; omega) | omega) | refine bstep (by assumption) (by first | (simp; done) | (simp; omega) | omega) ?_)
  have st11 := st9.below hbx
  clear hHeld hHeld2 hHeld3 hU hb10 hb11 hbx hbw hzw st9
  (try clear hz10 hz11)
  have q_x := st11.px; obtain ⟨_, _, x0, x1⟩ := q_x
  go_wp2_with fail
  refine Calls.mono (markBag_any W 1 (.slice a4 l4 c4) cs F4 w11 st11.xx st11.o4.1 st11.o4.2.2 (by decide) (by omega)) ?_
  rintro e w12 ⟨rfl, hx, hc⟩
  have st12 := st11.markX hc hx
  have hoff := offC_le 1 cs cs.length
  have hop : 0 < offC 1 cs cs.length := by unfold offC; omega
  generalize offC 1 cs cs.length = kx at *
  clear x0 x1
  clear hx hc st11
  have q_y := st12.py; obtain ⟨_, _, y0, y1⟩ := q_y
  go_wp2_with fail
  refine Calls.mono (markBag_any Wb kx (.slice a5 l5 c5) ds F5 w12 st12.yy st12.o5.1 st12.o5.2.2 hop (by omega)) ?_
  rintro e w13 ⟨rfl, hx, hc⟩
  have st13 := st12.markY hc hx
  have hoffy := offC_le kx ds ds.length
  have hopy : 0 < offC kx ds ds.length := by unfold offC; omega
  generalize offC kx ds ds.length = ky at *
  clear y0 y1
  clear hx hc st12
  have q_g := st13.pg; obtain ⟨_, _, g0, g1⟩ := q_g
  have q_s := st13.ps; obtain ⟨_, _, s0, s1⟩ := q_s
  go_wp2_with fail
  refine Calls.mono (eqBag_same W (.slice a6 l6 c6) (.slice a3 l3 c3) (addC W Wb cs ds) _ st13.gg.is st13.sp.is) ?_
  rintro e w14 ⟨rfl, hb14⟩
  have st14 := st13.below hb14
  clear hb14
  clear g0 g1 s0 s1
  clear st13
  have q_g := st14.pg; obtain ⟨_, _, g0, g1⟩ := q_g
  go_wp2_with fail
  refine Calls.mono (markBag_any W 1 (.slice a6 l6 c6) (addC W Wb cs ds) F6 w14 st14.gg st14.o6.1 st14.o6.2.2 (by decide) (by omega)) ?_
  rintro e w15 ⟨rfl, hx, hc⟩
  have st15 := st14.markG hc hx
  have hoffg := offC_le 1 (addC W Wb cs ds) (addC W Wb cs ds).length
  have hheld := fun w' => heldBag_any W 1 (.slice a6 l6 c6) (addC W Wb cs ds) w'
  generalize offC 1 (addC W Wb cs ds) (addC W Wb cs ds).length = kg at *
  clear g0 g1
  clear hx hc st14
  have q_g := st15.pg; obtain ⟨_, _, g0, g1⟩ := q_g
  go_wp2_with fail
  refine Calls.mono (hheld w15 st15.gg.is (by decide) (by omega)) ?_
  rintro e w16 ⟨rfl, hb16⟩
  have st16 := st15.below hb16
  clear g0 g1
  clear hb16 st15
  have hA := st16.pa
  have hB := st16.pb
  have hbw := st16.bel
  have hzw := hbw.size
  go_wp2_with fail
  refine wp_region_held_drew (S := (fun w' => Var2 w' w.heap.size (.int .i64 W) (.slice av lv cv) ∧ Var2 w' (w.heap.size + 1) (.int .i64 Wb) (.slice bv lb cb))) (by kernel_rfl) ?_ (fun hHeld => ?_)
  · exact ⟨hA.below (by repeat (first | (with_reducible exact Below.refl _ _) | (with_reducible refine Below.drew ?_) | (with_reducible refine Below.alloc ?_ ?hh _; case hh => first | (simp; done) | (simp; omega) | omega) | (with_reducible refine Below.setCell ?_ ?hh _; case hh => first | (simp; done) | (simp; omega) | omega) | refine bstep (by assumption) (by first | (simp; done) | (simp; omega) | omega) ?_)), hB.below (by repeat (first | (with_reducible exact Below.refl _ _) | (with_reducible refine Below.drew ?_) | (with_reducible refine Below.alloc ?_ ?hh _; case hh => first | (simp; done) | (simp; omega) | omega) | (with_reducible refine Below.setCell ?_ ?hh _; case hh => first | (simp; done) | (simp; omega) | omega) | refine bstep (by assumption) (by first | (simp; done) | (simp; omega) | omega) ?_))⟩
  refine takeYes (i := 0) (d := 75) (v := ?_) rfl rfl (by kernel_rfl) (by kernel_rfl) (by kernel_rfl) (fun _ _ _ h => h) (by rfl) (by assumption) ?_ ?_
  rotate_left
  · intro w' hSw; obtain ⟨⟨_, _, a0, a1⟩, ⟨_, _, b0, b1⟩⟩ := hSw; go_simp; try exact rfl
  try simp only [List.setIfInBounds_toArray, List.set_cons_zero, List.set_cons_succ]
  refine takeYes (i := 2) (d := 77) (v := ?_) rfl rfl (by kernel_rfl) (by kernel_rfl) (by kernel_rfl) (fun _ _ _ h => h) (by rfl) (by assumption) ?_ ?_
  rotate_left
  · intro w' hSw; obtain ⟨⟨_, _, a0, a1⟩, ⟨_, _, b0, b1⟩⟩ := hSw; go_simp; try exact rfl
  try simp only [List.setIfInBounds_toArray, List.set_cons_zero, List.set_cons_succ]
  have zW : w16.drew.heap.size = w16.heap.size := rfl
  have hbd : Below w16.heap.size w16 w16.drew := (Below.refl _ _).drew
  refine calls_var (f0 := 1) [(1, 76), (3, 78), (4, 79)] (RB W Wb cs ds) (fun w' N => Var2 w' N (.int .i64 0) (.slice none 0 0)) 5 13 (.cells #[.int .i64 0, .slice none 0 0] 28) (Lend := #[true, true, true, true, true, true, false]) (by kernel_rfl) (by kernel_rfl) (by simp) (by simp) (by kernel_rfl) (by kernel_rfl) (fun w' => Var2.new _ _ _ _) (fun _ _ _ h hb => h.below hb) (fun _ _ h => h.lt) (fun w' hb => ⟨hHeld.1.below hb, hHeld.2.below hb⟩) (fun c _ v w' w'' bs h hb => h.below hb) ?_ ?_ ?_
  · intro c hc
    simp only [List.mem_cons, List.not_mem_nil, or_false] at hc
    rcases hc with rfl | rfl | rfl
    · intro listed a wq K hrd hO hbq hcs hK
      have hbq' : Below w.heap.size w wq := bstep (hbd.trans hbq) hzw hbw
      refine wpOp_step rfl (fun K' hK' => ?_)
      have hKK : Shut (∀ a w, K a w → K' a w) := hK'
      clear hK'
      obtain ⟨ats, ads⟩ := a
      have e0 : ats.getD 75 undef = .agg #[.int .i64 W, (.slice av lv cv)] := (hO.2.2 75 (by simp)).trans rfl
      clear hO hcs hrd
      rw [if_pos (by rfl)]
      go_simp
      refine Calls.mono (toBag_F W (.slice av lv cv) cs wq (hra.below hbq') hn) ?_
      rintro x w' ⟨⟨u, F, rfl, hU, hOw⟩, hb⟩
      exact hKK.out _ _ (hK.out _ w' F hb (rb1.2 ⟨u, rfl, hU⟩) (fun b hbF => ⟨hOw.2.1 b hbF, hU.lt b hbF⟩))
    · intro listed a wq K hrd hO hbq hcs hK
      have hbq' : Below w.heap.size w wq := bstep (hbd.trans hbq) hzw hbw
      refine wpOp_step rfl (fun K' hK' => ?_)
      have hKK : Shut (∀ a w, K a w → K' a w) := hK'
      clear hK'
      obtain ⟨ats, ads⟩ := a
      have e0 : ats.getD 77 undef = .agg #[.int .i64 Wb, (.slice bv lb cb)] := (hO.2.2 77 (by simp)).trans rfl
      clear hO hcs hrd
      rw [if_pos (by rfl)]
      go_simp
      refine Calls.mono (toBag_F Wb (.slice bv lb cb) ds wq (hrb.below hbq') hn2) ?_
      rintro x w' ⟨⟨u, F, rfl, hU, hOw⟩, hb⟩
      exact hKK.out _ _ (hK.out _ w' F hb (rb3.2 ⟨u, rfl, hU⟩) (fun b hbF => ⟨hOw.2.1 b hbF, hU.lt b hbF⟩))
    · intro listed a wq K hrd hO hbq hcs hK
      have hbq' : Below w.heap.size w wq := bstep (hbd.trans hbq) hzw hbw
      refine wpOp_step rfl (fun K' hK' => ?_)
      have hKK : Shut (∀ a w, K a w → K' a w) := hK'
      clear hK'
      obtain ⟨ats, ads⟩ := a
      obtain ⟨F1, h1⟩ := hcs (1, 76) (by simp) (waitsOn_listed (by kernel_rfl) hrd)
      obtain ⟨F2, h2⟩ := hcs (3, 78) (by simp) (waitsOn_listed (by kernel_rfl) hrd)
      obtain ⟨u1, e1, hU1⟩ := rb1.1 h1
      obtain ⟨u2, e2, hU2⟩ := rb3.1 h2
      have e1' : ats.getD 76 undef = .agg #[.int .i64 W, u1] := e1
      have e2' : ats.getD 78 undef = .agg #[.int .i64 Wb, u2] := e2
      clear hO hcs hrd e1 e2 h1 h2
      rw [if_pos (by rfl)]
      go_simp
      refine Calls.mono (implAdd_any W Wb u1 u2 cs ds F1 F2 wq hU1 hU2 hn hn2 wc wd) ?_
      rintro x w' ⟨⟨u, us, G, rfl, hBO⟩, hb⟩
      obtain ⟨F, hU, hOw⟩ := hBO.rowsF
      exact hKK.out _ _ (hK.out _ w' F hb (rb4.2 ⟨u, rfl, hU⟩) (fun b hbF => ⟨hOw.2.1 b hbF, hU.lt b hbF⟩))
  · intro a wq K hK
    refine wpOp_step rfl (fun K' hK' => ?_)
    have hKK := hK' _ _ hK
    clear hK hK'
    rw [if_pos (by rfl)]
    go_simp
    exact hKK
  intro V Nb wz hbz lN hN hcz
  obtain ⟨F3b, h4, hf4, hn4b⟩ := hcz (4, 79) (by simp)
  obtain ⟨u4, e4, hSpb⟩ := rb4.1 h4
  clear hcz h4
  obtain ⟨a3b, l3b, c3b, rfl⟩ := hSpb.is.shape
  simp only [List.map, List.foldl, List.cons_append, List.nil_append, e4]
  generalize V 76 = V1
  generalize V 78 = V2
  clear e4 V
  try simp only [List.setIfInBounds_toArray, List.set_cons_zero, List.set_cons_succ]
  rw [zW] at lN hf4
  clear zW
  refine wpAnyH_ready (rs := [6]) (by kernel_rfl) (by simp) ?_
  refine AllReadyH.cons rfl (fun KK hKK => ?_) AllReadyH.nil
  have hq := hN
  obtain ⟨_, f6, z0, z1⟩ := hq
  go_simp
  clear f6 z0 z1
  have hbx : Below w16.heap.size w16 ((wz.setCell ⟨Nb, 0, none⟩ (.int .i64 W)).setCell ⟨Nb, 1, none⟩ (.slice a3b l3b c3b)) := ((hbd.trans hbz).setCell lN _).setCell lN _
  replace hN := hN.put (.int .i64 W) (.slice a3b l3b c3b)
  replace hSpb := hSpb.keep (w' := (wz.setCell ⟨Nb, 0, none⟩ (.int .i64 W)).setCell ⟨Nb, 1, none⟩ (.slice a3b l3b c3b)) (by simp) (fun b hb => by rw [Below.heap_setCell _ _ _ _ (show b ≠ Nb from fun e => hn4b (e ▸ hb)), Below.heap_setCell _ _ _ _ (show b ≠ Nb from fun e => hn4b (e ▸ hb))])
  obtain ⟨w17, hW⟩ : ∃ x, x = ((wz.setCell ⟨Nb, 0, none⟩ (.int .i64 W)).setCell ⟨Nb, 1, none⟩ (.slice a3b l3b c3b)) := ⟨_, rfl⟩
  rw [← hW] at hbx hN hSpb
  rw [← hW]
  clear hW hbz hbd
  refine hKK.out _ _ ⟨hA.below hbx, hB.below hbx⟩ (fun hHeld6 => ?_)
  clear hKK hHeld6 hHeld
  refine wpAnyH_done (by kernel_rfl) ?_ _
  have st17 := st16.below hbx
  clear hbx hf4 hA hB hbw hzw st16 hn4b lN
  have q_n := hN; obtain ⟨_, _, n0, n1⟩ := q_n
  have q_s := st17.ps; obtain ⟨_, _, s0, s1⟩ := q_s
  go_wp2_with fail
  refine Calls.mono (eqBag_same W (.slice a3b l3b c3b) (.slice a3 l3 c3) (addC W Wb cs ds) _ hSpb.is st17.sp.is) ?_
  rintro e w18 ⟨rfl, hb18⟩
  have st18 := st17.below hb18
  clear hb18
  clear s0 s1
  clear n0 n1 st17 hSpb hN
  have q_g := st18.pg; obtain ⟨_, _, g0, g1⟩ := q_g
  go_wp2_with fail
  refine Calls.mono (hheld w18 st18.gg.is (by decide) (by omega)) ?_
  rintro e w19 ⟨rfl, hb19⟩
  have st19 := st18.below hb19
  clear g0 g1
  clear hb19 st18
  have belE := st19.bel
  clear st19 hheld
  go_wp2
  go_returns
  exact ⟨rfl, belE⟩
end Go.Proofs.Ytobbfmcfibmicaa.fnExactAddBag
