/- Own text. Two bags together: the contract of spec.l02Sum. -/
import Derived.Test.YtcldekhihijcjaaPutX
import Derived.Test.YtcldekhihijcjaaCopyS
import Derived.Test.YtcldekhihijcjaaSumP
namespace Go.Proofs.Ytcldekhihijcjaa
open Go.RowKit Go.Deep Go.ChangeShapes Go.WideShapes
set_option linter.unusedVariables false
set_option maxHeartbeats 4000000 in
set_option maxRecDepth 100000 in
theorem l02Sum_any (W Wb n : Int) (va vb : Value) (cs ds : List C2) (F F2 : List Nat) (w : World) (ha : RowsF w va cs F) (hb : RowsF w vb ds F2) (hn : wtb cs ≤ 1048576) (hn2 : wtb ds ≤ 1048576) (hA : Asc cs) (hz : ∀ c ∈ cs, c.n ≠ 0)
    (hc : ∀ c ∈ cs, -1000000000000 ≤ c.n ∧ c.n ≤ 1000000000000) (hd : ∀ x ∈ ds, -1000000000000 ≤ n * x.n ∧ n * x.n ≤ 1000000000000) (P : List C2) (hP : Hid (sumC cs ds n = P)) :
    Calls Try.prog 40 #[.agg #[.int .i64 W, va], .agg #[.int .i64 Wb, vb], .int .i64 n] w fun e w' => (∃ u us G, e = .returned (.agg #[.int .i64 W, u]) ∧ BagOwn w' w.heap.size u P us G) ∧ Below w.heap.size w w' := by
  have ha' := ha
  obtain ⟨aa, ca, GA, rfl, _⟩ := ha'
  obtain ⟨a, c, b, o, G0, rfl, hl, hcm, _, hG0, _, hC, hat⟩ := hb.pick
  unfold maxLen at hcm
  have hl1 : cs.length ≤ 1048576 := by unfold wtb at hn; omega
  have hl2 : ds.length ≤ 1048576 := by unfold wtb at hn2; omega
  go_enter Try.func40, Try.ntmps40
  go_wp2_with fail
  refine Calls.mono (l02Copy_any W _ cs F _ (ha.below ?hbb) hn) ?_
  case hbb => repeat (first | (with_reducible exact Below.refl _ _) | (with_reducible refine Below.drew ?_) | (with_reducible refine Below.alloc ?_ ?hh _; case hh => first | (simp; done) | (simp; omega) | omega) | (with_reducible refine Below.setCell ?_ ?hh _; case hh => first | (simp; done) | (simp; omega) | omega) | refine bstep (by assumption) (by first | (simp; done) | (simp; omega) | omega) ?_)
  rintro e w2 ⟨⟨u2, us2, G2, rfl, hB2⟩, hb2⟩
  obtain ⟨a2, c2, rfl⟩ := hB2.shape
  have hz2 := hb2.size
  simp at hz2
  have hB2' : BagOwn w2 (w.heap.size + 1 + 1 + 1) (.slice a2 cs.length c2) cs us2 G2 := by simpa using hB2
  have bel2 : Below w.heap.size w w2 := by repeat (first | (with_reducible exact Below.refl _ _) | (with_reducible refine Below.drew ?_) | (with_reducible refine Below.alloc ?_ ?hh _; case hh => first | (simp; done) | (simp; omega) | omega) | (with_reducible refine Below.setCell ?_ ?hh _; case hh => first | (simp; done) | (simp; omega) | omega) | refine bstep (by assumption) (by first | (simp; done) | (simp; omega) | omega) ?_)
  have d0 : w2.cell? ⟨w.heap.size + 1, 0, none⟩ = some (.int .i64 Wb) := cell_later hb2 (by go_simp)
  have d1 : w2.cell? ⟨w.heap.size + 1, 1, none⟩ = some (.slice a ds.length c) := cell_later hb2 (by go_simp)
  have r0 : w2.cell? ⟨w.heap.size + 1 + 1, 0, none⟩ = some (.int .i64 0) := cell_later hb2 (by go_simp)
  have r1 : w2.cell? ⟨w.heap.size + 1 + 1, 1, none⟩ = some (.slice none 0 0) := cell_later hb2 (by go_simp)
  have rf : ∀ q, w2.frozen? ⟨w.heap.size + 1 + 1, q, none⟩ = false := fun q => ((bcell hb2).2 _ q (by simp)).trans (by go_simp)
  have hlt2 := hB2'.lt
  have hol2 := ownsRow_lt hB2'.own
  obtain ⟨X, hX⟩ : ∃ X, X = w2.heap.size := ⟨_, rfl⟩
  clear hB2 hb2 hb ha
  go_wp2_with fail
  go_loopw [8] (fun i wr => ∃ (k : Nat) (y : Value) (us : List Value) (G : List (List Nat)), k ≤ ds.length ∧ i = .int .i64 k ∧ wr.cell? ⟨w2.heap.size, 0, none⟩ = some (.int .i64 W) ∧ wr.cell? ⟨w2.heap.size, 1, none⟩ = some y ∧ (∀ q, wr.frozen? ⟨w2.heap.size, q, none⟩ = false) ∧ wr.cell? ⟨w.heap.size + 1, 0, none⟩ = some (.int .i64 Wb) ∧ wr.cell? ⟨w.heap.size + 1, 1, none⟩ = some (.slice a ds.length c) ∧ wr.cell? ⟨w.heap.size + 1 + 1, 0, none⟩ = some (.int .i64 0) ∧ wr.cell? ⟨w.heap.size + 1 + 1, 1, none⟩ = some (.slice none 0 0) ∧ (∀ q, wr.frozen? ⟨w.heap.size + 1 + 1, q, none⟩ = false) ∧ BagOwn wr (w.heap.size + 1 + 1 + 1) y (sumC cs (ds.take k) n) us G ∧ y.ownBlock ≠ some w2.heap.size ∧ w2.heap.size ∉ G.flatten ∧ Below w.heap.size w wr ∧ w2.heap.size < wr.heap.size) (fun i _ => ds.length - (intOf i).toNat)
  case atStart =>
    refine ⟨0, .slice a2 cs.length c2, us2, G2, Nat.zero_le _, rfl, by go_simp, by go_simp, fun q => by go_simp, (by go_simp; exact (cell_blk (Below.heap_alloc w2 _ _ (by omega))).trans d0), (by go_simp; exact (cell_blk (Below.heap_alloc w2 _ _ (by omega))).trans d1), (by go_simp; exact (cell_blk (Below.heap_alloc w2 _ _ (by omega))).trans r0), (by go_simp; exact (cell_blk (Below.heap_alloc w2 _ _ (by omega))).trans r1), fun q => (by go_simp; exact (frozen_blk (Below.heap_alloc w2 _ _ (by omega))).trans (rf q)), ?_, fun e => by have := (hol2 _ e).2; omega, fun e => by have := hlt2 _ e; omega, by repeat (first | (with_reducible exact Below.refl _ _) | (with_reducible refine Below.drew ?_) | (with_reducible refine Below.alloc ?_ ?hh _; case hh => first | (simp; done) | (simp; omega) | omega) | (with_reducible refine Below.setCell ?_ ?hh _; case hh => first | (simp; done) | (simp; omega) | omega) | refine bstep (by assumption) (by first | (simp; done) | (simp; omega) | omega) ?_), by simp⟩
    rw [List.take_zero]
    exact hB2'.below (by repeat (first | (with_reducible exact Below.refl _ _) | (with_reducible refine Below.drew ?_) | (with_reducible refine Below.alloc ?_ ?hh _; case hh => first | (simp; done) | (simp; omega) | omega) | (with_reducible refine Below.setCell ?_ ?hh _; case hh => first | (simp; done) | (simp; omega) | omega) | refine bstep (by assumption) (by first | (simp; done) | (simp; omega) | omega) ?_))
  case round =>
    obtain ⟨k, y, us, G, hk, rfl, p0, p1, pf, d0, d1, r0, r1, rf, hB, hyX, hGX, hb, hzb⟩ := hrel
    by_cases hlt : k < ds.length
    · obtain ⟨rfl, hblt, _⟩ := hat k hlt
      obtain ⟨x, u0, g0, hx, _, c0, hR, c1, hbr⟩ := hC.at hG0 hblt hb hlt
      obtain ⟨a0, n0, rfl⟩ := hR.shape
      obtain ⟨ay, cy, rfl⟩ := hB.shape
      have hxd := hd x (List.mem_of_getElem? hx)
      have hxn : x.r.length ≤ 1048576 := by have := wt_mem (List.mem_of_getElem? hx); unfold wt at this; unfold wtb at hn2; omega
      have hkI : (k : Int) < ds.length := by omega
      have hwx : IntKind.i64.wrap (n * x.n) = n * x.n := by rw [IntKind.wrap_i64]; omega
      have hwx2 : wrap64 (n * x.n) = n * x.n := by unfold wrap64; omega
      have HT : Hid (sumC cs (ds.take (k + 1)) n = putC (sumC cs (ds.take k) n) x.r (n * x.n)) := by show _ = _; rw [take_snoc hx, sumC_snoc]
      obtain ⟨hsl, hsb⟩ := sumC_bound (n := n) (m := 1000000000000) (ds := ds.take k) (fun c h => hc c h) (by omega) (by omega) (fun y hy => hd y (List.mem_of_mem_take hy))
      obtain ⟨hsA, hsz, _⟩ := sumC_all (n := n) (ds := ds.take k) hA hz
      have htl : (ds.take k).length ≤ 1048576 := by simp; omega
      have hsb2 : ∀ c ∈ sumC cs (ds.take k) n, -4000000000000000000 ≤ c.n ∧ c.n ≤ 4000000000000000000 := fun c h => by have := hsb c h; omega
      have hsl2 : (sumC cs (ds.take k) n).length ≤ 2097152 := by omega
      clear hsb hsl hsz htl
      generalize sumC cs (ds.take k) n = ct at *
      obtain ⟨m, hm⟩ : ∃ m, m = n * x.n := ⟨_, rfl⟩
      clear hat hC hx hd hc
      go_wp2_with fail
      -- region
      refine startE 16 (fun w' => w'.cell? ⟨w2.heap.size, 0, none⟩ = some (.int .i64 W) ∧ w'.cell? ⟨w2.heap.size, 1, none⟩ = some (.slice ay ct.length cy) ∧ w'.cell? ⟨w.heap.size + 1, 1, none⟩ = some (.slice (some ⟨b, o, none⟩) ds.length c) ∧ w'.cell? ⟨b, o + k * 2, none⟩ = some (.slice a0 x.r.length n0) ∧ w'.cell? ⟨b, o + k * 2 + 1, none⟩ = some (.int .i64 x.n)) (by kernel_rfl) ?_ (fun hHeld => ?_)
      · (try dsimp only)
        exact ⟨p0, p1, d1, c0, c1⟩
      refine takeE (i := 0) (d := 18) (v := ?_) rfl rfl (by kernel_rfl) (by kernel_rfl) (by kernel_rfl) (by kernel_rfl) (fun _ _ _ h => h) (by rfl) (by assumption) ?_ ?_
      rotate_left
      · intro w' hSw; (try dsimp only at hSw); go_simp; try exact rfl
      try simp only [List.setIfInBounds_toArray, List.set_cons_zero, List.set_cons_succ]
      refine takeE (i := 1) (d := 19) (v := ?_) rfl rfl (by kernel_rfl) (by kernel_rfl) (by kernel_rfl) (by kernel_rfl) (fun _ _ _ h => h) (by rfl) (by assumption) ?_ ?_
      rotate_left
      · intro w' hSw; (try dsimp only at hSw); go_simp; try exact rfl
      try simp only [List.setIfInBounds_toArray, List.set_cons_zero, List.set_cons_succ]
      refine takeE (i := 2) (d := 20) (v := ?_) rfl rfl (by kernel_rfl) (by kernel_rfl) (by kernel_rfl) (by kernel_rfl) (fun _ _ _ h => h) (by rfl) (by assumption) ?_ ?_
      rotate_left
      · intro w' hSw; (try dsimp only at hSw); go_simp; try exact rfl
      try simp only [List.setIfInBounds_toArray, List.set_cons_zero, List.set_cons_succ]
      refine takeE (i := 3) (d := 21) (v := ?_) rfl rfl (by kernel_rfl) (by kernel_rfl) (by kernel_rfl) (by kernel_rfl) (fun _ _ _ h => h) (by rfl) (by assumption) ?_ ?_
      rotate_left
      · intro w' hSw; (try dsimp only at hSw); go_simp; try exact rfl
      try simp only [List.setIfInBounds_toArray, List.set_cons_zero, List.set_cons_succ]
      refine takeE (i := 4) (d := 22) (v := ?_) rfl rfl (by kernel_rfl) (by kernel_rfl) (by kernel_rfl) (by kernel_rfl) (fun _ _ _ h => h) (by rfl) (by assumption) ?_ ?_
      rotate_left
      · intro w' hSw; (try dsimp only at hSw); go_simp; try exact rfl
      try simp only [List.setIfInBounds_toArray, List.set_cons_zero, List.set_cons_succ]
      refine takeE (i := 5) (d := 23) (v := ?_) rfl rfl (by kernel_rfl) (by kernel_rfl) (by kernel_rfl) (by kernel_rfl) (fun _ _ _ h => h) (by rfl) (by assumption) ?_ ?_
      rotate_left
      · intro w' hSw; (try dsimp only at hSw); go_simp; try exact rfl
      try simp only [List.setIfInBounds_toArray, List.set_cons_zero, List.set_cons_succ]
      refine takeE (i := 6) (d := 24) (v := ?_) rfl rfl (by kernel_rfl) (by kernel_rfl) (by kernel_rfl) (by kernel_rfl) (fun _ _ _ h => h) (by rfl) (by assumption) ?_ ?_
      rotate_left
      · intro w' hSw; (try dsimp only at hSw); go_simp; try exact rfl
      try simp only [List.setIfInBounds_toArray, List.set_cons_zero, List.set_cons_succ]
      refine takeE (i := 7) (d := 25) (v := ?_) rfl rfl (by kernel_rfl) (by kernel_rfl) (by kernel_rfl) (by kernel_rfl) (fun _ _ _ h => h) (by rfl) (by assumption) ?_ ?_
      rotate_left
      · intro w' hSw; (try dsimp only at hSw); go_simp; try exact rfl
      try simp only [List.setIfInBounds_toArray, List.set_cons_zero, List.set_cons_succ]
      refine takeE (i := 8) (d := 26) (v := ?_) rfl rfl (by kernel_rfl) (by kernel_rfl) (by kernel_rfl) (by kernel_rfl) (fun _ _ _ h => h) (by rfl) (by assumption) ?_ ?_
      rotate_left
      · intro w' hSw; (try dsimp only at hSw); go_simp; try exact rfl
      try simp only [List.setIfInBounds_toArray, List.set_cons_zero, List.set_cons_succ]
      refine takeE (i := 9) (d := 27) (v := ?_) rfl rfl (by kernel_rfl) (by kernel_rfl) (by kernel_rfl) (by kernel_rfl) (fun _ _ _ h => h) (by rfl) (by assumption) ?_ ?_
      rotate_left
      · intro w' hSw; (try dsimp only at hSw); go_simp; try exact rfl
      try simp only [List.setIfInBounds_toArray, List.set_cons_zero, List.set_cons_succ]
      refine takeE (i := 10) (d := 28) (v := ?_) rfl rfl (by kernel_rfl) (by kernel_rfl) (by kernel_rfl) (by kernel_rfl) (fun _ _ _ h => h) (by rfl) (by assumption) ?_ ?_
      rotate_left
      · intro w' hSw; (try dsimp only at hSw); go_simp; try exact rfl
      try simp only [List.setIfInBounds_toArray, List.set_cons_zero, List.set_cons_succ]
      refine takeE (i := 11) (d := 29) (v := ?_) rfl rfl (by kernel_rfl) (by kernel_rfl) (by kernel_rfl) (by kernel_rfl) (fun _ _ _ h => h) (by rfl) (by assumption) ?_ ?_
      rotate_left
      · intro w' hSw; (try dsimp only at hSw); go_simp; try exact rfl
      try simp only [List.setIfInBounds_toArray, List.set_cons_zero, List.set_cons_succ]
      refine takeE (i := 12) (d := 30) (v := ?_) rfl rfl (by kernel_rfl) (by kernel_rfl) (by kernel_rfl) (by kernel_rfl) (fun _ _ _ h => h) (by rfl) (by assumption) ?_ ?_
      rotate_left
      · intro w' hSw; (try dsimp only at hSw); go_simp; try exact rfl
      try simp only [List.setIfInBounds_toArray, List.set_cons_zero, List.set_cons_succ]
      refine takeE (i := 13) (d := 31) (v := ?_) rfl rfl (by kernel_rfl) (by kernel_rfl) (by kernel_rfl) (by kernel_rfl) (fun _ _ _ h => h) (by rfl) (by assumption) ?_ ?_
      rotate_left
      · intro w' hSw; (try dsimp only at hSw); go_simp; try exact rfl
      try simp only [List.setIfInBounds_toArray, List.set_cons_zero, List.set_cons_succ]
      refine takeE (i := 14) (d := 32) (v := ?_) rfl rfl (by kernel_rfl) (by kernel_rfl) (by kernel_rfl) (by kernel_rfl) (fun _ _ _ h => h) (by rfl) (by assumption) ?_ ?_
      rotate_left
      · intro w' hSw; (try dsimp only at hSw); go_simp; try exact rfl
      try simp only [List.setIfInBounds_toArray, List.set_cons_zero, List.set_cons_succ]
      refine oneE (i := 15) (by kernel_rfl) rfl (fun K hK => ?_)
      go_simp
      go_at_call 25
      refine Calls.mono (l02Put_any W (n * x.n) (.slice ay ct.length cy) (.slice a0 x.r.length n0) ct us G x.r g0 (w.heap.size + 1 + 1 + 1) _ (hB.below (by repeat (first | (with_reducible exact Below.refl _ _) | (with_reducible refine Below.drew ?_) | (with_reducible refine Below.alloc ?_ ?hh _; case hh => first | (simp; done) | (simp; omega) | omega) | (with_reducible refine Below.setCell ?_ ?hh _; case hh => first | (simp; done) | (simp; omega) | omega) | refine bstep (by assumption) (by first | (simp; done) | (simp; omega) | omega) ?_))) (hR.below (by repeat (first | (with_reducible exact Below.refl _ _) | (with_reducible refine Below.drew ?_) | (with_reducible refine Below.alloc ?_ ?hh _; case hh => first | (simp; done) | (simp; omega) | omega) | (with_reducible refine Below.setCell ?_ ?hh _; case hh => first | (simp; done) | (simp; omega) | omega) | refine bstep (by assumption) (by first | (simp; done) | (simp; omega) | omega) ?_))) hsA (by simp; omega) hsl2 hxn (by omega) (by omega) hsb2 _ rfl) ?_
      rintro e w5 ⟨v5, us5, G5, rfl, hB5, hv5, hG5, hb5, hgr5⟩
      obtain ⟨a5, c5, rfl⟩ := hB5.shape
      have hz5 := hb5.size
      simp at hz5
      have kX : w5.heap[w2.heap.size]? = wr.heap[w2.heap.size]? := hgr5.block _ (by simp; omega) (fun e => hyX e.symm)
      have kB : ∀ q, q < w.heap.size + 1 + 1 + 1 → w5.heap[q]? = wr.heap[q]? := fun q hq => hb5.block q hq
      have p05 := (cell_blk kX).trans p0
      have p15 := (cell_blk kX).trans p1
      have pf5 : ∀ q, w5.frozen? ⟨w2.heap.size, q, none⟩ = false := fun q => (frozen_blk kX).trans (pf q)
      have d05 := (cell_blk (kB (w.heap.size + 1) (by omega))).trans d0
      have d15 := (cell_blk (kB (w.heap.size + 1) (by omega))).trans d1
      have r05 := (cell_blk (kB (w.heap.size + 1 + 1) (by omega))).trans r0
      have r15 := (cell_blk (kB (w.heap.size + 1 + 1) (by omega))).trans r1
      have rf5 : ∀ q, w5.frozen? ⟨w.heap.size + 1 + 1, q, none⟩ = false := fun q => (frozen_blk (kB (w.heap.size + 1 + 1) (by omega))).trans (rf q)
      have c05 := (cell_blk (kB b (by omega))).trans c0
      have c15 := (cell_blk (kB b (by omega))).trans c1
      have hvX : (Value.slice a5 (putC ct x.r (n * x.n)).length c5).ownBlock ≠ some w2.heap.size := fun e => hyX (hv5 _ (by simp; omega) e)
      have hGX5 : w2.heap.size ∉ G5.flatten := fun e => hGX (hG5 _ (by simp; omega) e)
      have bel5 : Below w.heap.size w w5 := hb.trans ((show Below (w.heap.size + 1 + 1 + 1) wr w5 from ⟨hb5.os, hb5.tape, hb5.output, hb5.size, hb5.block⟩).mono (by omega))
      skip
      try go_wp2_with fail
      refine hK.out _ _ ?_ (fun hHeld15 => ?_)
      · intro _
        (try dsimp only)
        exact ⟨p05, p15, d15, c05, c15⟩
      clear hK
      replace hHeld15 := hHeld15 (by decide)
      try simp only [List.setIfInBounds_toArray, List.set_cons_zero, List.set_cons_succ]
      refine oneE (i := 16) (by kernel_rfl) rfl (fun K hK => ?_)
      go_simp
      refine hK.out _ _ ?_ (fun hHeld16 => ?_)
      · exact fun h => absurd rfl h
      clear hK hHeld16
      try simp only [List.setIfInBounds_toArray, List.set_cons_zero, List.set_cons_succ]
      refine doneE (by kernel_rfl) ?_ _
      -- end of the region
      have hBs : BagOwn ((w5.setCell ⟨w2.heap.size, 0, none⟩ (.int .i64 W)).setCell ⟨w2.heap.size, 1, none⟩ (.slice a5 (putC ct x.r (n * x.n)).length c5)) (w.heap.size + 1 + 1 + 1) (.slice a5 (putC ct x.r (n * x.n)).length c5) (sumC cs (ds.take (k + 1)) n) us5 G5 := by
        rw [HT.out]
        exact hB5.keepO (by simp) (fun b hb => (Below.heap_setCell _ _ _ _ (by rintro rfl; exact hvX hb)).trans (Below.heap_setCell _ _ _ _ (by rintro rfl; exact hvX hb))) (fun b hb => (Below.heap_setCell _ _ _ _ (by rintro rfl; exact hGX5 hb)).trans (Below.heap_setCell _ _ _ _ (by rintro rfl; exact hGX5 hb)))
      have P0 : ((w5.setCell ⟨w2.heap.size, 0, none⟩ (.int .i64 W)).setCell ⟨w2.heap.size, 1, none⟩ (.slice a5 (putC ct x.r (n * x.n)).length c5)).cell? ⟨w2.heap.size, 0, none⟩ = some (.int .i64 W) := (World.cell?_setCell_other _ _ _ _ (by simp)).trans (World.cell?_setCell_same _ _ _ p05)
      have P1 : ((w5.setCell ⟨w2.heap.size, 0, none⟩ (.int .i64 W)).setCell ⟨w2.heap.size, 1, none⟩ (.slice a5 (putC ct x.r (n * x.n)).length c5)).cell? ⟨w2.heap.size, 1, none⟩ = some (.slice a5 (putC ct x.r (n * x.n)).length c5) := World.cell?_setCell_same _ _ _ ((World.cell?_setCell_other _ _ _ _ (by simp)).trans p15)
      have PF : ∀ q, ((w5.setCell ⟨w2.heap.size, 0, none⟩ (.int .i64 W)).setCell ⟨w2.heap.size, 1, none⟩ (.slice a5 (putC ct x.r (n * x.n)).length c5)).frozen? ⟨w2.heap.size, q, none⟩ = false := fun q => by simpa using pf5 q
      have keep : ∀ b q, b < w2.heap.size → ((w5.setCell ⟨w2.heap.size, 0, none⟩ (.int .i64 W)).setCell ⟨w2.heap.size, 1, none⟩ (.slice a5 (putC ct x.r (n * x.n)).length c5)).cell? ⟨b, q, none⟩ = w5.cell? ⟨b, q, none⟩ := fun b q h => (World.cell?_setCell_other _ _ _ _ (by simp; try omega)).trans (World.cell?_setCell_other _ _ _ _ (by simp; try omega))
      have D0 := (keep (w.heap.size + 1) 0 (by omega)).trans d05
      have D1 := (keep (w.heap.size + 1) 1 (by omega)).trans d15
      have R0 := (keep (w.heap.size + 1 + 1) 0 (by omega)).trans r05
      have R1 := (keep (w.heap.size + 1 + 1) 1 (by omega)).trans r15
      have RF : ∀ q, ((w5.setCell ⟨w2.heap.size, 0, none⟩ (.int .i64 W)).setCell ⟨w2.heap.size, 1, none⟩ (.slice a5 (putC ct x.r (n * x.n)).length c5)).frozen? ⟨w.heap.size + 1 + 1, q, none⟩ = false := fun q => by simpa using rf5 q
      have belS : Below w.heap.size w ((w5.setCell ⟨w2.heap.size, 0, none⟩ (.int .i64 W)).setCell ⟨w2.heap.size, 1, none⟩ (.slice a5 (putC ct x.r (n * x.n)).length c5)) := (bel5.setCell (by simp; try omega) _).setCell (by simp; try omega) _
      have hzS : w2.heap.size < ((w5.setCell ⟨w2.heap.size, 0, none⟩ (.int .i64 W)).setCell ⟨w2.heap.size, 1, none⟩ (.slice a5 (putC ct x.r (n * x.n)).length c5)).heap.size := by simp; omega
      clear hB hB5 hgr5 keep p05 p15 d05 d15 r05 r15 rf5 pf5 c05 c15 hsA hsb2 HT
      go_wp2
      exact ⟨⟨k + 1, _, _, _, hlt, by simp, P0, P1, PF, D0, D1, R0, R1, RF, hBs, hvX, hGX5, belS, hzS⟩, by simp [intOf]; omega⟩
    · obtain rfl : k = ds.length := by omega
      rw [List.take_length, hP.out] at hB
      obtain ⟨ay, cy, rfl⟩ := hB.shape
      clear hat hC hP
      go_wp2
      refine bodyPost_ret (v := .agg #[.int .i64 W, .slice ay P.length cy]) (by simp [results, Try.results40, go_sem, *]) rfl ⟨⟨_, us, G, rfl, (hB.keep (by simp) fun b hb _ => ?_).weak (by omega)⟩, ?_⟩
      · repeat rw [Below.heap_setCell _ _ _ _ (by simp; omega)]
      · repeat (first | (with_reducible exact hb) | (with_reducible refine Below.setCell ?_ ?hh _; case hh => (simp; try omega)))
end Go.Proofs.Ytcldekhihijcjaa
