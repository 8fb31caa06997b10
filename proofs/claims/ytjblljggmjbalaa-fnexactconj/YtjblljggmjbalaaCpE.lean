/- Own text. An expression that is copied: the contract of spec.l03Copy. -/
import Derived.Test.YtjblljggmjbalaaExpO
import Derived.Test.YtjblljggmjbalaaLastE
import Derived.Handy
import Derived.Deep.DrawnRows
import Derived.Deep.AppendLies
namespace Go.Proofs.Ytjblljggmjbalaa
open Go.RowKit Go.Deep
set_option linter.unusedVariables false
attribute [local go_sem ↓] Go.wp_at_zero Go.wp_at_succ
theorem take_snocE {α : Type} {l : List α} {k : Nat} {x : α} (h : l[k]? = some x) : l.take (k + 1) = l.take k ++ [x] := by
  obtain ⟨hk, rfl⟩ := List.getElem?_eq_some_iff.1 h
  exact List.take_succ_eq_append_getElem hk
/-- l03Copy at an expression whose kids are at most d deep. -/
def CpS (d : Nat) : Prop := ∀ (e : E7) (u : Value) (F : List Nat) (w : World), KidsIs w d u e.ks F → wtE e ≤ 1048576 →
    Calls Try.prog 15 #[(.agg #[.int .i64 e.k, .int .i64 e.n, .int .i64 e.v.k, .int .i64 e.v.n, .string e.v.s, .string e.p, u])] w fun x w' => (∃ u' F', x = .returned (.agg #[.int .i64 e.k, .int .i64 e.n, .int .i64 e.v.k, .int .i64 e.v.n, .string e.v.s, .string e.p, u']) ∧ KidsIs w' d u' e.ks F' ∧ Own w' w.heap.size F') ∧ Below w.heap.size w w'
set_option maxHeartbeats 8000000 in
set_option maxRecDepth 100000 in
theorem l03Copy_any : ∀ d, CpS d
  | 0 => fun e u F w h => h.elim
  | d + 1 => by
    have ih := l03Copy_any d
    intro e u F w hr hn
    obtain ⟨i0, hi, hz0, hz1, hz2⟩ := info_parts Try.infoExp
    obtain ⟨a, c, b, o, G0, rfl, hl, hc, hG0, _, ha⟩ := hr.pick
    unfold maxLen at hc
    have hwe := wtE_eq e
    have hn1 : e.ks.length ≤ 1048576 := by omega
    clear hr
    go_enter Try.func15, Try.ntmps15
    go_wp2
    go_loopw [4] (fun i wr => ∃ (k : Nat) (y : Value) (us : List Value) (G : List (List Nat)), k ≤ e.ks.length ∧ i = .int .i64 k ∧ wr.cell? ⟨w.heap.size + 1 + 1, 0, none⟩ = some (.int .i64 e.k) ∧ wr.cell? ⟨w.heap.size + 1 + 1, 1, none⟩ = some (.int .i64 e.n) ∧ wr.cell? ⟨w.heap.size + 1 + 1, 2, none⟩ = some (.int .i64 e.v.k) ∧ wr.cell? ⟨w.heap.size + 1 + 1, 3, none⟩ = some (.int .i64 e.v.n) ∧ wr.cell? ⟨w.heap.size + 1 + 1, 4, none⟩ = some (.string e.v.s) ∧ wr.cell? ⟨w.heap.size + 1 + 1, 5, none⟩ = some (.string e.p) ∧ wr.cell? ⟨w.heap.size + 1 + 1, 6, none⟩ = some (y) ∧ (∀ q, wr.frozen? ⟨w.heap.size + 1 + 1, q, none⟩ = false) ∧ wr.cell? ⟨w.heap.size + 1, 0, none⟩ = some (.int .i64 0) ∧ wr.cell? ⟨w.heap.size + 1, 1, none⟩ = some (.int .i64 0) ∧ wr.cell? ⟨w.heap.size + 1, 2, none⟩ = some (.int .i64 0) ∧ wr.cell? ⟨w.heap.size + 1, 3, none⟩ = some (.int .i64 0) ∧ wr.cell? ⟨w.heap.size + 1, 4, none⟩ = some (.string ⟨#[]⟩) ∧ wr.cell? ⟨w.heap.size + 1, 5, none⟩ = some (.string ⟨#[]⟩) ∧ wr.cell? ⟨w.heap.size + 1, 6, none⟩ = some (.slice none 0 0) ∧ (∀ q, wr.frozen? ⟨w.heap.size + 1, q, none⟩ = false) ∧ wr.cell? ⟨w.heap.size, 6, none⟩ = some (.slice a e.ks.length c) ∧ ExpOwn wr (w.heap.size + 1 + 1 + 1) d y (e.ks.take k) us G ∧ Below w.heap.size w wr ∧ w.heap.size + 1 + 1 + 1 ≤ wr.heap.size) (fun i _ => e.ks.length - (intOf i).toNat)
    case atStart =>
      refine ⟨0, .slice (some ⟨w.heap.size + 1 + 1 + 1, 0, none⟩) 0 0, [], [], Nat.zero_le _, rfl, by go_simp, by go_simp, by go_simp, by go_simp, by go_simp, by go_simp, by go_simp, fun q => by go_simp, by go_simp, by go_simp, by go_simp, by go_simp, by go_simp, by go_simp, by go_simp, fun q => by go_simp, by go_simp, ?_, by repeat (first | (with_reducible exact Below.refl _ _) | (with_reducible refine Below.drew ?_) | (with_reducible refine Below.alloc ?_ ?hh _; case hh => first | (simp; done) | (simp; omega) | omega) | (with_reducible refine Below.setCell ?_ ?hh _; case hh => first | (simp; done) | (simp; omega) | omega) | refine bstep (by assumption) (by first | (simp; done) | (simp; omega) | omega) ?_), by simp; try omega⟩
      rw [List.take_zero]
      exact ExpOwn.empty' (by simp) d
    case round =>
      obtain ⟨k, y, us, G, hk, rfl, p0, p1, p2, p3, p4, p5, p6, pf, r0, r1, r2, r3, r4, r5, r6, rf, bx, hB, hb, hzb⟩ := hrel
      by_cases hlt : k < e.ks.length
      · obtain ⟨rfl, hblt, _, hC⟩ := ha k hlt
        obtain ⟨x, g0, u0, hx, _, hxw, ⟨x0, x1, x2, x3, x4, x5⟩, x6, hKx, hbr⟩ := hC.at hG0 hblt hb hlt
        obtain ⟨a0, n0, rfl, _, _⟩ := hKx.shape
        have hxn : wtE x ≤ 1048576 := by have := wtE_mem (List.mem_of_getElem? hx); omega
        have htk : (e.ks.take k).length = k := by simp; omega
        have hvl := ownsE_lt hB.own
        have hv2 : y.ownBlock ≠ some (w.heap.size + 1 + 1) := fun e => by have := (hvl _ e).1; omega
        have hvr : y.ownBlock ≠ some (w.heap.size + 1) := fun e => by have := (hvl _ e).1; omega
        have hvb : y.ownBlock ≠ some w.heap.size := fun e => by have := (hvl _ e).1; omega
        have hvx : y.ownBlock ≠ some b := fun e => by have := (hvl _ e).1; omega
        have hGl := hB.lt
        have HT : Hid (e.ks.take (k + 1) = e.ks.take k ++ [x]) := take_snocE hx
        generalize e.ks.take k = ct at *
        have hml : ct.length + 1 ≤ maxLen := by unfold maxLen; omega
        have hby : (ct.length + 1) * 88 ≤ 140737488355328 := by omega
        clear ha hC hx htk hvl hwe hn
        go_wp2_with fail
        refine startE 11 (fun w' => w'.cell? ⟨w.heap.size + 1 + 1, 6, none⟩ = some y ∧ w'.cell? ⟨w.heap.size, 6, none⟩ = some (.slice (some ⟨b, o, none⟩) e.ks.length c) ∧ w'.cell? ⟨b, o + k * 7, none⟩ = some (.int .i64 x.k) ∧ w'.cell? ⟨b, o + k * 7 + 1, none⟩ = some (.int .i64 x.n) ∧ w'.cell? ⟨b, o + k * 7 + 2, none⟩ = some (.int .i64 x.v.k) ∧ w'.cell? ⟨b, o + k * 7 + 3, none⟩ = some (.int .i64 x.v.n) ∧ w'.cell? ⟨b, o + k * 7 + 4, none⟩ = some (.string x.v.s) ∧ w'.cell? ⟨b, o + k * 7 + 5, none⟩ = some (.string x.p) ∧ w'.cell? ⟨b, o + k * 7 + 6, none⟩ = some (.slice a0 x.ks.length n0)) (by kernel_rfl) ?_ (fun hHeld => ?_)
        · (try dsimp only)
          exact ⟨p6, bx, x0, x1, x2, x3, x4, x5, x6⟩
        refine takeE (i := 0) (d := 15) (v := ?_) rfl rfl (by kernel_rfl) (by kernel_rfl) (by kernel_rfl) (by kernel_rfl) (fun _ _ _ h => h) (by rfl) (by assumption) ?_ ?_
        rotate_left
        · intro w' hSw; (try dsimp only at hSw); go_simp; try exact rfl
        try simp only [List.setIfInBounds_toArray, List.set_cons_zero, List.set_cons_succ]
        refine takeE (i := 1) (d := 16) (v := ?_) rfl rfl (by kernel_rfl) (by kernel_rfl) (by kernel_rfl) (by kernel_rfl) (fun _ _ _ h => h) (by rfl) (by assumption) ?_ ?_
        rotate_left
        · intro w' hSw; (try dsimp only at hSw); go_simp; try exact rfl
        try simp only [List.setIfInBounds_toArray, List.set_cons_zero, List.set_cons_succ]
        refine takeE (i := 2) (d := 17) (v := ?_) rfl rfl (by kernel_rfl) (by kernel_rfl) (by kernel_rfl) (by kernel_rfl) (fun _ _ _ h => h) (by rfl) (by assumption) ?_ ?_
        rotate_left
        · intro w' hSw; (try dsimp only at hSw); go_simp; try exact rfl
        try simp only [List.setIfInBounds_toArray, List.set_cons_zero, List.set_cons_succ]
        refine takeE (i := 3) (d := 18) (v := ?_) rfl rfl (by kernel_rfl) (by kernel_rfl) (by kernel_rfl) (by kernel_rfl) (fun _ _ _ h => h) (by rfl) (by assumption) ?_ ?_
        rotate_left
        · intro w' hSw; (try dsimp only at hSw); go_simp; try exact rfl
        try simp only [List.setIfInBounds_toArray, List.set_cons_zero, List.set_cons_succ]
        refine takeE (i := 4) (d := 19) (v := ?_) rfl rfl (by kernel_rfl) (by kernel_rfl) (by kernel_rfl) (by kernel_rfl) (fun _ _ _ h => h) (by rfl) (by assumption) ?_ ?_
        rotate_left
        · intro w' hSw; (try dsimp only at hSw); go_simp; try exact rfl
        try simp only [List.setIfInBounds_toArray, List.set_cons_zero, List.set_cons_succ]
        refine takeE (i := 5) (d := 20) (v := ?_) rfl rfl (by kernel_rfl) (by kernel_rfl) (by kernel_rfl) (by kernel_rfl) (fun _ _ _ h => h) (by rfl) (by assumption) ?_ ?_
        rotate_left
        · intro w' hSw; (try dsimp only at hSw); go_simp; try exact rfl
        try simp only [List.setIfInBounds_toArray, List.set_cons_zero, List.set_cons_succ]
        refine takeE (i := 6) (d := 21) (v := ?_) rfl rfl (by kernel_rfl) (by kernel_rfl) (by kernel_rfl) (by kernel_rfl) (fun _ _ _ h => h) (by rfl) (by assumption) ?_ ?_
        rotate_left
        · intro w' hSw; (try dsimp only at hSw); go_simp; try exact rfl
        try simp only [List.setIfInBounds_toArray, List.set_cons_zero, List.set_cons_succ]
        refine oneE (i := 7) (by kernel_rfl) rfl (fun K hK => ?_)
        go_simp
        go_at_call 15
        refine Calls.mono (ih x (.slice a0 x.ks.length n0) g0 _ (hKx.below ?hbb) hxn) ?_
        case hbb => repeat (first | (with_reducible exact Below.refl _ _) | (with_reducible refine Below.drew ?_) | (with_reducible refine Below.alloc ?_ ?hh _; case hh => first | (simp; done) | (simp; omega) | omega) | (with_reducible refine Below.setCell ?_ ?hh _; case hh => first | (simp; done) | (simp; omega) | omega) | refine bstep (by assumption) (by first | (simp; done) | (simp; omega) | omega) ?_)
        rintro e' w2 ⟨⟨u2, g2, rfl, hK2, hO2⟩, hb2⟩
        obtain ⟨a2, n2, rfl, _, _⟩ := hK2.shape
        replace hO2 : Own w2 wr.heap.size g2 := by first | exact hO2 | simpa using hO2
        have hzw2 := hb2.size
        (try simp at hzw2)
        have bel2 : Below wr.heap.size wr w2 := by repeat (first | (with_reducible exact Below.refl _ _) | (with_reducible refine Below.drew ?_) | (with_reducible refine Below.alloc ?_ ?hh _; case hh => first | (simp; done) | (simp; omega) | omega) | (with_reducible refine Below.setCell ?_ ?hh _; case hh => first | (simp; done) | (simp; omega) | omega) | refine bstep (by assumption) (by first | (simp; done) | (simp; omega) | omega) ?_)
        have hB2 := hB.below bel2
        have pf2 : ∀ q, w2.frozen? ⟨w.heap.size + 1 + 1, q, none⟩ = false := fun q => ((bcell bel2).2 _ q (by omega)).trans (pf q)
        have rf2 : ∀ q, w2.frozen? ⟨w.heap.size + 1, q, none⟩ = false := fun q => ((bcell bel2).2 _ q (by omega)).trans (rf q)
        have p0a := ((bcell bel2).1 (w.heap.size + 1 + 1) 0 (by omega)).trans p0
        have p1a := ((bcell bel2).1 (w.heap.size + 1 + 1) 1 (by omega)).trans p1
        have p2a := ((bcell bel2).1 (w.heap.size + 1 + 1) 2 (by omega)).trans p2
        have p3a := ((bcell bel2).1 (w.heap.size + 1 + 1) 3 (by omega)).trans p3
        have p4a := ((bcell bel2).1 (w.heap.size + 1 + 1) 4 (by omega)).trans p4
        have p5a := ((bcell bel2).1 (w.heap.size + 1 + 1) 5 (by omega)).trans p5
        have p6a := ((bcell bel2).1 (w.heap.size + 1 + 1) 6 (by omega)).trans p6
        have r0a := ((bcell bel2).1 (w.heap.size + 1) 0 (by omega)).trans r0
        have r1a := ((bcell bel2).1 (w.heap.size + 1) 1 (by omega)).trans r1
        have r2a := ((bcell bel2).1 (w.heap.size + 1) 2 (by omega)).trans r2
        have r3a := ((bcell bel2).1 (w.heap.size + 1) 3 (by omega)).trans r3
        have r4a := ((bcell bel2).1 (w.heap.size + 1) 4 (by omega)).trans r4
        have r5a := ((bcell bel2).1 (w.heap.size + 1) 5 (by omega)).trans r5
        have r6a := ((bcell bel2).1 (w.heap.size + 1) 6 (by omega)).trans r6
        have bxa := ((bcell bel2).1 (w.heap.size) 6 (by omega)).trans bx
        have x0a := ((bcell bel2).1 b _ hbr).trans x0
        have x1a := ((bcell bel2).1 b _ hbr).trans x1
        have x2a := ((bcell bel2).1 b _ hbr).trans x2
        have x3a := ((bcell bel2).1 b _ hbr).trans x3
        have x4a := ((bcell bel2).1 b _ hbr).trans x4
        have x5a := ((bcell bel2).1 b _ hbr).trans x5
        have x6a := ((bcell bel2).1 b _ hbr).trans x6
        try go_wp2_with fail
        refine hK.out _ _ ?_ (fun hHeld7 => ?_)
        · intro _
          (try dsimp only)
          exact ⟨p6a, bxa, x0a, x1a, x2a, x3a, x4a, x5a, x6a⟩
        clear hK
        replace hHeld7 := hHeld7 (by decide)
        try simp only [List.setIfInBounds_toArray, List.set_cons_zero, List.set_cons_succ]
        refine oneE (i := 8) (by kernel_rfl) rfl (fun K hK => ?_)
        go_simp
        refine hK.out _ _ ?_ (fun hHeld8 => ?_)
        · intro _
          (try dsimp only)
          exact ⟨(cell_blk (Below.heap_alloc w2 _ _ (by omega))).trans p6a, (cell_blk (Below.heap_alloc w2 _ _ (by omega))).trans bxa, (cell_blk (Below.heap_alloc w2 _ _ (by omega))).trans x0a, (cell_blk (Below.heap_alloc w2 _ _ (by omega))).trans x1a, (cell_blk (Below.heap_alloc w2 _ _ (by omega))).trans x2a, (cell_blk (Below.heap_alloc w2 _ _ (by omega))).trans x3a, (cell_blk (Below.heap_alloc w2 _ _ (by omega))).trans x4a, (cell_blk (Below.heap_alloc w2 _ _ (by omega))).trans x5a, (cell_blk (Below.heap_alloc w2 _ _ (by omega))).trans x6a⟩
        clear hK
        replace hHeld8 := hHeld8 (by decide)
        try simp only [List.setIfInBounds_toArray, List.set_cons_zero, List.set_cons_succ]
        refine oneE (i := 9) (by kernel_rfl) rfl (fun K hK => ?_)
        refine step_append_lies _ (by rfl) _ _ _ (by rfl) (w.heap.size + 1 + 1 + 1) 32 i0 _ 7 88 Try.underlying28 hi hz0 hz1 hz2 rfl (by omega) y ct.length (ec us ct) (by rfl) (hB2.own.alloc _) ⟨w2.heap.size, 0, none⟩ 1 1 (c7 (.slice a2 x.ks.length n2) x) (by rfl) (by rfl) (World.news_of_block (cs := #[.int .i64 x.k, .int .i64 x.n, .int .i64 x.v.k, .int .i64 x.v.n, .string x.v.s, .string x.p, .slice a2 x.ks.length n2]) (t := 32) (fr := (0, 0)) (heap_alloc_new w2 _)) (by simp [c7, Value.oneCell']) (by omega) hml hby (by simp; omega) (w2.heap.size + 1) (by simp) ?_
        intro gg cap w3 hown3 hgrow hat hlt3
        have hz3 := hgrow.size
        simp at hz3
        have far : ∀ b q, b < w2.heap.size → y.ownBlock ≠ some b → w3.cell? ⟨b, q, none⟩ = w2.cell? ⟨b, q, none⟩ := fun b q hb hne => (hgrow.cell_far _ (by simp; omega) (Ne.symm hne)).trans (cell_blk (Below.heap_alloc _ _ _ hb))
        have farf : ∀ b q, b < w2.heap.size → y.ownBlock ≠ some b → w3.frozen? ⟨b, q, none⟩ = w2.frozen? ⟨b, q, none⟩ := fun b q hb hne => (hgrow.frozen_far _ (by simp; omega) (Ne.symm hne)).trans (frozen_blk (Below.heap_alloc _ _ _ hb))
        have pf3 : ∀ q, w3.frozen? ⟨w.heap.size + 1 + 1, q, none⟩ = false := fun q => (farf _ q (by omega) hv2).trans (pf2 q)
        have rf3 : ∀ q, w3.frozen? ⟨w.heap.size + 1, q, none⟩ = false := fun q => (farf _ q (by omega) hvr).trans (rf2 q)
        have p0b := (far (w.heap.size + 1 + 1) 0 (by omega) hv2).trans p0a
        have p1b := (far (w.heap.size + 1 + 1) 1 (by omega) hv2).trans p1a
        have p2b := (far (w.heap.size + 1 + 1) 2 (by omega) hv2).trans p2a
        have p3b := (far (w.heap.size + 1 + 1) 3 (by omega) hv2).trans p3a
        have p4b := (far (w.heap.size + 1 + 1) 4 (by omega) hv2).trans p4a
        have p5b := (far (w.heap.size + 1 + 1) 5 (by omega) hv2).trans p5a
        have p6b := (far (w.heap.size + 1 + 1) 6 (by omega) hv2).trans p6a
        have r0b := (far (w.heap.size + 1) 0 (by omega) hvr).trans r0a
        have r1b := (far (w.heap.size + 1) 1 (by omega) hvr).trans r1a
        have r2b := (far (w.heap.size + 1) 2 (by omega) hvr).trans r2a
        have r3b := (far (w.heap.size + 1) 3 (by omega) hvr).trans r3a
        have r4b := (far (w.heap.size + 1) 4 (by omega) hvr).trans r4a
        have r5b := (far (w.heap.size + 1) 5 (by omega) hvr).trans r5a
        have r6b := (far (w.heap.size + 1) 6 (by omega) hvr).trans r6a
        have bxb := (far (w.heap.size) 6 (by omega) hvb).trans bxa
        have x0b := (far b _ (by omega) hvx).trans x0a
        have x1b := (far b _ (by omega) hvx).trans x1a
        have x2b := (far b _ (by omega) hvx).trans x2a
        have x3b := (far b _ (by omega) hvx).trans x3a
        have x4b := (far b _ (by omega) hvx).trans x4a
        have x5b := (far b _ (by omega) hvx).trans x5a
        have x6b := (far b _ (by omega) hvx).trans x6a
        have hBp := ExpOwn.push (hB2.below ((Below.refl _ _).alloc (Nat.le_refl _) (.cells #[.int .i64 x.k, .int .i64 x.n, .int .i64 x.v.k, .int .i64 x.v.n, .string x.v.s, .string x.p, .slice a2 x.ks.length n2] 32))) hxw (hK2.below ((Below.refl _ _).alloc (Nat.le_refl _) _)) ⟨hO2.1, fun b hb => ⟨by have := (hO2.2 b hb).1; omega, fun q => (frozen_blk (Below.heap_alloc _ _ _ (hK2.lt b hb))).trans ((hO2.2 b hb).2 q)⟩⟩ (fun b hb hb' => by have := (hO2.2 b hb').1; have := hGl b hb; omega) (fun b hb hb' => by have := (hO2.2 b hb').1; have := (ownsE_lt hB.own b hb).2; omega) hown3 hgrow (fun b hb => by simp [Value.ownBlock] at hb; subst hb; rcases hat with h | h; exact .inl h; exact .inr (by simp; omega))
        have bel3 : Below w.heap.size w w3 := Below.grown (by repeat (first | (with_reducible exact Below.refl _ _) | (with_reducible refine Below.drew ?_) | (with_reducible refine Below.alloc ?_ ?hh _; case hh => first | (simp; done) | (simp; omega) | omega) | (with_reducible refine Below.setCell ?_ ?hh _; case hh => first | (simp; done) | (simp; omega) | omega) | refine bstep (by assumption) (by first | (simp; done) | (simp; omega) | omega) ?_)) hgrow (by simp; omega) (fun b hb => by have := (ownsE_lt hB.own b hb).1; omega)
        refine hK.out _ _ ?_ (fun hHeld9 => ?_)
        · intro _
          (try dsimp only)
          exact ⟨p6b, bxb, x0b, x1b, x2b, x3b, x4b, x5b, x6b⟩
        clear hK
        replace hHeld9 := hHeld9 (by decide)
        try simp only [List.setIfInBounds_toArray, List.set_cons_zero, List.set_cons_succ]
        refine takeE (i := 10) (d := 25) (v := ?_) rfl rfl (by kernel_rfl) (by kernel_rfl) (by kernel_rfl) (by kernel_rfl) (fun _ _ _ h => h) (by rfl) (by assumption) ?_ ?_
        rotate_left
        · intro w' hSw; (try dsimp only at hSw); go_simp; try exact rfl
        try simp only [List.setIfInBounds_toArray, List.set_cons_zero, List.set_cons_succ]
        refine oneE (i := 11) (by kernel_rfl) rfl (fun K hK => ?_)
        go_simp
        refine hK.out _ _ ?_ (fun hHeld11 => ?_)
        · exact fun h => absurd rfl h
        clear hK hHeld11
        try simp only [List.setIfInBounds_toArray, List.set_cons_zero, List.set_cons_succ]
        refine doneE (by kernel_rfl) ?_ _
        have P0 : (w3.setCell ⟨w.heap.size + 1 + 1, 6, none⟩ (.slice (some ⟨gg, 0, none⟩) (ct.length + 1) cap)).cell? ⟨w.heap.size + 1 + 1, 0, none⟩ = some (.int .i64 e.k) := (World.cell?_setCell_other _ _ _ _ (by simp)).trans p0b
        have P1 : (w3.setCell ⟨w.heap.size + 1 + 1, 6, none⟩ (.slice (some ⟨gg, 0, none⟩) (ct.length + 1) cap)).cell? ⟨w.heap.size + 1 + 1, 1, none⟩ = some (.int .i64 e.n) := (World.cell?_setCell_other _ _ _ _ (by simp)).trans p1b
        have P2 : (w3.setCell ⟨w.heap.size + 1 + 1, 6, none⟩ (.slice (some ⟨gg, 0, none⟩) (ct.length + 1) cap)).cell? ⟨w.heap.size + 1 + 1, 2, none⟩ = some (.int .i64 e.v.k) := (World.cell?_setCell_other _ _ _ _ (by simp)).trans p2b
        have P3 : (w3.setCell ⟨w.heap.size + 1 + 1, 6, none⟩ (.slice (some ⟨gg, 0, none⟩) (ct.length + 1) cap)).cell? ⟨w.heap.size + 1 + 1, 3, none⟩ = some (.int .i64 e.v.n) := (World.cell?_setCell_other _ _ _ _ (by simp)).trans p3b
        have P4 : (w3.setCell ⟨w.heap.size + 1 + 1, 6, none⟩ (.slice (some ⟨gg, 0, none⟩) (ct.length + 1) cap)).cell? ⟨w.heap.size + 1 + 1, 4, none⟩ = some (.string e.v.s) := (World.cell?_setCell_other _ _ _ _ (by simp)).trans p4b
        have P5 : (w3.setCell ⟨w.heap.size + 1 + 1, 6, none⟩ (.slice (some ⟨gg, 0, none⟩) (ct.length + 1) cap)).cell? ⟨w.heap.size + 1 + 1, 5, none⟩ = some (.string e.p) := (World.cell?_setCell_other _ _ _ _ (by simp)).trans p5b
        have P6 : (w3.setCell ⟨w.heap.size + 1 + 1, 6, none⟩ (.slice (some ⟨gg, 0, none⟩) (ct.length + 1) cap)).cell? ⟨w.heap.size + 1 + 1, 6, none⟩ = some (.slice (some ⟨gg, 0, none⟩) (ct.length + 1) cap) := World.cell?_setCell_same _ _ _ p6b
        have PF : ∀ q, (w3.setCell ⟨w.heap.size + 1 + 1, 6, none⟩ (.slice (some ⟨gg, 0, none⟩) (ct.length + 1) cap)).frozen? ⟨w.heap.size + 1 + 1, q, none⟩ = false := fun q => by simpa using pf3 q
        have R0 : (w3.setCell ⟨w.heap.size + 1 + 1, 6, none⟩ (.slice (some ⟨gg, 0, none⟩) (ct.length + 1) cap)).cell? ⟨w.heap.size + 1, 0, none⟩ = some (.int .i64 0) := (World.cell?_setCell_other _ _ _ _ (by simp)).trans r0b
        have R1 : (w3.setCell ⟨w.heap.size + 1 + 1, 6, none⟩ (.slice (some ⟨gg, 0, none⟩) (ct.length + 1) cap)).cell? ⟨w.heap.size + 1, 1, none⟩ = some (.int .i64 0) := (World.cell?_setCell_other _ _ _ _ (by simp)).trans r1b
        have R2 : (w3.setCell ⟨w.heap.size + 1 + 1, 6, none⟩ (.slice (some ⟨gg, 0, none⟩) (ct.length + 1) cap)).cell? ⟨w.heap.size + 1, 2, none⟩ = some (.int .i64 0) := (World.cell?_setCell_other _ _ _ _ (by simp)).trans r2b
        have R3 : (w3.setCell ⟨w.heap.size + 1 + 1, 6, none⟩ (.slice (some ⟨gg, 0, none⟩) (ct.length + 1) cap)).cell? ⟨w.heap.size + 1, 3, none⟩ = some (.int .i64 0) := (World.cell?_setCell_other _ _ _ _ (by simp)).trans r3b
        have R4 : (w3.setCell ⟨w.heap.size + 1 + 1, 6, none⟩ (.slice (some ⟨gg, 0, none⟩) (ct.length + 1) cap)).cell? ⟨w.heap.size + 1, 4, none⟩ = some (.string ⟨#[]⟩) := (World.cell?_setCell_other _ _ _ _ (by simp)).trans r4b
        have R5 : (w3.setCell ⟨w.heap.size + 1 + 1, 6, none⟩ (.slice (some ⟨gg, 0, none⟩) (ct.length + 1) cap)).cell? ⟨w.heap.size + 1, 5, none⟩ = some (.string ⟨#[]⟩) := (World.cell?_setCell_other _ _ _ _ (by simp)).trans r5b
        have R6 : (w3.setCell ⟨w.heap.size + 1 + 1, 6, none⟩ (.slice (some ⟨gg, 0, none⟩) (ct.length + 1) cap)).cell? ⟨w.heap.size + 1, 6, none⟩ = some (.slice none 0 0) := (World.cell?_setCell_other _ _ _ _ (by simp)).trans r6b
        have RF : ∀ q, (w3.setCell ⟨w.heap.size + 1 + 1, 6, none⟩ (.slice (some ⟨gg, 0, none⟩) (ct.length + 1) cap)).frozen? ⟨w.heap.size + 1, q, none⟩ = false := fun q => by simpa using rf3 q
        have BX : (w3.setCell ⟨w.heap.size + 1 + 1, 6, none⟩ (.slice (some ⟨gg, 0, none⟩) (ct.length + 1) cap)).cell? ⟨w.heap.size, 6, none⟩ = some (.slice (some ⟨b, o, none⟩) e.ks.length c) := (World.cell?_setCell_other _ _ _ _ (by simp)).trans bxb
        have hBs := hBp.keep (w' := (w3.setCell ⟨w.heap.size + 1 + 1, 6, none⟩ (.slice (some ⟨gg, 0, none⟩) (ct.length + 1) cap))) (by simp) (fun b hb _ => Below.heap_setCell _ _ _ _ (by simp; omega))
        rw [← HT.out] at hBs
        have belS : Below w.heap.size w (w3.setCell ⟨w.heap.size + 1 + 1, 6, none⟩ (.slice (some ⟨gg, 0, none⟩) (ct.length + 1) cap)) := bel3.setCell (by simp; omega) _
        have hzS : w.heap.size + 1 + 1 + 1 ≤ (w3.setCell ⟨w.heap.size + 1 + 1, 6, none⟩ (.slice (some ⟨gg, 0, none⟩) (ct.length + 1) cap)).heap.size := by simp; omega
        clear hown3 hgrow hat far farf hBp hB2 hK2 hO2 hb2 hB hHeld hHeld7 hHeld8 hHeld9 pf3 rf3 pf2 rf2 pf rf bxa bxb bx p0a p0b p0 r0a r0b r0 x0a x0b x0 p1a p1b p1 r1a r1b r1 x1a x1b x1 p2a p2b p2 r2a r2b r2 x2a x2b x2 p3a p3b p3 r3a r3b r3 x3a x3b x3 p4a p4b p4 r4a r4b r4 x4a x4b x4 p5a p5b p5 r5a r5b r5 x5a x5b x5 p6a p6b p6 r6a r6b r6 x6a x6b x6
        go_wp2
        exact ⟨⟨k + 1, _, _, _, hlt, by simp, P0, P1, P2, P3, P4, P5, P6, PF, R0, R1, R2, R3, R4, R5, R6, RF, BX, hBs, belS, hzS⟩, by simp [intOf]; omega⟩
      · obtain rfl : k = e.ks.length := by omega
        rw [List.take_length] at hB
        obtain ⟨F', hKF, hOF⟩ := hB.kids
        obtain ⟨ay, cy, rfl⟩ := hB.shape
        clear ha ih hB
        go_wp2_with fail
        refine bodyPost_ret (v := (.agg #[.int .i64 e.k, .int .i64 e.n, .int .i64 e.v.k, .int .i64 e.v.n, .string e.v.s, .string e.p, (.slice ay e.ks.length cy)])) (by simp [results, Try.results15, go_sem, *]) rfl ⟨⟨_, F', rfl, ?_, ?_⟩, ?_⟩
        · refine hKF.keep (by simp) fun b hb' => ?_
          have := (hOF.2 b hb').1
          repeat rw [Below.heap_setCell _ _ _ _ (by simp; omega)]
        · refine Own.keep (w := wr) ⟨hOF.1, fun b hb' => ⟨by have := (hOF.2 b hb').1; omega, (hOF.2 b hb').2⟩⟩ fun b hb' => ?_
          have := (hOF.2 b hb').1
          repeat rw [Below.heap_setCell _ _ _ _ (by simp; omega)]
        · repeat (first | (with_reducible exact hb) | (with_reducible refine Below.setCell ?_ ?hh _; case hh => (simp; try omega)))
end Go.Proofs.Ytjblljggmjbalaa
