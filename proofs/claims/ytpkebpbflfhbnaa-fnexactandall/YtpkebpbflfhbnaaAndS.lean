/- Own text. The contract of spec.AndAll. -/
import Derived.Test.YtpkebpbflfhbnaaAndP
import Derived.Test.YtpkebpbflfhbnaaCpE
import Derived.Test.YtpkebpbflfhbnaaExpOkS
import Derived.Test.YtpkebpbflfhbnaaLastE
import Derived.Handy
import Derived.Deep.DrawnRows
namespace Go.Proofs.Ytpkebpbflfhbnaa
open Go.RowKit Go.Deep
set_option linter.unusedVariables false
attribute [local go_sem ↓] Go.wp_at_zero Go.wp_at_succ
set_option maxHeartbeats 1000000 in
set_option maxRecDepth 100000 in
theorem l03Const_any (k n : Int) (s : ByteArray) (w : World) :
    Calls Try.prog 41 #[.agg #[.int .i64 k, .int .i64 n, .string s]] w fun e w' => e = .returned (.agg #[.int .i64 1, .int .i64 0, .int .i64 k, .int .i64 n, .string s, .string ⟨#[]⟩, .slice none 0 0]) ∧ Below w.heap.size w w' := by
  go_enter Try.func41, Try.ntmps41
  go_wp2
  go_returns
  exact ⟨rfl, by repeat (first | (with_reducible exact Below.refl _ _) | (with_reducible refine Below.drew ?_) | (with_reducible refine Below.alloc ?_ ?hh _; case hh => first | (simp; done) | (simp; omega) | omega) | (with_reducible refine Below.setCell ?_ ?hh _; case hh => first | (simp; done) | (simp; omega) | omega) | refine bstep (by assumption) (by first | (simp; done) | (simp; omega) | omega) ?_)⟩
set_option maxHeartbeats 2000000 in
set_option maxRecDepth 100000 in
theorem specAndAll_any (d : Nat) (v : Value) (es : List E7) (F : List Nat) (w : World) (hw : ∀ e ∈ es, e.wf) (hk : KidsIs w (d + 1) v es F) (hn : es.length + wtEs es ≤ 1048576) (r : E7) (hR : Hid (ansAnd es = r)) :
    Calls Try.prog 25 #[v] w fun x w' => (∃ D u F', x = .returned (.agg #[.int .i64 r.k, .int .i64 r.n, .int .i64 r.v.k, .int .i64 r.v.n, .string r.v.s, .string r.p, u]) ∧ KidsIs w' (D + 1) u r.ks F') ∧ Below w.heap.size w w' := by
  obtain ⟨a, c, b, o, G0, rfl, hl, hc, hG0, _, ha⟩ := hk.pick
  unfold maxLen at hc
  clear hk
  go_enter Try.func25, Try.ntmps25
  go_wp2
  go_loopw [4] (fun i wr => ∃ (k : Nat) (cu : E7) (ak : Option Addr) (lk ck : Nat) (Fk : List Nat), k ≤ es.length ∧ i = .int .i64 k ∧ Hid (cu = chainE (es.take k)) ∧ cu.wf ∧ wr.cell? ⟨w.heap.size + 1 + 1 + 1 + 1 + 1, 0, none⟩ = some (.int .i64 cu.k) ∧ wr.cell? ⟨w.heap.size + 1 + 1 + 1 + 1 + 1, 1, none⟩ = some (.int .i64 cu.n) ∧ wr.cell? ⟨w.heap.size + 1 + 1 + 1 + 1 + 1, 2, none⟩ = some (.int .i64 cu.v.k) ∧ wr.cell? ⟨w.heap.size + 1 + 1 + 1 + 1 + 1, 3, none⟩ = some (.int .i64 cu.v.n) ∧ wr.cell? ⟨w.heap.size + 1 + 1 + 1 + 1 + 1, 4, none⟩ = some (.string cu.v.s) ∧ wr.cell? ⟨w.heap.size + 1 + 1 + 1 + 1 + 1, 5, none⟩ = some (.string cu.p) ∧ wr.cell? ⟨w.heap.size + 1 + 1 + 1 + 1 + 1, 6, none⟩ = some (.slice ak lk ck) ∧ (∀ q, wr.frozen? ⟨w.heap.size + 1 + 1 + 1 + 1 + 1, q, none⟩ = false) ∧ wr.cell? ⟨w.heap.size, 0, none⟩ = some (.int .i64 0) ∧ wr.cell? ⟨w.heap.size, 1, none⟩ = some (.int .i64 0) ∧ wr.cell? ⟨w.heap.size, 2, none⟩ = some (.int .i64 0) ∧ wr.cell? ⟨w.heap.size, 3, none⟩ = some (.int .i64 0) ∧ wr.cell? ⟨w.heap.size, 4, none⟩ = some (.string ⟨#[]⟩) ∧ wr.cell? ⟨w.heap.size, 5, none⟩ = some (.string ⟨#[]⟩) ∧ wr.cell? ⟨w.heap.size, 6, none⟩ = some (.slice none 0 0) ∧ (∀ q, wr.frozen? ⟨w.heap.size, q, none⟩ = false) ∧ KidsIs wr (d + k + 1) (.slice ak lk ck) cu.ks Fk ∧ (∀ b ∈ Fk, b < w.heap.size ∨ w.heap.size + 1 + 1 + 1 + 1 + 1 < b) ∧ Below w.heap.size w wr ∧ w.heap.size + 1 + 1 + 1 + 1 + 1 < wr.heap.size) (fun i _ => es.length - (intOf i).toNat)
  case atStart =>
    refine ⟨0, conE ⟨2, 1, ⟨#[]⟩⟩, none, 0, 0, [], Nat.zero_le _, rfl, rfl, conE_wf ⟨wf_lit2, wf_lit1, Nat.zero_le _⟩, by show _ = some (Value.int .i64 1); go_simp, by show _ = some (Value.int .i64 0); go_simp, by show _ = some (Value.int .i64 2); go_simp, by show _ = some (Value.int .i64 1); go_simp, by show _ = some (Value.string ⟨#[]⟩); go_simp, by show _ = some (Value.string ⟨#[]⟩); go_simp, by show _ = some (Value.slice none 0 0); go_simp, fun q => by go_simp, by go_simp, by go_simp, by go_simp, by go_simp, by go_simp, by go_simp, by go_simp, fun q => by go_simp, nil_kids none 0 (Nat.zero_le _), (fun b hb => by cases hb), by repeat (first | (with_reducible exact Below.refl _ _) | (with_reducible refine Below.drew ?_) | (with_reducible refine Below.alloc ?_ ?hh _; case hh => first | (simp; done) | (simp; omega) | omega) | (with_reducible refine Below.setCell ?_ ?hh _; case hh => first | (simp; done) | (simp; omega) | omega) | refine bstep (by assumption) (by first | (simp; done) | (simp; omega) | omega) ?_), by first | (simp; done) | (simp; omega)⟩
  case round =>
    obtain ⟨k, cu, ak, lk, ck, Fk, hk, rfl, HC, hcw, p0, p1, p2, p3, p4, p5, p6, pf, r0, r1, r2, r3, r4, r5, r6, rf, hKk, hF, hb, hzb⟩ := hrel
    have hR1 : w.heap.size < wr.heap.size := by omega
    have hR2 : w.heap.size < wr.heap.size + 1 := by omega
    have hC2 : w.heap.size + 1 + 1 + 1 + 1 + 1 < wr.heap.size + 1 := by omega
    by_cases hlt : k < es.length
    · obtain ⟨rfl, hblt, _, hL⟩ := ha k hlt
      obtain ⟨x, g0, u0, hx, hg0, hxw, ⟨c0, c1, c2, c3, c4, c5⟩, c6, hKx, hbr⟩ := hL.at hG0 hblt hb hlt
      obtain ⟨a0, n0, rfl, _, _⟩ := hKx.shape
      have HX : Hid (es[k]? = some x) := hx
      have hxn : wtE x ≤ 1048576 := by have := wtE_mem (List.mem_of_getElem? hx); omega
      have hglt : ∀ b ∈ g0, b < w.heap.size := by
        obtain ⟨_, _, _, _, hK0⟩ := hL k x g0 hx hg0
        exact hK0.lt
      have hbC : b ≠ w.heap.size + 1 + 1 + 1 + 1 + 1 := by omega
      have hbR : b ≠ w.heap.size := by omega
      clear ha hL hx hg0
      by_cases hk0 : k = 0
      · subst hk0
        simp only [Nat.zero_mul, Nat.add_zero] at c0 c1 c2 c3 c4 c5 c6
        go_wp2_with fail
        refine Calls.mono (l03Copy_any d x (.slice a0 x.ks.length n0) g0 wr hKx hxn) ?_
        rintro y w2 ⟨⟨u2, g2, rfl, hK2, hO2⟩, hb2⟩
        obtain ⟨a2, n2, rfl, _, _⟩ := hK2.shape
        replace hO2 : Own w2 wr.heap.size g2 := by first | exact hO2 | simpa using hO2
        have hzw2 := hb2.size
        (try simp at hzw2)
        have bel2 : Below wr.heap.size wr w2 := by repeat (first | (with_reducible exact Below.refl _ _) | (with_reducible refine Below.drew ?_) | (with_reducible refine Below.alloc ?_ ?hh _; case hh => first | (simp; done) | (simp; omega) | omega) | (with_reducible refine Below.setCell ?_ ?hh _; case hh => first | (simp; done) | (simp; omega) | omega) | refine bstep (by assumption) (by first | (simp; done) | (simp; omega) | omega) ?_)
        have hbw2 : Below w.heap.size w w2 := hb.trans (bel2.mono hb.size)
        have hC3 : w.heap.size + 1 + 1 + 1 + 1 + 1 < w2.heap.size := by omega
        have hR3 : w.heap.size < w2.heap.size := by omega
        have hK3 := hKk.below bel2
        have pf2 : ∀ q, w2.frozen? ⟨w.heap.size + 1 + 1 + 1 + 1 + 1, q, none⟩ = false := fun q => ((bcell bel2).2 _ q hzb).trans (pf q)
        have rf2 : ∀ q, w2.frozen? ⟨w.heap.size, q, none⟩ = false := fun q => ((bcell bel2).2 _ q hR1).trans (rf q)
        have p0a := ((bcell bel2).1 _ _ hzb).trans p0
        have p1a := ((bcell bel2).1 _ _ hzb).trans p1
        have p2a := ((bcell bel2).1 _ _ hzb).trans p2
        have p3a := ((bcell bel2).1 _ _ hzb).trans p3
        have p4a := ((bcell bel2).1 _ _ hzb).trans p4
        have p5a := ((bcell bel2).1 _ _ hzb).trans p5
        have p6a := ((bcell bel2).1 _ _ hzb).trans p6
        have r0a := ((bcell bel2).1 _ _ hR1).trans r0
        have r1a := ((bcell bel2).1 _ _ hR1).trans r1
        have r2a := ((bcell bel2).1 _ _ hR1).trans r2
        have r3a := ((bcell bel2).1 _ _ hR1).trans r3
        have r4a := ((bcell bel2).1 _ _ hR1).trans r4
        have r5a := ((bcell bel2).1 _ _ hR1).trans r5
        have r6a := ((bcell bel2).1 _ _ hR1).trans r6
        clear hb2 hKk p0 r0 c0 p1 r1 c1 p2 r2 c2 p3 r3 c3 p4 r4 c4 p5 r5 c5 p6 r6 c6 pf rf
        go_wp2
        refine ⟨⟨1, x, a2, x.ks.length, n2, g2, by omega, by simp, ?_, hxw, by go_simp, by go_simp, by go_simp, by go_simp, by go_simp, by go_simp, by go_simp, fun q => by go_simp, by go_simp, by go_simp, by go_simp, by go_simp, by go_simp, by go_simp, by go_simp, fun q => by go_simp, ?_, fun b hb => .inr (by have := (hO2.2 b hb).1; omega), ?_, by simp; omega⟩, by simp [intOf]; omega⟩
        · show x = chainE (es.take (0 + 1))
          rw [take_snoc' HX.out]; rfl
        · exact (hK2.up (by omega)).set7 (fun b hb => by have := (hO2.2 b hb).1; omega) _ _ _ _ _ _ _
        · exact set7_below hbw2 (by omega) _ _ _ _ _ _ _
      · have hke : decide ((k : Int) = 0) = false := by simp; omega
        have hkb : ((k : Int) == 0) = false := by simp; omega
        go_wp2_with fail
        refine startE 8 (fun w' => w'.cell? ⟨w.heap.size + 1 + 1 + 1 + 1 + 1, 0, none⟩ = some (.int .i64 cu.k) ∧ w'.cell? ⟨w.heap.size + 1 + 1 + 1 + 1 + 1, 1, none⟩ = some (.int .i64 cu.n) ∧ w'.cell? ⟨w.heap.size + 1 + 1 + 1 + 1 + 1, 2, none⟩ = some (.int .i64 cu.v.k) ∧ w'.cell? ⟨w.heap.size + 1 + 1 + 1 + 1 + 1, 3, none⟩ = some (.int .i64 cu.v.n) ∧ w'.cell? ⟨w.heap.size + 1 + 1 + 1 + 1 + 1, 4, none⟩ = some (.string cu.v.s) ∧ w'.cell? ⟨w.heap.size + 1 + 1 + 1 + 1 + 1, 5, none⟩ = some (.string cu.p) ∧ w'.cell? ⟨w.heap.size + 1 + 1 + 1 + 1 + 1, 6, none⟩ = some (.slice ak lk ck) ∧ w'.cell? ⟨b, o + k * 7, none⟩ = some (.int .i64 x.k) ∧ w'.cell? ⟨b, o + k * 7 + 1, none⟩ = some (.int .i64 x.n) ∧ w'.cell? ⟨b, o + k * 7 + 2, none⟩ = some (.int .i64 x.v.k) ∧ w'.cell? ⟨b, o + k * 7 + 3, none⟩ = some (.int .i64 x.v.n) ∧ w'.cell? ⟨b, o + k * 7 + 4, none⟩ = some (.string x.v.s) ∧ w'.cell? ⟨b, o + k * 7 + 5, none⟩ = some (.string x.p) ∧ w'.cell? ⟨b, o + k * 7 + 6, none⟩ = some (.slice a0 x.ks.length n0)) (by kernel_rfl) ?_ (fun hHeld => ?_)
        · (try dsimp only)
          exact ⟨p0, p1, p2, p3, p4, p5, p6, c0, c1, c2, c3, c4, c5, c6⟩
        refine takeE (i := 0) (d := 19) (v := ?_) rfl rfl (by kernel_rfl) (by kernel_rfl) (by kernel_rfl) (by kernel_rfl) (fun _ _ _ h => h) (by rfl) (by assumption) ?_ ?_
        rotate_left
        · intro w' hSw; (try dsimp only at hSw); go_simp; try exact rfl
        try simp only [List.setIfInBounds_toArray, List.set_cons_zero, List.set_cons_succ]
        refine takeE (i := 1) (d := 20) (v := ?_) rfl rfl (by kernel_rfl) (by kernel_rfl) (by kernel_rfl) (by kernel_rfl) (fun _ _ _ h => h) (by rfl) (by assumption) ?_ ?_
        rotate_left
        · intro w' hSw; (try dsimp only at hSw); go_simp; try exact rfl
        try simp only [List.setIfInBounds_toArray, List.set_cons_zero, List.set_cons_succ]
        refine takeE (i := 2) (d := 21) (v := ?_) rfl rfl (by kernel_rfl) (by kernel_rfl) (by kernel_rfl) (by kernel_rfl) (fun _ _ _ h => h) (by rfl) (by assumption) ?_ ?_
        rotate_left
        · intro w' hSw; (try dsimp only at hSw); go_simp; try exact rfl
        try simp only [List.setIfInBounds_toArray, List.set_cons_zero, List.set_cons_succ]
        refine takeE (i := 3) (d := 22) (v := ?_) rfl rfl (by kernel_rfl) (by kernel_rfl) (by kernel_rfl) (by kernel_rfl) (fun _ _ _ h => h) (by rfl) (by assumption) ?_ ?_
        rotate_left
        · intro w' hSw; (try dsimp only at hSw); go_simp; try exact rfl
        try simp only [List.setIfInBounds_toArray, List.set_cons_zero, List.set_cons_succ]
        refine takeE (i := 4) (d := 23) (v := ?_) rfl rfl (by kernel_rfl) (by kernel_rfl) (by kernel_rfl) (by kernel_rfl) (fun _ _ _ h => h) (by rfl) (by assumption) ?_ ?_
        rotate_left
        · intro w' hSw; (try dsimp only at hSw); go_simp; try exact rfl
        try simp only [List.setIfInBounds_toArray, List.set_cons_zero, List.set_cons_succ]
        refine oneE (i := 5) (by kernel_rfl) rfl (fun K hK => ?_)
        go_simp
        go_at_call 36
        refine Calls.mono (l03Copy_any d x (.slice a0 x.ks.length n0) g0 _ (hKx.below ?hbb) hxn) ?_
        case hbb => repeat (first | (with_reducible exact Below.refl _ _) | (with_reducible refine Below.drew ?_) | (with_reducible refine Below.alloc ?_ ?hh _; case hh => first | (simp; done) | (simp; omega) | omega) | (with_reducible refine Below.setCell ?_ ?hh _; case hh => first | (simp; done) | (simp; omega) | omega) | refine bstep (by assumption) (by first | (simp; done) | (simp; omega) | omega) ?_)
        rintro y w2 ⟨⟨u2, g2, rfl, hK2, hO2⟩, hb2⟩
        obtain ⟨a2, n2, rfl, _, _⟩ := hK2.shape
        replace hO2 : Own w2 wr.heap.size g2 := by first | exact hO2 | simpa using hO2
        have hzw2 := hb2.size
        (try simp at hzw2)
        have bel2 : Below wr.heap.size wr w2 := by repeat (first | (with_reducible exact Below.refl _ _) | (with_reducible refine Below.drew ?_) | (with_reducible refine Below.alloc ?_ ?hh _; case hh => first | (simp; done) | (simp; omega) | omega) | (with_reducible refine Below.setCell ?_ ?hh _; case hh => first | (simp; done) | (simp; omega) | omega) | refine bstep (by assumption) (by first | (simp; done) | (simp; omega) | omega) ?_)
        have hbw2 : Below w.heap.size w w2 := hb.trans (bel2.mono hb.size)
        have hC3 : w.heap.size + 1 + 1 + 1 + 1 + 1 < w2.heap.size := by omega
        have hR3 : w.heap.size < w2.heap.size := by omega
        have hK3 := hKk.below bel2
        have pf2 : ∀ q, w2.frozen? ⟨w.heap.size + 1 + 1 + 1 + 1 + 1, q, none⟩ = false := fun q => ((bcell bel2).2 _ q hzb).trans (pf q)
        have rf2 : ∀ q, w2.frozen? ⟨w.heap.size, q, none⟩ = false := fun q => ((bcell bel2).2 _ q hR1).trans (rf q)
        have p0a := ((bcell bel2).1 _ _ hzb).trans p0
        have p1a := ((bcell bel2).1 _ _ hzb).trans p1
        have p2a := ((bcell bel2).1 _ _ hzb).trans p2
        have p3a := ((bcell bel2).1 _ _ hzb).trans p3
        have p4a := ((bcell bel2).1 _ _ hzb).trans p4
        have p5a := ((bcell bel2).1 _ _ hzb).trans p5
        have p6a := ((bcell bel2).1 _ _ hzb).trans p6
        have r0a := ((bcell bel2).1 _ _ hR1).trans r0
        have r1a := ((bcell bel2).1 _ _ hR1).trans r1
        have r2a := ((bcell bel2).1 _ _ hR1).trans r2
        have r3a := ((bcell bel2).1 _ _ hR1).trans r3
        have r4a := ((bcell bel2).1 _ _ hR1).trans r4
        have r5a := ((bcell bel2).1 _ _ hR1).trans r5
        have r6a := ((bcell bel2).1 _ _ hR1).trans r6
        have c0a := ((bcell bel2).1 b _ hbr).trans c0
        have c1a := ((bcell bel2).1 b _ hbr).trans c1
        have c2a := ((bcell bel2).1 b _ hbr).trans c2
        have c3a := ((bcell bel2).1 b _ hbr).trans c3
        have c4a := ((bcell bel2).1 b _ hbr).trans c4
        have c5a := ((bcell bel2).1 b _ hbr).trans c5
        have c6a := ((bcell bel2).1 b _ hbr).trans c6
        try go_wp2_with fail
        refine hK.out _ _ ?_ (fun hHeld5 => ?_)
        · intro _
          (try dsimp only)
          exact ⟨p0a, p1a, p2a, p3a, p4a, p5a, p6a, c0a, c1a, c2a, c3a, c4a, c5a, c6a⟩
        clear hK
        replace hHeld5 := hHeld5 (by decide)
        try simp only [List.setIfInBounds_toArray, List.set_cons_zero, List.set_cons_succ]
        refine oneE (i := 6) (by kernel_rfl) rfl (fun K hK => ?_)
        go_simp
        refine hK.out _ _ ?_ (fun hHeld6 => ?_)
        · intro _
          (try dsimp only)
          exact ⟨(cell_blk (Below.heap_alloc w2 _ _ (by omega))).trans p0a, (cell_blk (Below.heap_alloc w2 _ _ (by omega))).trans p1a, (cell_blk (Below.heap_alloc w2 _ _ (by omega))).trans p2a, (cell_blk (Below.heap_alloc w2 _ _ (by omega))).trans p3a, (cell_blk (Below.heap_alloc w2 _ _ (by omega))).trans p4a, (cell_blk (Below.heap_alloc w2 _ _ (by omega))).trans p5a, (cell_blk (Below.heap_alloc w2 _ _ (by omega))).trans p6a, (cell_blk (Below.heap_alloc w2 _ _ (by omega))).trans c0a, (cell_blk (Below.heap_alloc w2 _ _ (by omega))).trans c1a, (cell_blk (Below.heap_alloc w2 _ _ (by omega))).trans c2a, (cell_blk (Below.heap_alloc w2 _ _ (by omega))).trans c3a, (cell_blk (Below.heap_alloc w2 _ _ (by omega))).trans c4a, (cell_blk (Below.heap_alloc w2 _ _ (by omega))).trans c5a, (cell_blk (Below.heap_alloc w2 _ _ (by omega))).trans c6a⟩
        clear hK
        replace hHeld6 := hHeld6 (by decide)
        try simp only [List.setIfInBounds_toArray, List.set_cons_zero, List.set_cons_succ]
        refine takeE (i := 7) (d := 26) (v := ?_) rfl rfl (by kernel_rfl) (by kernel_rfl) (by kernel_rfl) (by kernel_rfl) (fun _ _ _ h => h) (by rfl) (by assumption) ?_ ?_
        rotate_left
        · intro w' hSw; (try dsimp only at hSw); go_simp; try exact rfl
        try simp only [List.setIfInBounds_toArray, List.set_cons_zero, List.set_cons_succ]
        refine oneE (i := 8) (by kernel_rfl) rfl (fun K hK => ?_)
        go_simp
        refine hK.out _ _ ?_ (fun hHeld8 => ?_)
        · exact fun h => absurd rfl h
        clear hK hHeld8
        try simp only [List.setIfInBounds_toArray, List.set_cons_zero, List.set_cons_succ]
        refine doneE (by kernel_rfl) ?_ _
        clear hb2 hKk hHeld hHeld5 hHeld6 p0 r0 c0 p1 r1 c1 p2 r2 c2 p3 r3 c3 p4 r4 c4 p5 r5 c5 p6 r6 c6 pf rf
        go_wp2
        refine ⟨⟨k + 1, andE cu x, some ⟨w2.heap.size, 0, none⟩, 2, 2, w2.heap.size :: (Fk ++ g2), hlt, by simp, ?_, andE_wf _ _, by show _ = some (Value.int .i64 2); go_simp, by show _ = some (Value.int .i64 0); go_simp, by show _ = some (Value.int .i64 0); go_simp, by show _ = some (Value.int .i64 0); go_simp, by show _ = some (Value.string ⟨#[]⟩); go_simp, by show _ = some (Value.string ⟨#[97, 110, 100]⟩); go_simp, by show _ = some (Value.slice (some ⟨w2.heap.size, 0, none⟩) 2 2); go_simp, fun q => by go_simp, by go_simp, by go_simp, by go_simp, by go_simp, by go_simp, by go_simp, by go_simp, fun q => by go_simp, ?_, ?_, ?_, by simp; omega⟩, by simp [intOf]; omega⟩
        · show andE cu x = chainE (es.take (k + 1))
          rw [take_snoc' HX.out, chain_snoc (by intro h; have := congrArg List.length h; rw [List.length_take, List.length_nil] at this; omega), HC.out]
        · have hP := pair_kids (w := set7 w2 (w.heap.size + 1 + 1 + 1 + 1 + 1) (.int .i64 2) (.int .i64 0) (.int .i64 0) (.int .i64 0) (.string ⟨#[]⟩) (.string ⟨#[97, 110, 100]⟩) (.slice (some ⟨w2.heap.size, 0, none⟩) 2 2)) (D := d + k + 1) (hK3.set7 (fun b hb => by rcases hF b hb with h | h <;> omega) _ _ _ _ _ _ _) ((hK2.up (by omega)).set7 (fun b hb => by have := (hO2.2 b hb).1; omega) _ _ _ _ _ _ _) hcw hxw
          simp only [set7_size] at hP
          exact hP.up (by omega)
        · intro b hb
          rcases List.mem_cons.1 hb with rfl | hb
          · right; omega
          · rcases List.mem_append.1 hb with hb | hb
            · exact hF b hb
            · right; have := (hO2.2 b hb).1; omega
        · exact (set7_below hbw2 (by omega) _ _ _ _ _ _ _).alloc (by simp; omega) _
    · obtain rfl : k = es.length := by omega
      have HC2 : Hid (cu = chainE es) := by have := HC.out; rw [List.take_length] at this; exact this
      clear HC ha
      have hA : okE 13 cu = true → cu = r := fun h => by
        have h1 := hR.out
        unfold ansAnd at h1
        rw [← HC2.out, if_pos h] at h1
        exact h1
      have hB : okE 13 cu = false → r = conE noV := fun h => by
        have h1 := hR.out
        unfold ansAnd at h1
        rw [← HC2.out, if_neg (by rw [h]; simp)] at h1
        exact h1.symm
      clear hn hR HC2
      obtain ⟨ak, ck, hsh, _, _⟩ := hKk.shape
      injection hsh with e1 e2 e3
      subst e1 e2 e3
      go_wp2_with fail
      refine Calls.mono (specExpOk_any cu (.slice ak cu.ks.length ck) Fk _ wr hcw hKk) ?_
      rintro y w2 ⟨rfl, hb2⟩
      have hz2 := hb2.size
      have hK2 := hKk.below hb2
      have hbw2 : Below w.heap.size w w2 := hb.trans (hb2.mono hb.size)
      have hD1 : w.heap.size < w2.heap.size := by omega
      have hD2 : w.heap.size + 1 + 1 + 1 + 1 + 1 < w2.heap.size := by omega
      have hne : ∀ b ∈ Fk, b ≠ w.heap.size := fun b hb => by rcases hF b hb with h | h <;> omega
      have q0 := ((bcell hb2).1 _ _ hR1).trans r0
      have q1 := ((bcell hb2).1 _ _ hR1).trans r1
      have q2 := ((bcell hb2).1 _ _ hR1).trans r2
      have q3 := ((bcell hb2).1 _ _ hR1).trans r3
      have q4 := ((bcell hb2).1 _ _ hR1).trans r4
      have q5 := ((bcell hb2).1 _ _ hR1).trans r5
      have q6 := ((bcell hb2).1 _ _ hR1).trans r6
      have t0 := ((bcell hb2).1 _ _ hzb).trans p0
      have t1 := ((bcell hb2).1 _ _ hzb).trans p1
      have t2 := ((bcell hb2).1 _ _ hzb).trans p2
      have t3 := ((bcell hb2).1 _ _ hzb).trans p3
      have t4 := ((bcell hb2).1 _ _ hzb).trans p4
      have t5 := ((bcell hb2).1 _ _ hzb).trans p5
      have t6 := ((bcell hb2).1 _ _ hzb).trans p6
      have qf : ∀ q, w2.frozen? ⟨w.heap.size, q, none⟩ = false := fun q => ((bcell hb2).2 _ q hR1).trans (rf q)
      clear hb2 hKk hb p0 r0 p1 r1 p2 r2 p3 r3 p4 r4 p5 r5 p6 r6 pf rf
      cases hk5 : okE 13 cu with
      | false =>
        obtain rfl := hB hk5
        clear hA hB hk5
        go_wp2_with fail
        refine Calls.mono (l03Const_any 0 0 ⟨#[]⟩ w2) ?_
        rintro y w3 ⟨rfl, hb3⟩
        have hz3 := hb3.size
        have hbw3 : Below w.heap.size w w3 := hbw2.trans (hb3.mono hbw2.size)
        have hD3 : w.heap.size < w3.heap.size := by omega
        have s0 := ((bcell hb3).1 _ _ hD1).trans q0
        have s1 := ((bcell hb3).1 _ _ hD1).trans q1
        have s2 := ((bcell hb3).1 _ _ hD1).trans q2
        have s3 := ((bcell hb3).1 _ _ hD1).trans q3
        have s4 := ((bcell hb3).1 _ _ hD1).trans q4
        have s5 := ((bcell hb3).1 _ _ hD1).trans q5
        have s6 := ((bcell hb3).1 _ _ hD1).trans q6
        have sf : ∀ q, w3.frozen? ⟨w.heap.size, q, none⟩ = false := fun q => ((bcell hb3).2 _ q hD1).trans (qf q)
        clear hb3 hK2 q0 q1 q2 q3 q4 q5 q6 qf
        go_wp2
        refine bodyPost_ret (v := .agg #[.int .i64 1, .int .i64 0, .int .i64 0, .int .i64 0, .string ⟨#[]⟩, .string ⟨#[]⟩, .slice none 0 0]) (by simp [results, Try.results25, go_sem, *]) rfl ⟨⟨0, .slice none 0 0, [], rfl, nil_kids none 0 (Nat.zero_le _)⟩, ?_⟩
        repeat (first | (with_reducible exact hbw3) | (with_reducible refine Below.setCell ?_ ?hh _; case hh => (simp; try omega)))
      | true =>
        obtain rfl := hA hk5
        clear hA hB hk5
        go_wp2
        refine bodyPost_ret (v := .agg #[.int .i64 cu.k, .int .i64 cu.n, .int .i64 cu.v.k, .int .i64 cu.v.n, .string cu.v.s, .string cu.p, .slice ak cu.ks.length ck]) (by simp [results, Try.results25, go_sem, *]) rfl ⟨⟨_, _, Fk, rfl, hK2.keep (by simp) fun b hb => ?_⟩, ?_⟩
        · iterate 7 rw [Below.heap_setCell _ _ _ _ (hne b hb)]
        · repeat (first | (with_reducible exact hbw2) | (with_reducible refine Below.setCell ?_ ?hh _; case hh => (simp; try omega)))
end Go.Proofs.Ytpkebpbflfhbnaa
