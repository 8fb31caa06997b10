/- Own text. The contract of spec.l03Shift. -/
import Derived.Test.YtpkebpbflfhbnaaShP
import Derived.Test.YtpkebpbflfhbnaaCpE
import Derived.Test.YtpkebpbflfhbnaaLastE
import Derived.Handy
import Derived.Deep.DrawnRows
namespace Go.Proofs.Ytpkebpbflfhbnaa
open Go.RowKit Go.Deep Go.ChangeShapes Go.WideShapes
set_option linter.unusedVariables false
attribute [local go_sem ↓] Go.wp_at_zero Go.wp_at_succ
/-- seven cells of block B are written, from cell q on. -/
abbrev set7o (w : World) (B q : Nat) (v0 v1 v2 v3 v4 v5 v6 : Value) : World := (((((((w.setCell ⟨B, q, none⟩ v0).setCell ⟨B, q + 1, none⟩ v1).setCell ⟨B, q + 2, none⟩ v2).setCell ⟨B, q + 3, none⟩ v3).setCell ⟨B, q + 4, none⟩ v4).setCell ⟨B, q + 5, none⟩ v5).setCell ⟨B, q + 6, none⟩ v6)
theorem set7o_size (w : World) (B q : Nat) (v0 v1 v2 v3 v4 v5 v6 : Value) : (set7o w B q v0 v1 v2 v3 v4 v5 v6).heap.size = w.heap.size := by simp [set7o]
theorem set7o_blk {w : World} {B b : Nat} (hb : b ≠ B) (q : Nat) (v0 v1 v2 v3 v4 v5 v6 : Value) : (set7o w B q v0 v1 v2 v3 v4 v5 v6).heap[b]? = w.heap[b]? := by
  unfold set7o
  iterate 7 rw [Below.heap_setCell _ _ _ _ hb]
theorem set7o_below {a w : World} {N B : Nat} (h : Below N a w) (hB : N ≤ B) (q : Nat) (v0 v1 v2 v3 v4 v5 v6 : Value) : Below N a (set7o w B q v0 v1 v2 v3 v4 v5 v6) :=
  ((((((h.setCell hB _).setCell hB _).setCell hB _).setCell hB _).setCell hB _).setCell hB _).setCell hB _
theorem set7o_far {w : World} {B q r : Nat} {v0 v1 v2 v3 v4 v5 v6 : Value} (h : r < q ∨ q + 7 ≤ r) : (set7o w B q v0 v1 v2 v3 v4 v5 v6).cell? ⟨B, r, none⟩ = w.cell? ⟨B, r, none⟩ := by
  unfold set7o
  iterate 7 rw [World.cell?_setCell_other _ _ _ _ (by intro e; have := congrArg Addr.off e; simp at this; omega)]
theorem set7o_0 {w : World} {B q : Nat} {v0 v1 v2 v3 v4 v5 v6 z : Value} (h : w.cell? ⟨B, q, none⟩ = some z) : (set7o w B q v0 v1 v2 v3 v4 v5 v6).cell? ⟨B, q, none⟩ = some v0 := by
  unfold set7o
  iterate 6 rw [World.cell?_setCell_other _ _ _ _ (by intro e; have := congrArg Addr.off e; simp at this)]
  exact World.cell?_setCell_same _ _ _ h
theorem set7o_1 {w : World} {B q : Nat} {v0 v1 v2 v3 v4 v5 v6 z : Value} (h : w.cell? ⟨B, q + 1, none⟩ = some z) : (set7o w B q v0 v1 v2 v3 v4 v5 v6).cell? ⟨B, q + 1, none⟩ = some v1 := by
  unfold set7o
  iterate 5 rw [World.cell?_setCell_other _ _ _ _ (by intro e; have := congrArg Addr.off e; simp at this)]
  refine World.cell?_setCell_same _ _ _ (?_ : _ = some z)
  iterate 1 rw [World.cell?_setCell_other _ _ _ _ (by intro e; have := congrArg Addr.off e; simp at this)]
  exact h
theorem set7o_2 {w : World} {B q : Nat} {v0 v1 v2 v3 v4 v5 v6 z : Value} (h : w.cell? ⟨B, q + 2, none⟩ = some z) : (set7o w B q v0 v1 v2 v3 v4 v5 v6).cell? ⟨B, q + 2, none⟩ = some v2 := by
  unfold set7o
  iterate 4 rw [World.cell?_setCell_other _ _ _ _ (by intro e; have := congrArg Addr.off e; simp at this)]
  refine World.cell?_setCell_same _ _ _ (?_ : _ = some z)
  iterate 2 rw [World.cell?_setCell_other _ _ _ _ (by intro e; have := congrArg Addr.off e; simp at this)]
  exact h
theorem set7o_3 {w : World} {B q : Nat} {v0 v1 v2 v3 v4 v5 v6 z : Value} (h : w.cell? ⟨B, q + 3, none⟩ = some z) : (set7o w B q v0 v1 v2 v3 v4 v5 v6).cell? ⟨B, q + 3, none⟩ = some v3 := by
  unfold set7o
  iterate 3 rw [World.cell?_setCell_other _ _ _ _ (by intro e; have := congrArg Addr.off e; simp at this)]
  refine World.cell?_setCell_same _ _ _ (?_ : _ = some z)
  iterate 3 rw [World.cell?_setCell_other _ _ _ _ (by intro e; have := congrArg Addr.off e; simp at this)]
  exact h
theorem set7o_4 {w : World} {B q : Nat} {v0 v1 v2 v3 v4 v5 v6 z : Value} (h : w.cell? ⟨B, q + 4, none⟩ = some z) : (set7o w B q v0 v1 v2 v3 v4 v5 v6).cell? ⟨B, q + 4, none⟩ = some v4 := by
  unfold set7o
  iterate 2 rw [World.cell?_setCell_other _ _ _ _ (by intro e; have := congrArg Addr.off e; simp at this)]
  refine World.cell?_setCell_same _ _ _ (?_ : _ = some z)
  iterate 4 rw [World.cell?_setCell_other _ _ _ _ (by intro e; have := congrArg Addr.off e; simp at this)]
  exact h
theorem set7o_5 {w : World} {B q : Nat} {v0 v1 v2 v3 v4 v5 v6 z : Value} (h : w.cell? ⟨B, q + 5, none⟩ = some z) : (set7o w B q v0 v1 v2 v3 v4 v5 v6).cell? ⟨B, q + 5, none⟩ = some v5 := by
  unfold set7o
  iterate 1 rw [World.cell?_setCell_other _ _ _ _ (by intro e; have := congrArg Addr.off e; simp at this)]
  refine World.cell?_setCell_same _ _ _ (?_ : _ = some z)
  iterate 5 rw [World.cell?_setCell_other _ _ _ _ (by intro e; have := congrArg Addr.off e; simp at this)]
  exact h
theorem set7o_6 {w : World} {B q : Nat} {v0 v1 v2 v3 v4 v5 v6 z : Value} (h : w.cell? ⟨B, q + 6, none⟩ = some z) : (set7o w B q v0 v1 v2 v3 v4 v5 v6).cell? ⟨B, q + 6, none⟩ = some v6 := by
  unfold set7o
  refine World.cell?_setCell_same _ _ _ (?_ : _ = some z)
  iterate 6 rw [World.cell?_setCell_other _ _ _ _ (by intro e; have := congrArg Addr.off e; simp at this)]
  exact h
theorem ELies.below' {w w' : World} {d B o : Nat} {es : List E7} {G : List (List Nat)} (h : ELies w d B o es G) (hB : B < w.heap.size) (hG : ∀ b ∈ G.flatten, b < w.heap.size) (hb : Below w.heap.size w w') : ELies w' d B o es G := fun i e g he hg => by
  obtain ⟨h1, h2, u, h3, h4⟩ := h i e g he hg
  exact ⟨h1, h2.keep (hb.block B hB), u, (cell_blk (hb.block B hB)).trans h3, h4.below hb⟩
/-- l03Shift by s of an expression whose kids are at most d deep. -/
def LsS (s : Int) (d : Nat) : Prop := ∀ (e : E7) (u : Value) (F : List Nat) (w : World) (r : E7), e.wf → KidsIs w d u e.ks F → wtE e ≤ 1048576 → ShOk (colsL d e) s → Hid (shE d s e = r) →
    Calls Try.prog 37 #[(.agg #[.int .i64 e.k, .int .i64 e.n, .int .i64 e.v.k, .int .i64 e.v.n, .string e.v.s, .string e.p, u]), .int .i64 s] w fun x w' => (∃ u' F', x = .returned (.agg #[.int .i64 r.k, .int .i64 r.n, .int .i64 r.v.k, .int .i64 r.v.n, .string r.v.s, .string r.p, u']) ∧ KidsIs w' d u' r.ks F' ∧ Own w' w.heap.size F') ∧ Below w.heap.size w w'
set_option maxHeartbeats 8000000 in
set_option maxRecDepth 100000 in
theorem l03Shift_step {s : Int} {d : Nat} (ih : LsS s d) : LsS s (d + 1) := by
  intro e u F w r he hr hn hsh hR
  have ih : ∀ (e : E7) (u : Value) (F : List Nat) (w : World) (r : E7), e.wf → KidsIs w d u e.ks F → wtE e ≤ 1048576 → ShOk (colsL d e) s → Hid (shE d s e = r) →
    Calls Try.prog 37 #[(.agg #[.int .i64 e.k, .int .i64 e.n, .int .i64 e.v.k, .int .i64 e.v.n, .string e.v.s, .string e.p, u]), .int .i64 s] w fun x w' => (∃ u' F', x = .returned (.agg #[.int .i64 r.k, .int .i64 r.n, .int .i64 r.v.k, .int .i64 r.v.n, .string r.v.s, .string r.p, u']) ∧ KidsIs w' d u' r.ks F' ∧ Own w' w.heap.size F') ∧ Below w.heap.size w w' := ih
  obtain ⟨a, c, b, o, G0, rfl, hl, hc, hG0, _, ha⟩ := id hr.pick
  unfold maxLen at hc
  have hwe := wtE_eq e
  obtain ⟨n', hn'⟩ : ∃ n', Hid (n' = if e.k = 0 then e.n + s else e.n) := ⟨_, rfl⟩
  have htop := fun h0 => hsh.top h0
  go_enter Try.func37, Try.ntmps37
  go_wp2_with fail
  refine Calls.mono (l03Copy_any (d + 1) e (.slice a e.ks.length c) F _ (hr.below ?hb) hn) ?_
  case hb => repeat (first | (with_reducible exact Below.refl _ _) | (with_reducible refine Below.drew ?_) | (with_reducible refine Below.alloc ?_ ?hh _; case hh => first | (simp; done) | (simp; omega) | omega) | (with_reducible refine Below.setCell ?_ ?hh _; case hh => first | (simp; done) | (simp; omega) | omega) | refine bstep (by assumption) (by first | (simp; done) | (simp; omega) | omega) ?_)
  rintro y w2 ⟨⟨u2, F2, rfl, hK2, hO2⟩, hb2⟩
  have hz2 := hb2.size
  simp only [World.size_alloc] at hz2 hO2
  obtain ⟨a2, c2, B, o2, G2, rfl, hl2, hc2m, hG2, _, hA2'⟩ := id hK2.pick
  have hA2 : ∀ k, k < e.ks.length → a2 = some ⟨B, o2, none⟩ ∧ B < w2.heap.size := fun k hk => ⟨(hA2' k hk).1, (hA2' k hk).2.1⟩
  have hc2 : c2 ≤ 9223372036854775807 := by unfold maxLen at hc2m; omega
  have hbx : w2.cell? ⟨w.heap.size, 6, none⟩ = some (.slice a e.ks.length c) := cell_later hb2 (by go_simp)
  have hbn : w2.cell? ⟨w.heap.size, 1, none⟩ = some (.int .i64 e.n) := cell_later hb2 (by go_simp)
  have hbk : w2.cell? ⟨w.heap.size, 0, none⟩ = some (.int .i64 e.k) := cell_later hb2 (by go_simp)
  have z0 : w2.cell? ⟨w.heap.size + 1, 0, none⟩ = some (.int .i64 0) := cell_later hb2 (by go_simp)
  have z1 : w2.cell? ⟨w.heap.size + 1, 1, none⟩ = some (.int .i64 0) := cell_later hb2 (by go_simp)
  have z2 : w2.cell? ⟨w.heap.size + 1, 2, none⟩ = some (.int .i64 0) := cell_later hb2 (by go_simp)
  have z3 : w2.cell? ⟨w.heap.size + 1, 3, none⟩ = some (.int .i64 0) := cell_later hb2 (by go_simp)
  have z4 : w2.cell? ⟨w.heap.size + 1, 4, none⟩ = some (.string ⟨#[]⟩) := cell_later hb2 (by go_simp)
  have z5 : w2.cell? ⟨w.heap.size + 1, 5, none⟩ = some (.string ⟨#[]⟩) := cell_later hb2 (by go_simp)
  have z6 : w2.cell? ⟨w.heap.size + 1, 6, none⟩ = some (.slice none 0 0) := cell_later hb2 (by go_simp)
  have hrf : ∀ q, w2.frozen? ⟨w.heap.size + 1, q, none⟩ = false := fun q => ((bcell hb2).2 _ q (by simp)).trans (by go_simp)
  have bel2 : Below w.heap.size w w2 := by repeat (first | (with_reducible exact Below.refl _ _) | (with_reducible refine Below.drew ?_) | (with_reducible refine Below.alloc ?_ ?hh _; case hh => first | (simp; done) | (simp; omega) | omega) | (with_reducible refine Below.setCell ?_ ?hh _; case hh => first | (simp; done) | (simp; omega) | omega) | refine bstep (by assumption) (by first | (simp; done) | (simp; omega) | omega) ?_)
  have hzl : w.heap.size < w2.heap.size := by omega
  have hzl1 : w.heap.size + 1 < w2.heap.size := by omega
  have hbN := fun (m : Int) => (Below.refl w2.heap.size w2).alloc (Nat.le_refl _) (.cells #[.int .i64 e.k, .int .i64 m, .int .i64 e.v.k, .int .i64 e.v.n, .string e.v.s, .string e.p, .slice a2 e.ks.length c2] 33)
  have hEl : ∀ m : Int, ELies (w2.alloc (.cells #[.int .i64 e.k, .int .i64 m, .int .i64 e.v.k, .int .i64 e.v.n, .string e.v.s, .string e.p, .slice a2 e.ks.length c2] 33)) d B o2 e.ks G2 := by
    intro m i e' g he' hg
    have hi : i < e.ks.length := (List.getElem?_eq_some_iff.1 he').1
    obtain ⟨_, hBl, hF, hE⟩ := hA2' i hi
    exact ELies.below' hE hBl (fun q hq => hK2.lt q (by rw [hF]; exact List.mem_cons_of_mem _ hq)) (hbN m) i e' g he' hg
  have hOw0 : ∀ m : Int, e.ks ≠ [] → Own (w2.alloc (.cells #[.int .i64 e.k, .int .i64 m, .int .i64 e.v.k, .int .i64 e.v.n, .string e.v.s, .string e.p, .slice a2 e.ks.length c2] 33)) (w.heap.size + 1 + 1) (B :: G2.flatten) ∧ ∀ q ∈ B :: G2.flatten, q < (w2.alloc (.cells #[.int .i64 e.k, .int .i64 m, .int .i64 e.v.k, .int .i64 e.v.n, .string e.v.s, .string e.p, .slice a2 e.ks.length c2] 33)).heap.size ∧ q ≠ w2.heap.size := by
    intro m h0
    obtain ⟨_, hBl, hF, hE⟩ := hA2' 0 (List.length_pos_iff.2 h0)
    rw [← hF]
    exact ⟨hO2.below hK2.lt (hbN m), fun q hq => by have := hK2.lt q hq; simp; omega⟩
  clear hb2 hK2 hO2 hA2' hr hbN
  by_cases h0 : e.k = 0
  · have hkb : (e.k == 0) = true := by simpa using h0
    have hkd : decide (e.k = 0) = true := by simpa using h0
    obtain ⟨t1, t2, t3, t4⟩ := htop h0
    have hnn := hn'.out
    rw [if_pos h0] at hnn
    have hrE : Hid (r = E7.mk e.k n' e.v e.p (e.ks.map (shE d s))) := by show _ = _; rw [← hR.out, hnn]; show E7.mk _ _ _ _ _ = _; rw [if_pos h0]
    subst hnn
    clear h0 htop hn' hR
    go_wp2
    go_loopw [6] (fun i wr => ∃ (k : Nat) (G : List (List Nat)), k ≤ e.ks.length ∧ i = .int .i64 k ∧ wr.cell? ⟨w.heap.size, 6, none⟩ = some (.slice a e.ks.length c) ∧ wr.cell? ⟨w2.heap.size, 0, none⟩ = some (.int .i64 e.k) ∧ wr.cell? ⟨w2.heap.size, 1, none⟩ = some (.int .i64 (e.n + s)) ∧ wr.cell? ⟨w2.heap.size, 2, none⟩ = some (.int .i64 e.v.k) ∧ wr.cell? ⟨w2.heap.size, 3, none⟩ = some (.int .i64 e.v.n) ∧ wr.cell? ⟨w2.heap.size, 4, none⟩ = some (.string e.v.s) ∧ wr.cell? ⟨w2.heap.size, 5, none⟩ = some (.string e.p) ∧ wr.cell? ⟨w2.heap.size, 6, none⟩ = some (.slice a2 e.ks.length c2) ∧ wr.cell? ⟨w.heap.size + 1, 0, none⟩ = some (.int .i64 0) ∧ wr.cell? ⟨w.heap.size + 1, 1, none⟩ = some (.int .i64 0) ∧ wr.cell? ⟨w.heap.size + 1, 2, none⟩ = some (.int .i64 0) ∧ wr.cell? ⟨w.heap.size + 1, 3, none⟩ = some (.int .i64 0) ∧ wr.cell? ⟨w.heap.size + 1, 4, none⟩ = some (.string ⟨#[]⟩) ∧ wr.cell? ⟨w.heap.size + 1, 5, none⟩ = some (.string ⟨#[]⟩) ∧ wr.cell? ⟨w.heap.size + 1, 6, none⟩ = some (.slice none 0 0) ∧ (∀ q, wr.frozen? ⟨w.heap.size + 1, q, none⟩ = false) ∧ ELies wr d B o2 (shL d s k e.ks) G ∧ G.length = e.ks.length ∧ (e.ks ≠ [] → Own wr (w.heap.size + 1 + 1) (B :: G.flatten) ∧ ∀ b ∈ B :: G.flatten, b < wr.heap.size ∧ b ≠ w2.heap.size) ∧ Below w.heap.size w wr ∧ w2.heap.size < wr.heap.size) (fun i _ => e.ks.length - (intOf i).toNat)
    case atStart =>
      refine ⟨0, G2, Nat.zero_le _, rfl, by go_simp, by go_simp, by go_simp, by go_simp, by go_simp, by go_simp, by go_simp, by go_simp, by go_simp, by go_simp, by go_simp, by go_simp, by go_simp, by go_simp, by go_simp, fun q => by go_simp, by rw [shL_zero]; exact hEl _, hG2, hOw0 _, by repeat (first | (with_reducible exact Below.refl _ _) | (with_reducible refine Below.drew ?_) | (with_reducible refine Below.alloc ?_ ?hh _; case hh => first | (simp; done) | (simp; omega) | omega) | (with_reducible refine Below.setCell ?_ ?hh _; case hh => first | (simp; done) | (simp; omega) | omega) | refine bstep (by assumption) (by first | (simp; done) | (simp; omega) | omega) ?_), by simp⟩
    case round =>
      obtain ⟨k, G, hk, rfl, bx, p0, p1, p2, p3, p4, p5, p6, r0, r1, r2, r3, r4, r5, r6, rf, hE, hGl, hOw, hb, hzb⟩ := hrel
      have hxl : w.heap.size < wr.heap.size := by omega
      have hRl : w.heap.size + 1 < wr.heap.size := by omega
      by_cases hlt : k < e.ks.length
      · obtain ⟨rfl, hblt, _, hL⟩ := ha k hlt
        obtain ⟨rfl, _⟩ := hA2 k hlt
        obtain ⟨x, g0, u0, hx, _, hxw, ⟨x0, x1, x2, x3, x4, x5⟩, x6, hKx, hbr⟩ := hL.at hG0 hblt hb hlt
        obtain ⟨a0, n0, rfl, _, _⟩ := hKx.shape
        have hxm := List.mem_of_getElem? hx
        have hxn : wtE x ≤ 1048576 := by have := wtE_mem hxm; omega
        have hxs := hsh.kid hxm
        obtain ⟨rx, hrx⟩ : ∃ rx, Hid (shE d s x = rx) := ⟨_, rfl⟩
        have HX : Hid (e.ks[k]? = some x) := hx
        obtain ⟨hOo, hOl⟩ := hOw (by intro h; rw [h] at hlt; simp at hlt)
        have hBl := (hOl B List.mem_cons_self).1
        have hB5 := (hOl B List.mem_cons_self).2
        have hBN := (hOo.2 B List.mem_cons_self).1
        have hBf : ∀ q, wr.frozen? ⟨B, q, none⟩ = false := (hOo.2 B List.mem_cons_self).2
        have hGlt : ∀ b ∈ G.flatten, b < wr.heap.size := fun b hb => (hOl b (List.mem_cons_of_mem _ hb)).1
        obtain ⟨_, ⟨y0, y1, y2, y3, y4, y5⟩, uy, y6, _⟩ := hE k x (G[k]'(by omega)) (by rw [shL_at hx, if_neg (by omega)]) (by simp)
        have hbB : b ≠ B := by omega
        clear ha hA2 hL hx
        go_wp2_with fail
        refine startE 11 (fun w' => w'.cell? ⟨w2.heap.size, 6, none⟩ = some (.slice (some ⟨B, o2, none⟩) e.ks.length c2) ∧ w'.cell? ⟨w.heap.size, 6, none⟩ = some (.slice (some ⟨b, o, none⟩) e.ks.length c) ∧ w'.cell? ⟨b, o + k * 7, none⟩ = some (.int .i64 x.k) ∧ w'.cell? ⟨b, o + k * 7 + 1, none⟩ = some (.int .i64 x.n) ∧ w'.cell? ⟨b, o + k * 7 + 2, none⟩ = some (.int .i64 x.v.k) ∧ w'.cell? ⟨b, o + k * 7 + 3, none⟩ = some (.int .i64 x.v.n) ∧ w'.cell? ⟨b, o + k * 7 + 4, none⟩ = some (.string x.v.s) ∧ w'.cell? ⟨b, o + k * 7 + 5, none⟩ = some (.string x.p) ∧ w'.cell? ⟨b, o + k * 7 + 6, none⟩ = some (.slice a0 x.ks.length n0)) (by kernel_rfl) ?_ (fun hHeld => ?_)
        · (try dsimp only)
          exact ⟨p6, bx, x0, x1, x2, x3, x4, x5, x6⟩
        refine takeE (i := 0) (d := 24) (v := ?_) rfl rfl (by kernel_rfl) (by kernel_rfl) (by kernel_rfl) (by kernel_rfl) (fun _ _ _ h => h) (by rfl) (by assumption) ?_ ?_
        rotate_left
        · intro w' hSw; (try dsimp only at hSw); go_simp; try exact rfl
        try simp only [List.setIfInBounds_toArray, List.set_cons_zero, List.set_cons_succ]
        refine takeE (i := 1) (d := 25) (v := ?_) rfl rfl (by kernel_rfl) (by kernel_rfl) (by kernel_rfl) (by kernel_rfl) (fun _ _ _ h => h) (by rfl) (by assumption) ?_ ?_
        rotate_left
        · intro w' hSw; (try dsimp only at hSw); go_simp; try exact rfl
        try simp only [List.setIfInBounds_toArray, List.set_cons_zero, List.set_cons_succ]
        refine takeE (i := 2) (d := 26) (v := ?_) rfl rfl (by kernel_rfl) (by kernel_rfl) (by kernel_rfl) (by kernel_rfl) (fun _ _ _ h => h) (by rfl) (by assumption) ?_ ?_
        rotate_left
        · intro w' hSw; (try dsimp only at hSw); go_simp; try exact rfl
        try simp only [List.setIfInBounds_toArray, List.set_cons_zero, List.set_cons_succ]
        refine takeE (i := 3) (d := 27) (v := ?_) rfl rfl (by kernel_rfl) (by kernel_rfl) (by kernel_rfl) (by kernel_rfl) (fun _ _ _ h => h) (by rfl) (by assumption) ?_ ?_
        rotate_left
        · intro w' hSw; (try dsimp only at hSw); go_simp; try exact rfl
        try simp only [List.setIfInBounds_toArray, List.set_cons_zero, List.set_cons_succ]
        refine takeE (i := 4) (d := 28) (v := ?_) rfl rfl (by kernel_rfl) (by kernel_rfl) (by kernel_rfl) (by kernel_rfl) (fun _ _ _ h => h) (by rfl) (by assumption) ?_ ?_
        rotate_left
        · intro w' hSw; (try dsimp only at hSw); go_simp; try exact rfl
        try simp only [List.setIfInBounds_toArray, List.set_cons_zero, List.set_cons_succ]
        refine takeE (i := 5) (d := 29) (v := ?_) rfl rfl (by kernel_rfl) (by kernel_rfl) (by kernel_rfl) (by kernel_rfl) (fun _ _ _ h => h) (by rfl) (by assumption) ?_ ?_
        rotate_left
        · intro w' hSw; (try dsimp only at hSw); go_simp; try exact rfl
        try simp only [List.setIfInBounds_toArray, List.set_cons_zero, List.set_cons_succ]
        refine takeE (i := 6) (d := 30) (v := ?_) rfl rfl (by kernel_rfl) (by kernel_rfl) (by kernel_rfl) (by kernel_rfl) (fun _ _ _ h => h) (by rfl) (by assumption) ?_ ?_
        rotate_left
        · intro w' hSw; (try dsimp only at hSw); go_simp; try exact rfl
        try simp only [List.setIfInBounds_toArray, List.set_cons_zero, List.set_cons_succ]
        refine takeE (i := 7) (d := 31) (v := ?_) rfl rfl (by kernel_rfl) (by kernel_rfl) (by kernel_rfl) (by kernel_rfl) (fun _ _ _ h => h) (by rfl) (by assumption) ?_ ?_
        rotate_left
        · intro w' hSw; (try dsimp only at hSw); go_simp; try exact rfl
        try simp only [List.setIfInBounds_toArray, List.set_cons_zero, List.set_cons_succ]
        refine takeE (i := 8) (d := 32) (v := ?_) rfl rfl (by kernel_rfl) (by kernel_rfl) (by kernel_rfl) (by kernel_rfl) (fun _ _ _ h => h) (by rfl) (by assumption) ?_ ?_
        rotate_left
        · intro w' hSw; (try dsimp only at hSw); go_simp; try exact rfl
        try simp only [List.setIfInBounds_toArray, List.set_cons_zero, List.set_cons_succ]
        refine oneE (i := 9) (by kernel_rfl) rfl (fun K hK => ?_)
        go_simp
        go_at_call 37
        refine Calls.mono (ih x (.slice a0 x.ks.length n0) g0 _ rx hxw (hKx.below ?hbb) hxn hxs hrx) ?_
        case hbb => repeat (first | (with_reducible exact Below.refl _ _) | (with_reducible refine Below.drew ?_) | (with_reducible refine Below.alloc ?_ ?hh _; case hh => first | (simp; done) | (simp; omega) | omega) | (with_reducible refine Below.setCell ?_ ?hh _; case hh => first | (simp; done) | (simp; omega) | omega) | refine bstep (by assumption) (by first | (simp; done) | (simp; omega) | omega) ?_)
        rintro y w3 ⟨⟨u3, g3, rfl, hK3, hO3⟩, hb3⟩
        obtain ⟨a3, n3, rfl, _, _⟩ := hK3.shape
        replace hO3 : Own w3 wr.heap.size g3 := by first | exact hO3 | simpa using hO3
        have hz3 := hb3.size
        (try simp at hz3)
        have bel3 : Below wr.heap.size wr w3 := by repeat (first | (with_reducible exact Below.refl _ _) | (with_reducible refine Below.drew ?_) | (with_reducible refine Below.alloc ?_ ?hh _; case hh => first | (simp; done) | (simp; omega) | omega) | (with_reducible refine Below.setCell ?_ ?hh _; case hh => first | (simp; done) | (simp; omega) | omega) | refine bstep (by assumption) (by first | (simp; done) | (simp; omega) | omega) ?_)
        have hbw3 : Below w.heap.size w w3 := hb.trans (bel3.mono hb.size)
        have hE3 : ELies w3 d B o2 (shL d s k e.ks) G := fun j e' g' he hg => (ELies.below' hE hBl hGlt bel3) j e' g' he hg
        have rf3 : ∀ q, w3.frozen? ⟨w.heap.size + 1, q, none⟩ = false := fun q => ((bcell bel3).2 _ q (by omega)).trans (rf q)
        have Bf3 : ∀ q, w3.frozen? ⟨B, q, none⟩ = false := fun q => ((bcell bel3).2 _ q hBl).trans (hBf q)
        have p0a := ((bcell bel3).1 _ _ hzb).trans p0
        have p1a := ((bcell bel3).1 _ _ hzb).trans p1
        have p2a := ((bcell bel3).1 _ _ hzb).trans p2
        have p3a := ((bcell bel3).1 _ _ hzb).trans p3
        have p4a := ((bcell bel3).1 _ _ hzb).trans p4
        have p5a := ((bcell bel3).1 _ _ hzb).trans p5
        have p6a := ((bcell bel3).1 _ _ hzb).trans p6
        have r0a := ((bcell bel3).1 _ _ hRl).trans r0
        have r1a := ((bcell bel3).1 _ _ hRl).trans r1
        have r2a := ((bcell bel3).1 _ _ hRl).trans r2
        have r3a := ((bcell bel3).1 _ _ hRl).trans r3
        have r4a := ((bcell bel3).1 _ _ hRl).trans r4
        have r5a := ((bcell bel3).1 _ _ hRl).trans r5
        have r6a := ((bcell bel3).1 _ _ hRl).trans r6
        have bxa := ((bcell bel3).1 _ _ hxl).trans bx
        have x0a := ((bcell bel3).1 b _ hbr).trans x0
        have x1a := ((bcell bel3).1 b _ hbr).trans x1
        have x2a := ((bcell bel3).1 b _ hbr).trans x2
        have x3a := ((bcell bel3).1 b _ hbr).trans x3
        have x4a := ((bcell bel3).1 b _ hbr).trans x4
        have x5a := ((bcell bel3).1 b _ hbr).trans x5
        have x6a := ((bcell bel3).1 b _ hbr).trans x6
        have y0a := ((bcell bel3).1 _ _ hBl).trans y0
        have y1a := ((bcell bel3).1 _ _ hBl).trans y1
        have y2a := ((bcell bel3).1 _ _ hBl).trans y2
        have y3a := ((bcell bel3).1 _ _ hBl).trans y3
        have y4a := ((bcell bel3).1 _ _ hBl).trans y4
        have y5a := ((bcell bel3).1 _ _ hBl).trans y5
        have y6a := ((bcell bel3).1 _ _ hBl).trans y6
        try go_wp2_with fail
        refine hK.out _ _ ?_ (fun hHeld9 => ?_)
        · intro _
          (try dsimp only)
          exact ⟨p6a, bxa, x0a, x1a, x2a, x3a, x4a, x5a, x6a⟩
        clear hK
        replace hHeld9 := hHeld9 (by decide)
        try simp only [List.setIfInBounds_toArray, List.set_cons_zero, List.set_cons_succ]
        refine takeE (i := 10) (d := 34) (v := ?_) rfl rfl (by kernel_rfl) (by kernel_rfl) (by kernel_rfl) (by kernel_rfl) (fun _ _ _ h => h) (by rfl) (by assumption) ?_ ?_
        rotate_left
        · intro w' hSw; (try dsimp only at hSw); go_simp; try exact rfl
        try simp only [List.setIfInBounds_toArray, List.set_cons_zero, List.set_cons_succ]
        refine oneE (i := 11) (by kernel_rfl) rfl (fun K hK => ?_)
        go_simp
        refine hK.out _ _ ?_ (fun hHeld11 => ?_)
        · exact fun h => absurd rfl h
        clear hK hHeld11
        try simp only [List.setIfInBounds_toArray, List.set_cons_zero, List.set_cons_succ]
        refine doneE (by kernel_rfl) ?_ _
        have hb4 : ∀ q, q ≠ B → (set7o w3 B (o2 + k * 7) (Value.int .i64 rx.k) (Value.int .i64 rx.n) (Value.int .i64 rx.v.k) (Value.int .i64 rx.v.n) (Value.string rx.v.s) (Value.string rx.p) (Value.slice a3 rx.ks.length n3)).heap[q]? = w3.heap[q]? := fun q hq => set7o_blk hq _ _ _ _ _ _ _ _
        have hE4 : ELies (set7o w3 B (o2 + k * 7) (Value.int .i64 rx.k) (Value.int .i64 rx.n) (Value.int .i64 rx.v.k) (Value.int .i64 rx.v.n) (Value.string rx.v.s) (Value.string rx.p) (Value.slice a3 rx.ks.length n3)) d B o2 (shL d s (k + 1) e.ks) (G.set k g3) := by
          have hw := hrx.out
          subst hw
          refine ELies.put hE3 hGl hOo.1 HX.out (shE_wf hxw hxs) hK3 (fun q hq => by have := (hO3.2 q hq).1; omega) (by simp) ⟨set7o_0 y0a, set7o_1 y1a, set7o_2 y2a, set7o_3 y3a, set7o_4 y4a, set7o_5 y5a⟩ (set7o_6 y6a) (fun q hq => set7o_far hq) hb4
        have hO4 : Own (set7o w3 B (o2 + k * 7) (Value.int .i64 rx.k) (Value.int .i64 rx.n) (Value.int .i64 rx.v.k) (Value.int .i64 rx.v.n) (Value.string rx.v.s) (Value.string rx.p) (Value.slice a3 rx.ks.length n3)) (w.heap.size + 1 + 1) (B :: (G.set k g3).flatten) := set_own (hOo.below (fun q hq => (hOl q hq).1) bel3) (by omega) hO3 (fun q hq => (hOl q hq).1) (by omega) (fun q r => by simp)
        have hl4 : ∀ q ∈ B :: (G.set k g3).flatten, q < (set7o w3 B (o2 + k * 7) (Value.int .i64 rx.k) (Value.int .i64 rx.n) (Value.int .i64 rx.v.k) (Value.int .i64 rx.v.n) (Value.string rx.v.s) (Value.string rx.p) (Value.slice a3 rx.ks.length n3)).heap.size ∧ q ≠ w2.heap.size := by
          intro q hq
          rw [set7o_size]
          rcases List.mem_cons.1 hq with rfl | hq
          · exact ⟨by omega, hB5⟩
          · obtain ⟨t, ht, hqt⟩ := List.mem_flatten.1 hq
            rcases List.mem_or_eq_of_mem_set ht with ht | rfl
            · have := hOl q (List.mem_cons_of_mem _ (List.mem_flatten.2 ⟨t, ht, hqt⟩)); exact ⟨by omega, this.2⟩
            · have := hK3.lt q hqt; have := (hO3.2 q hqt).1; exact ⟨by omega, by omega⟩
        have belS : Below w.heap.size w (set7o w3 B (o2 + k * 7) (Value.int .i64 rx.k) (Value.int .i64 rx.n) (Value.int .i64 rx.v.k) (Value.int .i64 rx.v.n) (Value.string rx.v.s) (Value.string rx.p) (Value.slice a3 rx.ks.length n3)) := set7o_below hbw3 (by omega) _ _ _ _ _ _ _ _
        have c4 : ∀ b q, b ≠ B → (set7o w3 B (o2 + k * 7) (Value.int .i64 rx.k) (Value.int .i64 rx.n) (Value.int .i64 rx.v.k) (Value.int .i64 rx.v.n) (Value.string rx.v.s) (Value.string rx.p) (Value.slice a3 rx.ks.length n3)).cell? ⟨b, q, none⟩ = w3.cell? ⟨b, q, none⟩ := fun b q hq => cell_blk (hb4 b hq)
        have f4 : ∀ q, (set7o w3 B (o2 + k * 7) (Value.int .i64 rx.k) (Value.int .i64 rx.n) (Value.int .i64 rx.v.k) (Value.int .i64 rx.v.n) (Value.string rx.v.s) (Value.string rx.p) (Value.slice a3 rx.ks.length n3)).frozen? ⟨w.heap.size + 1, q, none⟩ = false := fun q => by simpa using rf3 q
        have hz4 : w2.heap.size < (set7o w3 B (o2 + k * 7) (Value.int .i64 rx.k) (Value.int .i64 rx.n) (Value.int .i64 rx.v.k) (Value.int .i64 rx.v.n) (Value.string rx.v.s) (Value.string rx.p) (Value.slice a3 rx.ks.length n3)).heap.size := by rw [set7o_size]; omega
        have bxe := (c4 w.heap.size 6 (by omega)).trans bxa
        have p0e := (c4 w2.heap.size 0 (fun h => hB5 h.symm)).trans p0a
        have p1e := (c4 w2.heap.size 1 (fun h => hB5 h.symm)).trans p1a
        have p2e := (c4 w2.heap.size 2 (fun h => hB5 h.symm)).trans p2a
        have p3e := (c4 w2.heap.size 3 (fun h => hB5 h.symm)).trans p3a
        have p4e := (c4 w2.heap.size 4 (fun h => hB5 h.symm)).trans p4a
        have p5e := (c4 w2.heap.size 5 (fun h => hB5 h.symm)).trans p5a
        have p6e := (c4 w2.heap.size 6 (fun h => hB5 h.symm)).trans p6a
        have r0e := (c4 (w.heap.size + 1) 0 (by omega)).trans r0a
        have r1e := (c4 (w.heap.size + 1) 1 (by omega)).trans r1a
        have r2e := (c4 (w.heap.size + 1) 2 (by omega)).trans r2a
        have r3e := (c4 (w.heap.size + 1) 3 (by omega)).trans r3a
        have r4e := (c4 (w.heap.size + 1) 4 (by omega)).trans r4a
        have r5e := (c4 (w.heap.size + 1) 5 (by omega)).trans r5a
        have r6e := (c4 (w.heap.size + 1) 6 (by omega)).trans r6a
        clear hE3 hK3 hO3 hb3 hE hOo hOl hOw hHeld hHeld9 rf3 Bf3 rf hBf hGlt c4 hb4 bel3 hbw3 p0 r0 x0 y0 p0a r0a x0a y0a p1 r1 x1 y1 p1a r1a x1a y1a p2 r2 x2 y2 p2a r2a x2a y2a p3 r3 x3 y3 p3a r3a x3a y3a p4 r4 x4 y4 p4a r4a x4a y4a p5 r5 x5 y5 p5a r5a x5a y5a p6 r6 x6 y6 p6a r6a x6a y6a bx bxa
        go_wp2
        exact ⟨⟨k + 1, G.set k g3, hlt, by simp, bxe, p0e, p1e, p2e, p3e, p4e, p5e, p6e, r0e, r1e, r2e, r3e, r4e, r5e, r6e, f4, hE4, by rw [List.length_set]; exact hGl, fun _ => ⟨hO4, hl4⟩, belS, hz4⟩, by simp [intOf]; omega⟩
      · obtain rfl : k = e.ks.length := by omega
        rw [shL_all] at hE
        have hne : ∀ q ∈ B :: G.flatten, e.ks ≠ [] → q ≠ w.heap.size + 1 := fun q hq h => by have := ((hOw h).1.2 q hq).1; omega
        have HK : Hid (∃ F', KidsIs wr (d + 1) (.slice a2 e.ks.length c2) (e.ks.map (shE d s)) F' ∧ Own wr w.heap.size F' ∧ ∀ q ∈ F', q ≠ w.heap.size + 1) := by
          show ∃ F', _
          by_cases h0 : e.ks = []
          · exact ⟨[], ⟨a2, c2, [], by simp [h0], by simp [h0], hc2m, by simp [h0], fun _ => rfl, fun h => absurd (by simp [h0]) h⟩, by simp [Own], by simp⟩
          · obtain ⟨hOo, hOl⟩ := hOw h0
            have hlen : 0 < e.ks.length := List.length_pos_iff.2 h0
            obtain ⟨ha2, _⟩ := hA2 0 hlen
            exact ⟨B :: G.flatten, ⟨a2, c2, G, by simp, by simpa using hl2, hc2m, by simpa using hGl, fun h => absurd (by simpa using h) h0, fun _ => ⟨B, o2, ha2, (hOl B List.mem_cons_self).1, rfl, hE⟩⟩, ⟨hOo.1, fun q hq => ⟨by have := (hOo.2 q hq).1; omega, (hOo.2 q hq).2⟩⟩, fun q hq => hne q hq h0⟩
        clear hE hOw hne ha hA2 hEl hOw0
        go_wp2
        obtain ⟨F', hK', hO', hn'⟩ := HK.out
        have hr2 := hrE.out
        subst hr2
        refine bodyPost_ret (v := .agg #[.int .i64 e.k, .int .i64 (e.n + s), .int .i64 e.v.k, .int .i64 e.v.n, .string e.v.s, .string e.p, .slice a2 e.ks.length c2]) (by simp [results, Try.results37, go_sem, *]) rfl ⟨⟨.slice a2 e.ks.length c2, F', by rfl, hK'.keep (by simp) fun q hq => ?_, hO'.keep fun q hq => ?_⟩, ?_⟩
        · iterate 7 rw [Below.heap_setCell _ _ _ _ (hn' q hq)]
        · iterate 7 rw [Below.heap_setCell _ _ _ _ (hn' q hq)]
        · repeat (first | (with_reducible exact hb) | (with_reducible refine Below.setCell ?_ ?hh _; case hh => (simp; try omega)))
  · have hkb : (e.k == 0) = false := by simpa using h0
    have hkd : decide (e.k = 0) = false := by simpa using h0
    have hnn := hn'.out
    rw [if_neg h0] at hnn
    have hrE : Hid (r = E7.mk e.k n' e.v e.p (e.ks.map (shE d s))) := by show _ = _; rw [← hR.out, hnn]; show E7.mk _ _ _ _ _ = _; rw [if_neg h0]
    subst hnn
    clear h0 htop hn' hR
    go_wp2
    go_loopw [6] (fun i wr => ∃ (k : Nat) (G : List (List Nat)), k ≤ e.ks.length ∧ i = .int .i64 k ∧ wr.cell? ⟨w.heap.size, 6, none⟩ = some (.slice a e.ks.length c) ∧ wr.cell? ⟨w2.heap.size, 0, none⟩ = some (.int .i64 e.k) ∧ wr.cell? ⟨w2.heap.size, 1, none⟩ = some (.int .i64 e.n) ∧ wr.cell? ⟨w2.heap.size, 2, none⟩ = some (.int .i64 e.v.k) ∧ wr.cell? ⟨w2.heap.size, 3, none⟩ = some (.int .i64 e.v.n) ∧ wr.cell? ⟨w2.heap.size, 4, none⟩ = some (.string e.v.s) ∧ wr.cell? ⟨w2.heap.size, 5, none⟩ = some (.string e.p) ∧ wr.cell? ⟨w2.heap.size, 6, none⟩ = some (.slice a2 e.ks.length c2) ∧ wr.cell? ⟨w.heap.size + 1, 0, none⟩ = some (.int .i64 0) ∧ wr.cell? ⟨w.heap.size + 1, 1, none⟩ = some (.int .i64 0) ∧ wr.cell? ⟨w.heap.size + 1, 2, none⟩ = some (.int .i64 0) ∧ wr.cell? ⟨w.heap.size + 1, 3, none⟩ = some (.int .i64 0) ∧ wr.cell? ⟨w.heap.size + 1, 4, none⟩ = some (.string ⟨#[]⟩) ∧ wr.cell? ⟨w.heap.size + 1, 5, none⟩ = some (.string ⟨#[]⟩) ∧ wr.cell? ⟨w.heap.size + 1, 6, none⟩ = some (.slice none 0 0) ∧ (∀ q, wr.frozen? ⟨w.heap.size + 1, q, none⟩ = false) ∧ ELies wr d B o2 (shL d s k e.ks) G ∧ G.length = e.ks.length ∧ (e.ks ≠ [] → Own wr (w.heap.size + 1 + 1) (B :: G.flatten) ∧ ∀ b ∈ B :: G.flatten, b < wr.heap.size ∧ b ≠ w2.heap.size) ∧ Below w.heap.size w wr ∧ w2.heap.size < wr.heap.size) (fun i _ => e.ks.length - (intOf i).toNat)
    case atStart =>
      refine ⟨0, G2, Nat.zero_le _, rfl, by go_simp, by go_simp, by go_simp, by go_simp, by go_simp, by go_simp, by go_simp, by go_simp, by go_simp, by go_simp, by go_simp, by go_simp, by go_simp, by go_simp, by go_simp, fun q => by go_simp, by rw [shL_zero]; exact hEl _, hG2, hOw0 _, by repeat (first | (with_reducible exact Below.refl _ _) | (with_reducible refine Below.drew ?_) | (with_reducible refine Below.alloc ?_ ?hh _; case hh => first | (simp; done) | (simp; omega) | omega) | (with_reducible refine Below.setCell ?_ ?hh _; case hh => first | (simp; done) | (simp; omega) | omega) | refine bstep (by assumption) (by first | (simp; done) | (simp; omega) | omega) ?_), by simp⟩
    case round =>
      obtain ⟨k, G, hk, rfl, bx, p0, p1, p2, p3, p4, p5, p6, r0, r1, r2, r3, r4, r5, r6, rf, hE, hGl, hOw, hb, hzb⟩ := hrel
      have hxl : w.heap.size < wr.heap.size := by omega
      have hRl : w.heap.size + 1 < wr.heap.size := by omega
      by_cases hlt : k < e.ks.length
      · obtain ⟨rfl, hblt, _, hL⟩ := ha k hlt
        obtain ⟨rfl, _⟩ := hA2 k hlt
        obtain ⟨x, g0, u0, hx, _, hxw, ⟨x0, x1, x2, x3, x4, x5⟩, x6, hKx, hbr⟩ := hL.at hG0 hblt hb hlt
        obtain ⟨a0, n0, rfl, _, _⟩ := hKx.shape
        have hxm := List.mem_of_getElem? hx
        have hxn : wtE x ≤ 1048576 := by have := wtE_mem hxm; omega
        have hxs := hsh.kid hxm
        obtain ⟨rx, hrx⟩ : ∃ rx, Hid (shE d s x = rx) := ⟨_, rfl⟩
        have HX : Hid (e.ks[k]? = some x) := hx
        obtain ⟨hOo, hOl⟩ := hOw (by intro h; rw [h] at hlt; simp at hlt)
        have hBl := (hOl B List.mem_cons_self).1
        have hB5 := (hOl B List.mem_cons_self).2
        have hBN := (hOo.2 B List.mem_cons_self).1
        have hBf : ∀ q, wr.frozen? ⟨B, q, none⟩ = false := (hOo.2 B List.mem_cons_self).2
        have hGlt : ∀ b ∈ G.flatten, b < wr.heap.size := fun b hb => (hOl b (List.mem_cons_of_mem _ hb)).1
        obtain ⟨_, ⟨y0, y1, y2, y3, y4, y5⟩, uy, y6, _⟩ := hE k x (G[k]'(by omega)) (by rw [shL_at hx, if_neg (by omega)]) (by simp)
        have hbB : b ≠ B := by omega
        clear ha hA2 hL hx
        go_wp2_with fail
        refine startE 11 (fun w' => w'.cell? ⟨w2.heap.size, 6, none⟩ = some (.slice (some ⟨B, o2, none⟩) e.ks.length c2) ∧ w'.cell? ⟨w.heap.size, 6, none⟩ = some (.slice (some ⟨b, o, none⟩) e.ks.length c) ∧ w'.cell? ⟨b, o + k * 7, none⟩ = some (.int .i64 x.k) ∧ w'.cell? ⟨b, o + k * 7 + 1, none⟩ = some (.int .i64 x.n) ∧ w'.cell? ⟨b, o + k * 7 + 2, none⟩ = some (.int .i64 x.v.k) ∧ w'.cell? ⟨b, o + k * 7 + 3, none⟩ = some (.int .i64 x.v.n) ∧ w'.cell? ⟨b, o + k * 7 + 4, none⟩ = some (.string x.v.s) ∧ w'.cell? ⟨b, o + k * 7 + 5, none⟩ = some (.string x.p) ∧ w'.cell? ⟨b, o + k * 7 + 6, none⟩ = some (.slice a0 x.ks.length n0)) (by kernel_rfl) ?_ (fun hHeld => ?_)
        · (try dsimp only)
          exact ⟨p6, bx, x0, x1, x2, x3, x4, x5, x6⟩
        refine takeE (i := 0) (d := 24) (v := ?_) rfl rfl (by kernel_rfl) (by kernel_rfl) (by kernel_rfl) (by kernel_rfl) (fun _ _ _ h => h) (by rfl) (by assumption) ?_ ?_
        rotate_left
        · intro w' hSw; (try dsimp only at hSw); go_simp; try exact rfl
        try simp only [List.setIfInBounds_toArray, List.set_cons_zero, List.set_cons_succ]
        refine takeE (i := 1) (d := 25) (v := ?_) rfl rfl (by kernel_rfl) (by kernel_rfl) (by kernel_rfl) (by kernel_rfl) (fun _ _ _ h => h) (by rfl) (by assumption) ?_ ?_
        rotate_left
        · intro w' hSw; (try dsimp only at hSw); go_simp; try exact rfl
        try simp only [List.setIfInBounds_toArray, List.set_cons_zero, List.set_cons_succ]
        refine takeE (i := 2) (d := 26) (v := ?_) rfl rfl (by kernel_rfl) (by kernel_rfl) (by kernel_rfl) (by kernel_rfl) (fun _ _ _ h => h) (by rfl) (by assumption) ?_ ?_
        rotate_left
        · intro w' hSw; (try dsimp only at hSw); go_simp; try exact rfl
        try simp only [List.setIfInBounds_toArray, List.set_cons_zero, List.set_cons_succ]
        refine takeE (i := 3) (d := 27) (v := ?_) rfl rfl (by kernel_rfl) (by kernel_rfl) (by kernel_rfl) (by kernel_rfl) (fun _ _ _ h => h) (by rfl) (by assumption) ?_ ?_
        rotate_left
        · intro w' hSw; (try dsimp only at hSw); go_simp; try exact rfl
        try simp only [List.setIfInBounds_toArray, List.set_cons_zero, List.set_cons_succ]
        refine takeE (i := 4) (d := 28) (v := ?_) rfl rfl (by kernel_rfl) (by kernel_rfl) (by kernel_rfl) (by kernel_rfl) (fun _ _ _ h => h) (by rfl) (by assumption) ?_ ?_
        rotate_left
        · intro w' hSw; (try dsimp only at hSw); go_simp; try exact rfl
        try simp only [List.setIfInBounds_toArray, List.set_cons_zero, List.set_cons_succ]
        refine takeE (i := 5) (d := 29) (v := ?_) rfl rfl (by kernel_rfl) (by kernel_rfl) (by kernel_rfl) (by kernel_rfl) (fun _ _ _ h => h) (by rfl) (by assumption) ?_ ?_
        rotate_left
        · intro w' hSw; (try dsimp only at hSw); go_simp; try exact rfl
        try simp only [List.setIfInBounds_toArray, List.set_cons_zero, List.set_cons_succ]
        refine takeE (i := 6) (d := 30) (v := ?_) rfl rfl (by kernel_rfl) (by kernel_rfl) (by kernel_rfl) (by kernel_rfl) (fun _ _ _ h => h) (by rfl) (by assumption) ?_ ?_
        rotate_left
        · intro w' hSw; (try dsimp only at hSw); go_simp; try exact rfl
        try simp only [List.setIfInBounds_toArray, List.set_cons_zero, List.set_cons_succ]
        refine takeE (i := 7) (d := 31) (v := ?_) rfl rfl (by kernel_rfl) (by kernel_rfl) (by kernel_rfl) (by kernel_rfl) (fun _ _ _ h => h) (by rfl) (by assumption) ?_ ?_
        rotate_left
        · intro w' hSw; (try dsimp only at hSw); go_simp; try exact rfl
        try simp only [List.setIfInBounds_toArray, List.set_cons_zero, List.set_cons_succ]
        refine takeE (i := 8) (d := 32) (v := ?_) rfl rfl (by kernel_rfl) (by kernel_rfl) (by kernel_rfl) (by kernel_rfl) (fun _ _ _ h => h) (by rfl) (by assumption) ?_ ?_
        rotate_left
        · intro w' hSw; (try dsimp only at hSw); go_simp; try exact rfl
        try simp only [List.setIfInBounds_toArray, List.set_cons_zero, List.set_cons_succ]
        refine oneE (i := 9) (by kernel_rfl) rfl (fun K hK => ?_)
        go_simp
        go_at_call 37
        refine Calls.mono (ih x (.slice a0 x.ks.length n0) g0 _ rx hxw (hKx.below ?hbb) hxn hxs hrx) ?_
        case hbb => repeat (first | (with_reducible exact Below.refl _ _) | (with_reducible refine Below.drew ?_) | (with_reducible refine Below.alloc ?_ ?hh _; case hh => first | (simp; done) | (simp; omega) | omega) | (with_reducible refine Below.setCell ?_ ?hh _; case hh => first | (simp; done) | (simp; omega) | omega) | refine bstep (by assumption) (by first | (simp; done) | (simp; omega) | omega) ?_)
        rintro y w3 ⟨⟨u3, g3, rfl, hK3, hO3⟩, hb3⟩
        obtain ⟨a3, n3, rfl, _, _⟩ := hK3.shape
        replace hO3 : Own w3 wr.heap.size g3 := by first | exact hO3 | simpa using hO3
        have hz3 := hb3.size
        (try simp at hz3)
        have bel3 : Below wr.heap.size wr w3 := by repeat (first | (with_reducible exact Below.refl _ _) | (with_reducible refine Below.drew ?_) | (with_reducible refine Below.alloc ?_ ?hh _; case hh => first | (simp; done) | (simp; omega) | omega) | (with_reducible refine Below.setCell ?_ ?hh _; case hh => first | (simp; done) | (simp; omega) | omega) | refine bstep (by assumption) (by first | (simp; done) | (simp; omega) | omega) ?_)
        have hbw3 : Below w.heap.size w w3 := hb.trans (bel3.mono hb.size)
        have hE3 : ELies w3 d B o2 (shL d s k e.ks) G := fun j e' g' he hg => (ELies.below' hE hBl hGlt bel3) j e' g' he hg
        have rf3 : ∀ q, w3.frozen? ⟨w.heap.size + 1, q, none⟩ = false := fun q => ((bcell bel3).2 _ q (by omega)).trans (rf q)
        have Bf3 : ∀ q, w3.frozen? ⟨B, q, none⟩ = false := fun q => ((bcell bel3).2 _ q hBl).trans (hBf q)
        have p0a := ((bcell bel3).1 _ _ hzb).trans p0
        have p1a := ((bcell bel3).1 _ _ hzb).trans p1
        have p2a := ((bcell bel3).1 _ _ hzb).trans p2
        have p3a := ((bcell bel3).1 _ _ hzb).trans p3
        have p4a := ((bcell bel3).1 _ _ hzb).trans p4
        have p5a := ((bcell bel3).1 _ _ hzb).trans p5
        have p6a := ((bcell bel3).1 _ _ hzb).trans p6
        have r0a := ((bcell bel3).1 _ _ hRl).trans r0
        have r1a := ((bcell bel3).1 _ _ hRl).trans r1
        have r2a := ((bcell bel3).1 _ _ hRl).trans r2
        have r3a := ((bcell bel3).1 _ _ hRl).trans r3
        have r4a := ((bcell bel3).1 _ _ hRl).trans r4
        have r5a := ((bcell bel3).1 _ _ hRl).trans r5
        have r6a := ((bcell bel3).1 _ _ hRl).trans r6
        have bxa := ((bcell bel3).1 _ _ hxl).trans bx
        have x0a := ((bcell bel3).1 b _ hbr).trans x0
        have x1a := ((bcell bel3).1 b _ hbr).trans x1
        have x2a := ((bcell bel3).1 b _ hbr).trans x2
        have x3a := ((bcell bel3).1 b _ hbr).trans x3
        have x4a := ((bcell bel3).1 b _ hbr).trans x4
        have x5a := ((bcell bel3).1 b _ hbr).trans x5
        have x6a := ((bcell bel3).1 b _ hbr).trans x6
        have y0a := ((bcell bel3).1 _ _ hBl).trans y0
        have y1a := ((bcell bel3).1 _ _ hBl).trans y1
        have y2a := ((bcell bel3).1 _ _ hBl).trans y2
        have y3a := ((bcell bel3).1 _ _ hBl).trans y3
        have y4a := ((bcell bel3).1 _ _ hBl).trans y4
        have y5a := ((bcell bel3).1 _ _ hBl).trans y5
        have y6a := ((bcell bel3).1 _ _ hBl).trans y6
        try go_wp2_with fail
        refine hK.out _ _ ?_ (fun hHeld9 => ?_)
        · intro _
          (try dsimp only)
          exact ⟨p6a, bxa, x0a, x1a, x2a, x3a, x4a, x5a, x6a⟩
        clear hK
        replace hHeld9 := hHeld9 (by decide)
        try simp only [List.setIfInBounds_toArray, List.set_cons_zero, List.set_cons_succ]
        refine takeE (i := 10) (d := 34) (v := ?_) rfl rfl (by kernel_rfl) (by kernel_rfl) (by kernel_rfl) (by kernel_rfl) (fun _ _ _ h => h) (by rfl) (by assumption) ?_ ?_
        rotate_left
        · intro w' hSw; (try dsimp only at hSw); go_simp; try exact rfl
        try simp only [List.setIfInBounds_toArray, List.set_cons_zero, List.set_cons_succ]
        refine oneE (i := 11) (by kernel_rfl) rfl (fun K hK => ?_)
        go_simp
        refine hK.out _ _ ?_ (fun hHeld11 => ?_)
        · exact fun h => absurd rfl h
        clear hK hHeld11
        try simp only [List.setIfInBounds_toArray, List.set_cons_zero, List.set_cons_succ]
        refine doneE (by kernel_rfl) ?_ _
        have hb4 : ∀ q, q ≠ B → (set7o w3 B (o2 + k * 7) (Value.int .i64 rx.k) (Value.int .i64 rx.n) (Value.int .i64 rx.v.k) (Value.int .i64 rx.v.n) (Value.string rx.v.s) (Value.string rx.p) (Value.slice a3 rx.ks.length n3)).heap[q]? = w3.heap[q]? := fun q hq => set7o_blk hq _ _ _ _ _ _ _ _
        have hE4 : ELies (set7o w3 B (o2 + k * 7) (Value.int .i64 rx.k) (Value.int .i64 rx.n) (Value.int .i64 rx.v.k) (Value.int .i64 rx.v.n) (Value.string rx.v.s) (Value.string rx.p) (Value.slice a3 rx.ks.length n3)) d B o2 (shL d s (k + 1) e.ks) (G.set k g3) := by
          have hw := hrx.out
          subst hw
          refine ELies.put hE3 hGl hOo.1 HX.out (shE_wf hxw hxs) hK3 (fun q hq => by have := (hO3.2 q hq).1; omega) (by simp) ⟨set7o_0 y0a, set7o_1 y1a, set7o_2 y2a, set7o_3 y3a, set7o_4 y4a, set7o_5 y5a⟩ (set7o_6 y6a) (fun q hq => set7o_far hq) hb4
        have hO4 : Own (set7o w3 B (o2 + k * 7) (Value.int .i64 rx.k) (Value.int .i64 rx.n) (Value.int .i64 rx.v.k) (Value.int .i64 rx.v.n) (Value.string rx.v.s) (Value.string rx.p) (Value.slice a3 rx.ks.length n3)) (w.heap.size + 1 + 1) (B :: (G.set k g3).flatten) := set_own (hOo.below (fun q hq => (hOl q hq).1) bel3) (by omega) hO3 (fun q hq => (hOl q hq).1) (by omega) (fun q r => by simp)
        have hl4 : ∀ q ∈ B :: (G.set k g3).flatten, q < (set7o w3 B (o2 + k * 7) (Value.int .i64 rx.k) (Value.int .i64 rx.n) (Value.int .i64 rx.v.k) (Value.int .i64 rx.v.n) (Value.string rx.v.s) (Value.string rx.p) (Value.slice a3 rx.ks.length n3)).heap.size ∧ q ≠ w2.heap.size := by
          intro q hq
          rw [set7o_size]
          rcases List.mem_cons.1 hq with rfl | hq
          · exact ⟨by omega, hB5⟩
          · obtain ⟨t, ht, hqt⟩ := List.mem_flatten.1 hq
            rcases List.mem_or_eq_of_mem_set ht with ht | rfl
            · have := hOl q (List.mem_cons_of_mem _ (List.mem_flatten.2 ⟨t, ht, hqt⟩)); exact ⟨by omega, this.2⟩
            · have := hK3.lt q hqt; have := (hO3.2 q hqt).1; exact ⟨by omega, by omega⟩
        have belS : Below w.heap.size w (set7o w3 B (o2 + k * 7) (Value.int .i64 rx.k) (Value.int .i64 rx.n) (Value.int .i64 rx.v.k) (Value.int .i64 rx.v.n) (Value.string rx.v.s) (Value.string rx.p) (Value.slice a3 rx.ks.length n3)) := set7o_below hbw3 (by omega) _ _ _ _ _ _ _ _
        have c4 : ∀ b q, b ≠ B → (set7o w3 B (o2 + k * 7) (Value.int .i64 rx.k) (Value.int .i64 rx.n) (Value.int .i64 rx.v.k) (Value.int .i64 rx.v.n) (Value.string rx.v.s) (Value.string rx.p) (Value.slice a3 rx.ks.length n3)).cell? ⟨b, q, none⟩ = w3.cell? ⟨b, q, none⟩ := fun b q hq => cell_blk (hb4 b hq)
        have f4 : ∀ q, (set7o w3 B (o2 + k * 7) (Value.int .i64 rx.k) (Value.int .i64 rx.n) (Value.int .i64 rx.v.k) (Value.int .i64 rx.v.n) (Value.string rx.v.s) (Value.string rx.p) (Value.slice a3 rx.ks.length n3)).frozen? ⟨w.heap.size + 1, q, none⟩ = false := fun q => by simpa using rf3 q
        have hz4 : w2.heap.size < (set7o w3 B (o2 + k * 7) (Value.int .i64 rx.k) (Value.int .i64 rx.n) (Value.int .i64 rx.v.k) (Value.int .i64 rx.v.n) (Value.string rx.v.s) (Value.string rx.p) (Value.slice a3 rx.ks.length n3)).heap.size := by rw [set7o_size]; omega
        have bxe := (c4 w.heap.size 6 (by omega)).trans bxa
        have p0e := (c4 w2.heap.size 0 (fun h => hB5 h.symm)).trans p0a
        have p1e := (c4 w2.heap.size 1 (fun h => hB5 h.symm)).trans p1a
        have p2e := (c4 w2.heap.size 2 (fun h => hB5 h.symm)).trans p2a
        have p3e := (c4 w2.heap.size 3 (fun h => hB5 h.symm)).trans p3a
        have p4e := (c4 w2.heap.size 4 (fun h => hB5 h.symm)).trans p4a
        have p5e := (c4 w2.heap.size 5 (fun h => hB5 h.symm)).trans p5a
        have p6e := (c4 w2.heap.size 6 (fun h => hB5 h.symm)).trans p6a
        have r0e := (c4 (w.heap.size + 1) 0 (by omega)).trans r0a
        have r1e := (c4 (w.heap.size + 1) 1 (by omega)).trans r1a
        have r2e := (c4 (w.heap.size + 1) 2 (by omega)).trans r2a
        have r3e := (c4 (w.heap.size + 1) 3 (by omega)).trans r3a
        have r4e := (c4 (w.heap.size + 1) 4 (by omega)).trans r4a
        have r5e := (c4 (w.heap.size + 1) 5 (by omega)).trans r5a
        have r6e := (c4 (w.heap.size + 1) 6 (by omega)).trans r6a
        clear hE3 hK3 hO3 hb3 hE hOo hOl hOw hHeld hHeld9 rf3 Bf3 rf hBf hGlt c4 hb4 bel3 hbw3 p0 r0 x0 y0 p0a r0a x0a y0a p1 r1 x1 y1 p1a r1a x1a y1a p2 r2 x2 y2 p2a r2a x2a y2a p3 r3 x3 y3 p3a r3a x3a y3a p4 r4 x4 y4 p4a r4a x4a y4a p5 r5 x5 y5 p5a r5a x5a y5a p6 r6 x6 y6 p6a r6a x6a y6a bx bxa
        go_wp2
        exact ⟨⟨k + 1, G.set k g3, hlt, by simp, bxe, p0e, p1e, p2e, p3e, p4e, p5e, p6e, r0e, r1e, r2e, r3e, r4e, r5e, r6e, f4, hE4, by rw [List.length_set]; exact hGl, fun _ => ⟨hO4, hl4⟩, belS, hz4⟩, by simp [intOf]; omega⟩
      · obtain rfl : k = e.ks.length := by omega
        rw [shL_all] at hE
        have hne : ∀ q ∈ B :: G.flatten, e.ks ≠ [] → q ≠ w.heap.size + 1 := fun q hq h => by have := ((hOw h).1.2 q hq).1; omega
        have HK : Hid (∃ F', KidsIs wr (d + 1) (.slice a2 e.ks.length c2) (e.ks.map (shE d s)) F' ∧ Own wr w.heap.size F' ∧ ∀ q ∈ F', q ≠ w.heap.size + 1) := by
          show ∃ F', _
          by_cases h0 : e.ks = []
          · exact ⟨[], ⟨a2, c2, [], by simp [h0], by simp [h0], hc2m, by simp [h0], fun _ => rfl, fun h => absurd (by simp [h0]) h⟩, by simp [Own], by simp⟩
          · obtain ⟨hOo, hOl⟩ := hOw h0
            have hlen : 0 < e.ks.length := List.length_pos_iff.2 h0
            obtain ⟨ha2, _⟩ := hA2 0 hlen
            exact ⟨B :: G.flatten, ⟨a2, c2, G, by simp, by simpa using hl2, hc2m, by simpa using hGl, fun h => absurd (by simpa using h) h0, fun _ => ⟨B, o2, ha2, (hOl B List.mem_cons_self).1, rfl, hE⟩⟩, ⟨hOo.1, fun q hq => ⟨by have := (hOo.2 q hq).1; omega, (hOo.2 q hq).2⟩⟩, fun q hq => hne q hq h0⟩
        clear hE hOw hne ha hA2 hEl hOw0
        go_wp2
        obtain ⟨F', hK', hO', hn'⟩ := HK.out
        have hr2 := hrE.out
        subst hr2
        refine bodyPost_ret (v := .agg #[.int .i64 e.k, .int .i64 e.n, .int .i64 e.v.k, .int .i64 e.v.n, .string e.v.s, .string e.p, .slice a2 e.ks.length c2]) (by simp [results, Try.results37, go_sem, *]) rfl ⟨⟨.slice a2 e.ks.length c2, F', by rfl, hK'.keep (by simp) fun q hq => ?_, hO'.keep fun q hq => ?_⟩, ?_⟩
        · iterate 7 rw [Below.heap_setCell _ _ _ _ (hn' q hq)]
        · iterate 7 rw [Below.heap_setCell _ _ _ _ (hn' q hq)]
        · repeat (first | (with_reducible exact hb) | (with_reducible refine Below.setCell ?_ ?hh _; case hh => (simp; try omega)))
theorem l03Shift_any (s : Int) : ∀ d, LsS s d
  | 0 => fun e u F w r _ h => h.elim
  | d + 1 => l03Shift_step (l03Shift_any s d)
end Go.Proofs.Ytpkebpbflfhbnaa
