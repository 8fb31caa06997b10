/- Own text. The contract of spec.Conj. -/
import Derived.Test.YtjblljggmjbalaaCjP
import Derived.Test.YtjblljggmjbalaaCpE
import Derived.Test.YtjblljggmjbalaaLastE
import Derived.Handy
import Derived.Deep.DrawnRows
import Derived.Deep.AppendLies
namespace Go.Proofs.Ytjblljggmjbalaa
open Go.RowKit Go.Deep Go.ChangeShapes Go.WideShapes
set_option linter.unusedVariables false
attribute [local go_sem ↓] Go.wp_at_zero Go.wp_at_succ
def ConjOut (w : World) (N d : Nat) (v : Value) (es : List E7) : Prop := ∃ us G, ExpOwn w N d v es us G
/-- Conj of an expression whose kids are at most d deep. -/
def CjS (d : Nat) : Prop := ∀ (e : E7) (u : Value) (F : List Nat) (w : World), e.wf → KidsIs w d u e.ks F → wtE e ≤ 1048576 →
    Calls Try.prog 5 #[(.agg #[.int .i64 e.k, .int .i64 e.n, .int .i64 e.v.k, .int .i64 e.v.n, .string e.v.s, .string e.p, u])] w fun x w' => (∃ v, x = .returned v ∧ ConjOut w' w.heap.size d v (conjL d e)) ∧ Below w.heap.size w w'
set_option maxHeartbeats 2000000 in
set_option maxRecDepth 100000 in
theorem specConj_no {d : Nat} {e : E7} {u : Value} {F : List Nat} {w : World} (he : e.wf) (hk : KidsIs w (d + 1) u e.ks F) (hn : wtE e ≤ 1048576) (hA : isAnd e = false) :
    Calls Try.prog 5 #[(.agg #[.int .i64 e.k, .int .i64 e.n, .int .i64 e.v.k, .int .i64 e.v.n, .string e.v.s, .string e.p, u])] w fun x w' => (∃ v, x = .returned v ∧ ConjOut w' w.heap.size (d + 1) v (conjL (d + 1) e)) ∧ Below w.heap.size w w' := by
  rw [conj_one hA]
  obtain ⟨a, c, rfl, hl, hc⟩ := hk.shape
  have hcase : (e.k == 2) = false ∨ ((e.k == 2) = true ∧ (e.p.toList == [97, 110, 100]) = false) ∨ ((e.k == 2) = true ∧ (e.p.toList == [97, 110, 100]) = true ∧ e.ks.length ≠ 2) := by
    unfold isAnd at hA
    cases h1 : e.k == 2
    · exact .inl rfl
    · cases h2 : e.p.toList == [97, 110, 100]
      · exact .inr (.inl ⟨rfl, rfl⟩)
      · refine .inr (.inr ⟨rfl, rfl, fun h => ?_⟩)
        rw [h1, h2, h] at hA
        simp at hA
  have hC : ∀ W, Below w.heap.size w W → Calls Try.prog 15 #[(.agg #[.int .i64 e.k, .int .i64 e.n, .int .i64 e.v.k, .int .i64 e.v.n, .string e.v.s, .string e.p, (.slice a e.ks.length c)])] W fun x w' => (∃ u' F', x = .returned (.agg #[.int .i64 e.k, .int .i64 e.n, .int .i64 e.v.k, .int .i64 e.v.n, .string e.v.s, .string e.p, u']) ∧ KidsIs w' (d + 1) u' e.ks F' ∧ Own w' W.heap.size F') ∧ Below W.heap.size W w' := fun W hW => l03Copy_any (d + 1) e _ F W (hk.below hW) hn
  clear hk hn hA
  rcases hcase with h1 | ⟨h1, h2⟩ | ⟨h1, h2, h3⟩
  · have h1' : decide (e.k = 2) = false := by simpa using h1
    go_enter Try.func5, Try.ntmps5
    go_wp2_with fail
    refine Calls.mono (hC _ ?hb) ?_
    case hb => repeat (first | (with_reducible exact Below.refl _ _) | (with_reducible refine Below.drew ?_) | (with_reducible refine Below.alloc ?_ ?hh _; case hh => first | (simp; done) | (simp; omega) | omega) | (with_reducible refine Below.setCell ?_ ?hh _; case hh => first | (simp; done) | (simp; omega) | omega) | refine bstep (by assumption) (by first | (simp; done) | (simp; omega) | omega) ?_)
    rintro y w2 ⟨⟨u2, g2, rfl, hK2, hO2⟩, hb2⟩
    obtain ⟨a2, c2, rfl, _, _⟩ := hK2.shape
    have hz2 := hb2.size
    simp only [World.size_alloc] at hz2 hO2
    have bel2 : Below w.heap.size w w2 := by repeat (first | (with_reducible exact Below.refl _ _) | (with_reducible refine Below.drew ?_) | (with_reducible refine Below.alloc ?_ ?hh _; case hh => first | (simp; done) | (simp; omega) | omega) | (with_reducible refine Below.setCell ?_ ?hh _; case hh => first | (simp; done) | (simp; omega) | omega) | refine bstep (by assumption) (by first | (simp; done) | (simp; omega) | omega) ?_)
    have HO : ConjOut (w2.alloc (.cells #[.int .i64 e.k, .int .i64 e.n, .int .i64 e.v.k, .int .i64 e.v.n, .string e.v.s, .string e.p, .slice a2 e.ks.length c2] 32)) w.heap.size (d + 1) (.slice (some ⟨w2.heap.size, 0, none⟩) 1 1) [e] := ⟨_, _, ExpOwn.one (by omega) he hK2 ⟨hO2.1, fun b hb => ⟨by have := (hO2.2 b hb).1; omega, (hO2.2 b hb).2⟩⟩⟩
    have belE : Below w.heap.size w (w2.alloc (.cells #[.int .i64 e.k, .int .i64 e.n, .int .i64 e.v.k, .int .i64 e.v.n, .string e.v.s, .string e.p, .slice a2 e.ks.length c2] 32)) := bel2.alloc (by omega) _
    clear hb2 hC hK2 hO2
    go_wp2
    refine bodyPost_ret (v := .slice (some ⟨w2.heap.size, 0, none⟩) 1 1) (by simp [results, Try.results5, go_sem]) rfl ⟨⟨_, rfl, HO⟩, belE⟩
  · have h1' : decide (e.k = 2) = true := by simpa using h1
    go_enter Try.func5, Try.ntmps5
    go_wp2_with fail
    refine Calls.mono (hC _ ?hb) ?_
    case hb => repeat (first | (with_reducible exact Below.refl _ _) | (with_reducible refine Below.drew ?_) | (with_reducible refine Below.alloc ?_ ?hh _; case hh => first | (simp; done) | (simp; omega) | omega) | (with_reducible refine Below.setCell ?_ ?hh _; case hh => first | (simp; done) | (simp; omega) | omega) | refine bstep (by assumption) (by first | (simp; done) | (simp; omega) | omega) ?_)
    rintro y w2 ⟨⟨u2, g2, rfl, hK2, hO2⟩, hb2⟩
    obtain ⟨a2, c2, rfl, _, _⟩ := hK2.shape
    have hz2 := hb2.size
    simp only [World.size_alloc] at hz2 hO2
    have bel2 : Below w.heap.size w w2 := by repeat (first | (with_reducible exact Below.refl _ _) | (with_reducible refine Below.drew ?_) | (with_reducible refine Below.alloc ?_ ?hh _; case hh => first | (simp; done) | (simp; omega) | omega) | (with_reducible refine Below.setCell ?_ ?hh _; case hh => first | (simp; done) | (simp; omega) | omega) | refine bstep (by assumption) (by first | (simp; done) | (simp; omega) | omega) ?_)
    have HO : ConjOut (w2.alloc (.cells #[.int .i64 e.k, .int .i64 e.n, .int .i64 e.v.k, .int .i64 e.v.n, .string e.v.s, .string e.p, .slice a2 e.ks.length c2] 32)) w.heap.size (d + 1) (.slice (some ⟨w2.heap.size, 0, none⟩) 1 1) [e] := ⟨_, _, ExpOwn.one (by omega) he hK2 ⟨hO2.1, fun b hb => ⟨by have := (hO2.2 b hb).1; omega, (hO2.2 b hb).2⟩⟩⟩
    have belE : Below w.heap.size w (w2.alloc (.cells #[.int .i64 e.k, .int .i64 e.n, .int .i64 e.v.k, .int .i64 e.v.n, .string e.v.s, .string e.p, .slice a2 e.ks.length c2] 32)) := bel2.alloc (by omega) _
    clear hb2 hC hK2 hO2
    go_wp2
    refine bodyPost_ret (v := .slice (some ⟨w2.heap.size, 0, none⟩) 1 1) (by simp [results, Try.results5, go_sem]) rfl ⟨⟨_, rfl, HO⟩, belE⟩
  · have h1' : decide (e.k = 2) = true := by simpa using h1
    have h3' : decide ((e.ks.length : Int) = 2) = false := by simp; omega
    have h3b : ((e.ks.length : Int) == 2) = false := by simp; omega
    go_enter Try.func5, Try.ntmps5
    go_wp2_with fail
    refine Calls.mono (hC _ ?hb) ?_
    case hb => repeat (first | (with_reducible exact Below.refl _ _) | (with_reducible refine Below.drew ?_) | (with_reducible refine Below.alloc ?_ ?hh _; case hh => first | (simp; done) | (simp; omega) | omega) | (with_reducible refine Below.setCell ?_ ?hh _; case hh => first | (simp; done) | (simp; omega) | omega) | refine bstep (by assumption) (by first | (simp; done) | (simp; omega) | omega) ?_)
    rintro y w2 ⟨⟨u2, g2, rfl, hK2, hO2⟩, hb2⟩
    obtain ⟨a2, c2, rfl, _, _⟩ := hK2.shape
    have hz2 := hb2.size
    simp only [World.size_alloc] at hz2 hO2
    have bel2 : Below w.heap.size w w2 := by repeat (first | (with_reducible exact Below.refl _ _) | (with_reducible refine Below.drew ?_) | (with_reducible refine Below.alloc ?_ ?hh _; case hh => first | (simp; done) | (simp; omega) | omega) | (with_reducible refine Below.setCell ?_ ?hh _; case hh => first | (simp; done) | (simp; omega) | omega) | refine bstep (by assumption) (by first | (simp; done) | (simp; omega) | omega) ?_)
    have HO : ConjOut (w2.alloc (.cells #[.int .i64 e.k, .int .i64 e.n, .int .i64 e.v.k, .int .i64 e.v.n, .string e.v.s, .string e.p, .slice a2 e.ks.length c2] 32)) w.heap.size (d + 1) (.slice (some ⟨w2.heap.size, 0, none⟩) 1 1) [e] := ⟨_, _, ExpOwn.one (by omega) he hK2 ⟨hO2.1, fun b hb => ⟨by have := (hO2.2 b hb).1; omega, (hO2.2 b hb).2⟩⟩⟩
    have belE : Below w.heap.size w (w2.alloc (.cells #[.int .i64 e.k, .int .i64 e.n, .int .i64 e.v.k, .int .i64 e.v.n, .string e.v.s, .string e.p, .slice a2 e.ks.length c2] 32)) := bel2.alloc (by omega) _
    clear hb2 hC hK2 hO2
    go_wp2
    refine bodyPost_ret (v := .slice (some ⟨w2.heap.size, 0, none⟩) 1 1) (by simp [results, Try.results5, go_sem]) rfl ⟨⟨_, rfl, HO⟩, belE⟩
theorem two_lt' {l : List E7} {a b : E7} (h : l = [a, b]) : 0 < l.length ∧ 1 < l.length := by subst h; simp
set_option maxHeartbeats 4000000 in
set_option maxRecDepth 100000 in
theorem specConj_and {d : Nat} (ih : CjS d) {e : E7} {u : Value} {F : List Nat} {w : World} (he : e.wf) (hk : KidsIs w (d + 1) u e.ks F) (hn : wtE e ≤ 1048576) (hA : isAnd e = true) :
    Calls Try.prog 5 #[(.agg #[.int .i64 e.k, .int .i64 e.n, .int .i64 e.v.k, .int .i64 e.v.n, .string e.v.s, .string e.p, u])] w fun x w' => (∃ v, x = .returned v ∧ ConjOut w' w.heap.size (d + 1) v (conjL (d + 1) e)) ∧ Below w.heap.size w w' := by
  obtain ⟨x, z, hx⟩ := isAnd_two hA
  rw [conj_two hA hx]
  obtain ⟨i0, hi, hz0, hz1', hz2'⟩ := info_parts Try.infoExp
  obtain ⟨a, c, b, o, G, rfl, hl, hc, hG, _, ha⟩ := hk.pick
  obtain ⟨rfl, hblt, _, hL⟩ := ha 0 (two_lt' hx).1
  obtain ⟨x', g, ux, hx', hg, hxw, ⟨c0, c1, c2, c3, c4, c5⟩, c6, hKx, hbr⟩ := hL.at hG hblt (Below.refl _ _) (k := 0) (two_lt' hx).1
  obtain rfl : x = x' := by rw [hx] at hx'; simpa using hx'
  obtain ⟨ax, cx, rfl, _, _⟩ := hKx.shape
  obtain ⟨z', g', uz, hz', hg', hzw, ⟨d0, d1, d2, d3, d4, d5⟩, d6, hKz, _⟩ := hL.at hG hblt (Below.refl _ _) (k := 1) (two_lt' hx).2
  obtain rfl : z = z' := by rw [hx] at hz'; simpa using hz'
  obtain ⟨az, cz, rfl, _, _⟩ := hKz.shape
  have h3 := and_wt hx
  have hxn : wtE x ≤ 1048576 := by omega
  have hzn : wtE z ≤ 1048576 := by omega
  have hwx := conj_wt d x
  have hwz := conj_wt d z
  unfold wt1 at hwx hwz
  have hml : (conjL d x).length + (conjL d z).length ≤ maxLen := by unfold maxLen; omega
  have hby : ((conjL d x).length + (conjL d z).length) * 88 ≤ 140737488355328 := by omega
  have hlen : e.ks.length = 2 := by rw [hx]; rfl
  have h12 : e.k = 2 ∧ (e.p.toList == [97, 110, 100]) = true := by unfold isAnd at hA; simp only [Bool.and_eq_true] at hA; exact ⟨by simpa using hA.1, hA.2.1⟩
  obtain ⟨h0, hp⟩ := h12
  unfold maxLen at hc
  rw [h0, hlen]
  simp only [Nat.zero_mul, Nat.one_mul, Nat.add_zero, Nat.add_assoc, Nat.reduceAdd] at c0 c1 c2 c3 c4 c5 c6 d0 d1 d2 d3 d4 d5 d6
  have ih : ∀ (e : E7) (u : Value) (F : List Nat) (w : World), e.wf → KidsIs w d u e.ks F → wtE e ≤ 1048576 →
    Calls Try.prog 5 #[(.agg #[.int .i64 e.k, .int .i64 e.n, .int .i64 e.v.k, .int .i64 e.v.n, .string e.v.s, .string e.p, u])] w fun x w' => (∃ v, x = .returned v ∧ ConjOut w' w.heap.size d v (conjL d e)) ∧ Below w.heap.size w w' := ih
  clear hk ha hL hx hx' hz' h0 hlen hl hG hg hg' hA h3 hwx hwz hn he
  go_enter Try.func5, Try.ntmps5
  go_wp2_with fail
  refine startE 11 (fun w' => w'.cell? ⟨w.heap.size, 6, none⟩ = some (.slice (some ⟨b, o, none⟩) 2 c) ∧ w'.cell? ⟨b, o, none⟩ = some (.int .i64 x.k) ∧ w'.cell? ⟨b, o + 1, none⟩ = some (.int .i64 x.n) ∧ w'.cell? ⟨b, o + 2, none⟩ = some (.int .i64 x.v.k) ∧ w'.cell? ⟨b, o + 3, none⟩ = some (.int .i64 x.v.n) ∧ w'.cell? ⟨b, o + 4, none⟩ = some (.string x.v.s) ∧ w'.cell? ⟨b, o + 5, none⟩ = some (.string x.p) ∧ w'.cell? ⟨b, o + 6, none⟩ = some (.slice ax x.ks.length cx) ∧ w'.cell? ⟨b, o + 7, none⟩ = some (.int .i64 z.k) ∧ w'.cell? ⟨b, o + 8, none⟩ = some (.int .i64 z.n) ∧ w'.cell? ⟨b, o + 9, none⟩ = some (.int .i64 z.v.k) ∧ w'.cell? ⟨b, o + 10, none⟩ = some (.int .i64 z.v.n) ∧ w'.cell? ⟨b, o + 11, none⟩ = some (.string z.v.s) ∧ w'.cell? ⟨b, o + 12, none⟩ = some (.string z.p) ∧ w'.cell? ⟨b, o + 13, none⟩ = some (.slice az z.ks.length cz)) (by kernel_rfl) ?_ (fun hHeld => ?_)
  · (try dsimp only)
    exact ⟨by go_simp, (cell_blk (Below.heap_alloc w _ _ hblt)).trans c0, (cell_blk (Below.heap_alloc w _ _ hblt)).trans c1, (cell_blk (Below.heap_alloc w _ _ hblt)).trans c2, (cell_blk (Below.heap_alloc w _ _ hblt)).trans c3, (cell_blk (Below.heap_alloc w _ _ hblt)).trans c4, (cell_blk (Below.heap_alloc w _ _ hblt)).trans c5, (cell_blk (Below.heap_alloc w _ _ hblt)).trans c6, (cell_blk (Below.heap_alloc w _ _ hblt)).trans d0, (cell_blk (Below.heap_alloc w _ _ hblt)).trans d1, (cell_blk (Below.heap_alloc w _ _ hblt)).trans d2, (cell_blk (Below.heap_alloc w _ _ hblt)).trans d3, (cell_blk (Below.heap_alloc w _ _ hblt)).trans d4, (cell_blk (Below.heap_alloc w _ _ hblt)).trans d5, (cell_blk (Below.heap_alloc w _ _ hblt)).trans d6⟩
  refine takeE (i := 0) (d := 17) (v := ?_) rfl rfl (by kernel_rfl) (by kernel_rfl) (by kernel_rfl) (by kernel_rfl) (fun _ _ _ h => h) (by rfl) (by assumption) ?_ ?_
  rotate_left
  · intro w' hSw; (try dsimp only at hSw); go_simp; try exact rfl
  try simp only [List.setIfInBounds_toArray, List.set_cons_zero, List.set_cons_succ]
  refine takeE (i := 1) (d := 18) (v := ?_) rfl rfl (by kernel_rfl) (by kernel_rfl) (by kernel_rfl) (by kernel_rfl) (fun _ _ _ h => h) (by rfl) (by assumption) ?_ ?_
  rotate_left
  · intro w' hSw; (try dsimp only at hSw); go_simp; try exact rfl
  try simp only [List.setIfInBounds_toArray, List.set_cons_zero, List.set_cons_succ]
  refine takeE (i := 2) (d := 19) (v := ?_) rfl rfl (by kernel_rfl) (by kernel_rfl) (by kernel_rfl) (by kernel_rfl) (fun _ _ _ h => h) (by rfl) (by assumption) ?_ ?_
  rotate_left
  · intro w' hSw; (try dsimp only at hSw); go_simp; try exact rfl
  try simp only [List.setIfInBounds_toArray, List.set_cons_zero, List.set_cons_succ]
  refine takeE (i := 3) (d := 20) (v := ?_) rfl rfl (by kernel_rfl) (by kernel_rfl) (by kernel_rfl) (by kernel_rfl) (fun _ _ _ h => h) (by rfl) (by assumption) ?_ ?_
  rotate_left
  · intro w' hSw; (try dsimp only at hSw); go_simp; try exact rfl
  try simp only [List.setIfInBounds_toArray, List.set_cons_zero, List.set_cons_succ]
  refine takeE (i := 5) (d := 22) (v := ?_) rfl rfl (by kernel_rfl) (by kernel_rfl) (by kernel_rfl) (by kernel_rfl) (fun _ _ _ h => h) (by rfl) (by assumption) ?_ ?_
  rotate_left
  · intro w' hSw; (try dsimp only at hSw); go_simp; try exact rfl
  try simp only [List.setIfInBounds_toArray, List.set_cons_zero, List.set_cons_succ]
  refine takeE (i := 6) (d := 23) (v := ?_) rfl rfl (by kernel_rfl) (by kernel_rfl) (by kernel_rfl) (by kernel_rfl) (fun _ _ _ h => h) (by rfl) (by assumption) ?_ ?_
  rotate_left
  · intro w' hSw; (try dsimp only at hSw); go_simp; try exact rfl
  try simp only [List.setIfInBounds_toArray, List.set_cons_zero, List.set_cons_succ]
  refine takeE (i := 7) (d := 24) (v := ?_) rfl rfl (by kernel_rfl) (by kernel_rfl) (by kernel_rfl) (by kernel_rfl) (fun _ _ _ h => h) (by rfl) (by assumption) ?_ ?_
  rotate_left
  · intro w' hSw; (try dsimp only at hSw); go_simp; try exact rfl
  try simp only [List.setIfInBounds_toArray, List.set_cons_zero, List.set_cons_succ]
  refine takeE (i := 8) (d := 25) (v := ?_) rfl rfl (by kernel_rfl) (by kernel_rfl) (by kernel_rfl) (by kernel_rfl) (fun _ _ _ h => h) (by rfl) (by assumption) ?_ ?_
  rotate_left
  · intro w' hSw; (try dsimp only at hSw); go_simp; try exact rfl
  try simp only [List.setIfInBounds_toArray, List.set_cons_zero, List.set_cons_succ]
  refine oneE (i := 4) (by kernel_rfl) rfl (fun K hK => ?_)
  go_simp
  go_at_call 5
  refine Calls.mono (ih x (.slice ax x.ks.length cx) g _ hxw (hKx.below ?hbb) hxn) ?_
  case hbb => repeat (first | (with_reducible exact Below.refl _ _) | (with_reducible refine Below.drew ?_) | (with_reducible refine Below.alloc ?_ ?hh _; case hh => first | (simp; done) | (simp; omega) | omega) | (with_reducible refine Below.setCell ?_ ?hh _; case hh => first | (simp; done) | (simp; omega) | omega) | refine bstep (by assumption) (by first | (simp; done) | (simp; omega) | omega) ?_)
  rintro y2 w2 ⟨⟨v2, rfl, us2, G2, hE2⟩, hb2⟩
  have hz2 := hb2.size
  (try simp at hz2)
  (try simp at hE2)
  have bel2 : Below w.heap.size w w2 := by repeat (first | (with_reducible exact Below.refl _ _) | (with_reducible refine Below.drew ?_) | (with_reducible refine Below.alloc ?_ ?hh _; case hh => first | (simp; done) | (simp; omega) | omega) | (with_reducible refine Below.setCell ?_ ?hh _; case hh => first | (simp; done) | (simp; omega) | omega) | refine bstep (by assumption) (by first | (simp; done) | (simp; omega) | omega) ?_)
  have bx2 : w2.cell? ⟨w.heap.size, 6, none⟩ = some (.slice (some ⟨b, o, none⟩) 2 c) := cell_later hb2 (by go_simp)
  obtain ⟨av2, cv2, hv2⟩ := hE2.shape
  subst hv2
  try go_wp2_with fail
  refine hK.out _ _ ?_ (fun hHeld4 => ?_)
  · intro _
    (try dsimp only)
    exact ⟨bx2, ((bcell bel2).1 b _ hblt).trans c0, ((bcell bel2).1 b _ hblt).trans c1, ((bcell bel2).1 b _ hblt).trans c2, ((bcell bel2).1 b _ hblt).trans c3, ((bcell bel2).1 b _ hblt).trans c4, ((bcell bel2).1 b _ hblt).trans c5, ((bcell bel2).1 b _ hblt).trans c6, ((bcell bel2).1 b _ hblt).trans d0, ((bcell bel2).1 b _ hblt).trans d1, ((bcell bel2).1 b _ hblt).trans d2, ((bcell bel2).1 b _ hblt).trans d3, ((bcell bel2).1 b _ hblt).trans d4, ((bcell bel2).1 b _ hblt).trans d5, ((bcell bel2).1 b _ hblt).trans d6⟩
  clear hK
  replace hHeld4 := hHeld4 (by decide)
  try simp only [List.setIfInBounds_toArray, List.set_cons_zero, List.set_cons_succ]
  refine oneE (i := 9) (by kernel_rfl) rfl (fun K hK => ?_)
  go_simp
  go_at_call 5
  refine Calls.mono (ih z (.slice az z.ks.length cz) g' _ hzw (hKz.below ?hbb) hzn) ?_
  case hbb => repeat (first | (with_reducible exact Below.refl _ _) | (with_reducible refine Below.drew ?_) | (with_reducible refine Below.alloc ?_ ?hh _; case hh => first | (simp; done) | (simp; omega) | omega) | (with_reducible refine Below.setCell ?_ ?hh _; case hh => first | (simp; done) | (simp; omega) | omega) | refine bstep (by assumption) (by first | (simp; done) | (simp; omega) | omega) ?_)
  rintro y3 w3 ⟨⟨v3, rfl, us3, G3, hE3⟩, hb3⟩
  have hz3 := hb3.size
  (try simp at hz3)
  (try simp at hE3)
  have bel3 : Below w.heap.size w w3 := by repeat (first | (with_reducible exact Below.refl _ _) | (with_reducible refine Below.drew ?_) | (with_reducible refine Below.alloc ?_ ?hh _; case hh => first | (simp; done) | (simp; omega) | omega) | (with_reducible refine Below.setCell ?_ ?hh _; case hh => first | (simp; done) | (simp; omega) | omega) | refine bstep (by assumption) (by first | (simp; done) | (simp; omega) | omega) ?_)
  have bx3 : w3.cell? ⟨w.heap.size, 6, none⟩ = some (.slice (some ⟨b, o, none⟩) 2 c) := ((bcell hb3).1 _ _ (by omega)).trans bx2
  obtain ⟨av3, cv3, hv3⟩ := hE3.shape
  subst hv3
  try go_wp2_with fail
  refine hK.out _ _ ?_ (fun hHeld9 => ?_)
  · intro _
    (try dsimp only)
    exact ⟨bx3, ((bcell bel3).1 b _ hblt).trans c0, ((bcell bel3).1 b _ hblt).trans c1, ((bcell bel3).1 b _ hblt).trans c2, ((bcell bel3).1 b _ hblt).trans c3, ((bcell bel3).1 b _ hblt).trans c4, ((bcell bel3).1 b _ hblt).trans c5, ((bcell bel3).1 b _ hblt).trans c6, ((bcell bel3).1 b _ hblt).trans d0, ((bcell bel3).1 b _ hblt).trans d1, ((bcell bel3).1 b _ hblt).trans d2, ((bcell bel3).1 b _ hblt).trans d3, ((bcell bel3).1 b _ hblt).trans d4, ((bcell bel3).1 b _ hblt).trans d5, ((bcell bel3).1 b _ hblt).trans d6⟩
  clear hK
  replace hHeld9 := hHeld9 (by decide)
  try simp only [List.setIfInBounds_toArray, List.set_cons_zero, List.set_cons_succ]
  refine oneE (i := 10) (by kernel_rfl) rfl (fun K hK => ?_)
  have hE23 := hE2.below hb3
  obtain ⟨g3, cap3, hv3', hg3, hgl3, hcp3, hcm3, hcl3⟩ := hE3.cells (conj_pos d z)
  injection hv3' with e1 _ e3
  subst e1 e3
  refine step_append_lies _ (by rfl) _ _ _ (by rfl) (w.heap.size + 1) 32 i0 _ 7 88 Try.underlying28 hi hz0 hz1' hz2' rfl (by omega) (.slice av2 (conjL d x).length cv2) (conjL d x).length (ec us2 (conjL d x)) (by rfl) hE23.own ⟨g3, 0, none⟩ (conjL d z).length cv3 (ec us3 (conjL d z)) (by rfl) (ec_len' hE3.ul) (fun j u hu => by rw [add_plain, Nat.zero_add]; exact hcl3 j u hu) (hE3.ones hE3.slices) (List.length_pos_iff.2 (conj_pos d z)) hml hby (by omega) w3.heap.size rfl ?_
  intro gg cap w4 hown4 hgrow hat hlt4
  have hz4 := hgrow.size
  have far : ∀ b q, b < w3.heap.size → (Value.slice av2 (conjL d x).length cv2).ownBlock ≠ some b → w4.cell? ⟨b, q, none⟩ = w3.cell? ⟨b, q, none⟩ := fun b q hb hne => hgrow.cell_far _ hb (Ne.symm hne)
  have hvx : ∀ q, (Value.slice av2 (conjL d x).length cv2).ownBlock = some q → w.heap.size + 1 ≤ q ∧ q < w2.heap.size := fun q hq => ownsE_lt hE2.own q hq
  have hEA := hE23.append (v' := .slice (some ⟨gg, 0, none⟩) ((conjL d x).length + (conjL d z).length) cap) hE3 (by omega) hE2.lt (fun q hq => (hvx q hq).2) hown4 hgrow (fun q hq => by simp [Value.ownBlock] at hq; subst hq; rcases hat with h | h; exact .inl h; exact .inr (by omega))
  have bel4 : Below w.heap.size w w4 := Below.grown bel3 hgrow (by omega) (fun q hq => by have := (hvx q hq).1; omega)
  have bx4 := (far w.heap.size 6 (by omega) (fun hq => by have := (hvx _ hq).1; omega)).trans bx3
  have fb : ∀ q, w4.cell? ⟨b, q, none⟩ = w3.cell? ⟨b, q, none⟩ := fun q => far b q (by omega) (fun hq => by have := (hvx _ hq).1; omega)
  refine hK.out _ _ ?_ (fun hHeld10 => ?_)
  · intro _
    (try dsimp only)
    exact ⟨bx4, (fb _).trans (((bcell bel3).1 b _ hblt).trans c0), (fb _).trans (((bcell bel3).1 b _ hblt).trans c1), (fb _).trans (((bcell bel3).1 b _ hblt).trans c2), (fb _).trans (((bcell bel3).1 b _ hblt).trans c3), (fb _).trans (((bcell bel3).1 b _ hblt).trans c4), (fb _).trans (((bcell bel3).1 b _ hblt).trans c5), (fb _).trans (((bcell bel3).1 b _ hblt).trans c6), (fb _).trans (((bcell bel3).1 b _ hblt).trans d0), (fb _).trans (((bcell bel3).1 b _ hblt).trans d1), (fb _).trans (((bcell bel3).1 b _ hblt).trans d2), (fb _).trans (((bcell bel3).1 b _ hblt).trans d3), (fb _).trans (((bcell bel3).1 b _ hblt).trans d4), (fb _).trans (((bcell bel3).1 b _ hblt).trans d5), (fb _).trans (((bcell bel3).1 b _ hblt).trans d6)⟩
  clear hK
  replace hHeld10 := hHeld10 (by decide)
  try simp only [List.setIfInBounds_toArray, List.set_cons_zero, List.set_cons_succ]
  refine oneE (i := 11) (by kernel_rfl) rfl (fun K hK => ?_)
  go_simp
  refine hK.out _ _ ?_ (fun hHeld11 => ?_)
  · exact fun h => absurd rfl h
  clear hK hHeld11
  try simp only [List.setIfInBounds_toArray, List.set_cons_zero, List.set_cons_succ]
  refine doneE (by kernel_rfl) ?_ _
  have HO : ConjOut w4 w.heap.size (d + 1) (.slice (some ⟨gg, 0, none⟩) ((conjL d x).length + (conjL d z).length) cap) (conjL d x ++ conjL d z) := ⟨_, _, (hEA.up (by omega)).weak (by omega)⟩
  clear hown4 hgrow hat far hEA hE23 hE2 hE3 hb2 hb3 hHeld hHeld4 hHeld9 hHeld10 ih hcl3 fb hvx
  go_wp2
  refine bodyPost_ret (v := .slice (some ⟨gg, 0, none⟩) ((conjL d x).length + (conjL d z).length) cap) (by simp [results, Try.results5, go_sem]) rfl ⟨⟨_, rfl, HO⟩, bel4⟩
theorem specConj_any : ∀ d, CjS d
  | 0 => fun e u F w _ h => h.elim
  | d + 1 => fun e u F w he hk hn => by
    cases h : isAnd e with
    | false => exact specConj_no he hk hn h
    | true => exact specConj_and (specConj_any d) he hk hn h
end Go.Proofs.Ytjblljggmjbalaa
