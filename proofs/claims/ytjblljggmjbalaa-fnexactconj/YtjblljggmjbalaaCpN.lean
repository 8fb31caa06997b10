/- Own text. The contracts of impl.copyNodes and impl.copyExp: a copy of an expression, and the list of what stands in it. -/
import Derived.Test.YtjblljggmjbalaaCpL
import Derived.Handy
namespace Go.Proofs.Ytjblljggmjbalaa
open Go.RowKit Go.Deep Go.ChangeShapes Go.WideShapes
set_option linter.unusedVariables false
set_option maxHeartbeats 1000000 in
set_option maxRecDepth 100000 in
theorem copyNodes_any (D : Nat) (P : E7 → Prop) (hP : ∀ e, P e → ∀ k ∈ e.ks, P k) (e : E7) (u : Value) (F : List Nat) (w : World) (he : e.wf) (hPe : P e) (hk : KidsIs w (D + 1) u e.ks F) (hd : (F.Nodup ∧ ∀ b ∈ F, Fr w b) ∨ cntE e ≤ 8191) (hn : wtE e ≤ 2097152) :
    Calls Try.prog 21 #[(.agg #[.int .i64 e.k, .int .i64 e.n, .int .i64 e.v.k, .int .i64 e.v.n, .string e.v.s, .string e.p, u])] w fun x w' => (∃ v w0, x = .returned v ∧ w.heap.size < w0.heap.size ∧ CpOut w0 D P e w' v) ∧ Below w.heap.size w w' := by
  obtain ⟨a, c, rfl, hl, hc⟩ := hk.shape
  go_enter Try.func21, Try.ntmps21
  go_wp2_with fail
  have hb0 : Below w.heap.size w (w.alloc (.cells #[.int .i64 e.k, .int .i64 e.n, .int .i64 e.v.k, .int .i64 e.v.n, .string e.v.s, .string e.p, .slice a e.ks.length c] 32)) := by repeat (first | (with_reducible exact Below.refl _ _) | (with_reducible refine Below.drew ?_) | (with_reducible refine Below.alloc ?_ ?hh _; case hh => first | (simp; done) | (simp; omega) | omega) | (with_reducible refine Below.setCell ?_ ?hh _; case hh => first | (simp; done) | (simp; omega) | omega) | refine bstep (by assumption) (by first | (simp; done) | (simp; omega) | omega) ?_)
  have hd' : (F.Nodup ∧ ∀ b ∈ F, Fr (w.alloc (.cells #[.int .i64 e.k, .int .i64 e.n, .int .i64 e.v.k, .int .i64 e.v.n, .string e.v.s, .string e.p, .slice a e.ks.length c] 32)) b) ∨ cntE e ≤ 8191 := by
    rcases hd with h | h
    · exact .inl ⟨h.1, fun b hb => (h.2 b hb).keep (hb0.block b (hk.lt b hb))⟩
    · exact .inr h
  refine Calls.mono (copyPlaces_any D P hP e (.slice a e.ks.length c) F _ (by simp) he hPe (hk.below hb0) hd' hn) ?_
  rintro x w1 ⟨⟨v1, rfl, hO⟩, hb1⟩
  have hz1 := hb1.size
  simp only [World.size_alloc] at hz1
  have HO : Hid (CpOut _ D P e w1 v1) := hO
  obtain ⟨ns, hang, hown, _⟩ := hO
  obtain ⟨av, cv, rfl⟩ : ∃ av cv, v1 = .slice av ns.length cv := by
    rcases hown.2 with ⟨h, h0⟩ | ⟨g, cap, cur, h, _⟩
    · exact ⟨none, 0, by rw [h0]; exact h⟩
    · exact ⟨_, cap, h⟩
  clear hown hd hd'
  go_wp2_with fail
  go_returns
  exact ⟨⟨_, _, rfl, by simp, HO.out⟩, by repeat (first | (with_reducible exact Below.refl _ _) | (with_reducible refine Below.drew ?_) | (with_reducible refine Below.alloc ?_ ?hh _; case hh => first | (simp; done) | (simp; omega) | omega) | (with_reducible refine Below.setCell ?_ ?hh _; case hh => first | (simp; done) | (simp; omega) | omega) | refine bstep (by assumption) (by first | (simp; done) | (simp; omega) | omega) ?_)⟩
/-- every expression is closed under itself. -/
theorem RE.own {w w' : World} {D : Nat} {hang : Nat → Nat × Nat} {P : E7 → Prop} {ns : List Nd} {d j : Nat} {x : Nd} {u : Value} (hN : 0 < w.heap.size) (h : NQ w D hang P w' ns.length ns) (hx : ns[j]? = some x) (hd : DE d x.e.ks) (hu : w'.cell? ⟨x.b, x.o + 6, none⟩ = some u) : ∃ F, KidsIs w' d u x.e.ks F ∧ Own w' w.heap.size F ∧ ∀ c ∈ F, Hangs hang c (x.b, x.o + 6) :=
  KidsU.kids h.dn hN (h.kids hx hd hu)
set_option maxHeartbeats 2000000 in
set_option maxRecDepth 100000 in
theorem copyExp_any (D : Nat) (e : E7) (u : Value) (F : List Nat) (w : World) (he : e.wf) (hk : KidsIs w (D + 1) u e.ks F) (hd : (F.Nodup ∧ ∀ b ∈ F, Fr w b) ∨ cntE e ≤ 8191) (hn : wtE e ≤ 2097152) :
    Calls Try.prog 18 #[(.agg #[.int .i64 e.k, .int .i64 e.n, .int .i64 e.v.k, .int .i64 e.v.n, .string e.v.s, .string e.p, u])] w fun x w' => (∃ u' F', x = .returned (.agg #[.int .i64 e.k, .int .i64 e.n, .int .i64 e.v.k, .int .i64 e.v.n, .string e.v.s, .string e.p, u']) ∧ KidsIs w' (D + 1) u' e.ks F' ∧ Own w' w.heap.size F') ∧ Below w.heap.size w w' := by
  obtain ⟨a, c, rfl, hl, hc⟩ := id hk.shape
  have hde := hk.re.de
  go_enter Try.func18, Try.ntmps18
  go_wp2_with fail
  have hb0 : Below w.heap.size w ((w.alloc (.cells #[.int .i64 e.k, .int .i64 e.n, .int .i64 e.v.k, .int .i64 e.v.n, .string e.v.s, .string e.p, .slice a e.ks.length c] 32)).alloc (.cells #[.int .i64 0, .int .i64 0, .int .i64 0, .int .i64 0, .string ⟨#[]⟩, .string ⟨#[]⟩, .slice none 0 0] 32)) := by repeat (first | (with_reducible exact Below.refl _ _) | (with_reducible refine Below.drew ?_) | (with_reducible refine Below.alloc ?_ ?hh _; case hh => first | (simp; done) | (simp; omega) | omega) | (with_reducible refine Below.setCell ?_ ?hh _; case hh => first | (simp; done) | (simp; omega) | omega) | refine bstep (by assumption) (by first | (simp; done) | (simp; omega) | omega) ?_)
  have hd' : (F.Nodup ∧ ∀ b ∈ F, Fr ((w.alloc (.cells #[.int .i64 e.k, .int .i64 e.n, .int .i64 e.v.k, .int .i64 e.v.n, .string e.v.s, .string e.p, .slice a e.ks.length c] 32)).alloc (.cells #[.int .i64 0, .int .i64 0, .int .i64 0, .int .i64 0, .string ⟨#[]⟩, .string ⟨#[]⟩, .slice none 0 0] 32)) b) ∨ cntE e ≤ 8191 := by
    rcases hd with h | h
    · exact .inl ⟨h.1, fun b hb => (h.2 b hb).keep (hb0.block b (hk.lt b hb))⟩
    · exact .inr h
  refine Calls.mono (copyNodes_any D (fun _ => True) (fun _ _ _ _ => trivial) e (.slice a e.ks.length c) F _ he trivial (hk.below hb0) hd' hn) ?_
  rintro x w1 ⟨⟨v1, w0, rfl, hw0, ns, hang, hown, h0, hQ, hdis, hlen⟩, hb1⟩
  have hz1 := hb1.size
  simp only [World.size_alloc] at hz1 hw0
  obtain ⟨g, cap, rfl, _, hn0, hcap, hcm, hgl, hgN, hp⟩ := pts_read hown h0
  obtain ⟨⟨xw, xP, xN, xl, xf, xo⟩, ⟨x0, x1, x2, x3, x4, x5⟩, uu, xu, _, _⟩ := hQ.at' 0 _ h0
  obtain ⟨F', hK', hO', hH'⟩ := RE.own (by omega) hQ h0 hde xu
  obtain ⟨au, cu, rfl, hul, huc⟩ := hK'.shape
  unfold maxLen at hcm
  have bel1 : Below w.heap.size w w1 := by repeat (first | (with_reducible exact Below.refl _ _) | (with_reducible refine Below.drew ?_) | (with_reducible refine Below.alloc ?_ ?hh _; case hh => first | (simp; done) | (simp; omega) | omega) | (with_reducible refine Below.setCell ?_ ?hh _; case hh => first | (simp; done) | (simp; omega) | omega) | refine bstep (by assumption) (by first | (simp; done) | (simp; omega) | omega) ?_)
  have r0 : w1.cell? ⟨w.heap.size + 1, 0, none⟩ = some (.int .i64 0) := cell_later hb1 (by go_simp)
  have r1 : w1.cell? ⟨w.heap.size + 1, 1, none⟩ = some (.int .i64 0) := cell_later hb1 (by go_simp)
  have r2 : w1.cell? ⟨w.heap.size + 1, 2, none⟩ = some (.int .i64 0) := cell_later hb1 (by go_simp)
  have r3 : w1.cell? ⟨w.heap.size + 1, 3, none⟩ = some (.int .i64 0) := cell_later hb1 (by go_simp)
  have r4 : w1.cell? ⟨w.heap.size + 1, 4, none⟩ = some (.string ⟨#[]⟩) := cell_later hb1 (by go_simp)
  have r5 : w1.cell? ⟨w.heap.size + 1, 5, none⟩ = some (.string ⟨#[]⟩) := cell_later hb1 (by go_simp)
  have r6 : w1.cell? ⟨w.heap.size + 1, 6, none⟩ = some (.slice none 0 0) := cell_later hb1 (by go_simp)
  have rf : ∀ q, w1.frozen? ⟨w.heap.size + 1, q, none⟩ = false := fun q => ((bcell hb1).2 _ q (by simp)).trans (by go_simp)
  have hy1 : w.heap.size + 1 < w1.heap.size := by omega
  have hne : ∀ b ∈ F', b ≠ w.heap.size + 1 := fun b hb => by have := (hO'.2 b hb).1; omega
  dsimp only at x0 x1 x2 x3 x4 x5 xu xl
  obtain ⟨B0, hB0⟩ : ∃ z, z = w0.heap.size := ⟨_, rfl⟩
  rw [← hB0] at x0 x1 x2 x3 x4 x5 xu xl hp hw0 hO'
  clear hb1 hQ hdis hH' hown h0 xf hk hd hd' hb0 hB0
  go_wp2
  refine bodyPost_ret (v := (.agg #[.int .i64 e.k, .int .i64 e.n, .int .i64 e.v.k, .int .i64 e.v.n, .string e.v.s, .string e.p, (.slice au e.ks.length cu)])) (by simp [results, Try.results18, go_sem, *]) rfl ⟨⟨_, F', rfl, hK'.keep (by simp) fun b hb => ?_, Own.keep ⟨hO'.1, fun b hb => ⟨by have := (hO'.2 b hb).1; omega, (hO'.2 b hb).2⟩⟩ fun b hb => ?_⟩, ?_⟩
  · repeat rw [Below.heap_setCell _ _ _ _ (hne b hb)]
  · repeat rw [Below.heap_setCell _ _ _ _ (hne b hb)]
  · repeat (first | (with_reducible exact bel1) | (with_reducible refine Below.setCell ?_ ?hh _; case hh => (simp; try omega)))
end Go.Proofs.Ytjblljggmjbalaa
