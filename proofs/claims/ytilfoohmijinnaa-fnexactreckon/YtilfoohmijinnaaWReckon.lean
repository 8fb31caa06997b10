/- Own text. The walk: For every argument, whatever memory it lies in, the statement's function on Reckon returns true, and each argument reads afterwards as it read before; no condition. -/
import Derived.Test.YtilfoohmijinnaaRJ
import Derived.Test.YtilfoohmijinnaaEqV
import Derived.WalkKit
import Derived.WalkSpells
import Derived.WalkLawsBesides
import Derived.Handy
import Derived.Below
import Derived.Deep.RegionHeld3
import Derived.Deep.DeepCutAuto
namespace Go.Proofs.Ytilfoohmijinnaa.fnExactReckon
open Go.RowKit
set_option linter.unusedVariables false
theorem al1 {X : World} {p : Addr} {v : Value} (o : Obj) (h : X.cell? p = some v) : (X.alloc o).cell? p = some v := by
  rw [World.cell?_alloc_lt _ _ _ (World.block_lt_of_cell? X p h)]; exact h
theorem al1d {X : World} {p : Addr} {v : Value} (o : Obj) (h : X.drew.cell? p = some v) : (X.alloc o).drew.cell? p = some v := al1 o h
theorem al3d {X : World} {p : Addr} {v : Value} (o1 o2 o3 : Obj) (h : X.drew.cell? p = some v) : (((X.alloc o1).alloc o2).alloc o3).drew.cell? p = some v := al1 o3 (al1 o2 (al1 o1 h))
theorem st3 {X : World} {p : Addr} {v x y z : Value} {g0 : Nat} (B : Nat) (h : X.cell? p = some v) (h1 : p.block < B) (h2 : B ≤ g0) : (((X.setCell ⟨g0, 0, none⟩ x).setCell ⟨g0, 1, none⟩ y).setCell ⟨g0, 2, none⟩ z).cell? p = some v := by
  rw [World.cell?_setCell_far _ _ _ _ (show g0 ≠ p.block by omega), World.cell?_setCell_far _ _ _ _ (show g0 ≠ p.block by omega), World.cell?_setCell_far _ _ _ _ (show g0 ≠ p.block by omega)]
  exact h
theorem dr {X : World} {p : Addr} {v : Value} (h : X.cell? p = some v) : X.drew.cell? p = some v := h
theorem nw0 (X : World) (c0 c1 c2 : Value) (t : TypeId) : (X.alloc (.cells #[c0, c1, c2] t)).cell? ⟨X.heap.size, 0, none⟩ = some c0 := by simp
theorem nw1 (X : World) (c0 c1 c2 : Value) (t : TypeId) : (X.alloc (.cells #[c0, c1, c2] t)).cell? ⟨X.heap.size, 1, none⟩ = some c1 := by simp
theorem nw2 (X : World) (c0 c1 c2 : Value) (t : TypeId) : (X.alloc (.cells #[c0, c1, c2] t)).cell? ⟨X.heap.size, 2, none⟩ = some c2 := by simp
theorem same3 {X : World} {x y z u0 u1 u2 : Value} {g0 : Nat} (h0 : X.cell? ⟨g0, 0, none⟩ = some u0) (h1 : X.cell? ⟨g0, 1, none⟩ = some u1) (h2 : X.cell? ⟨g0, 2, none⟩ = some u2) :
    (((X.setCell ⟨g0, 0, none⟩ x).setCell ⟨g0, 1, none⟩ y).setCell ⟨g0, 2, none⟩ z).cell? ⟨g0, 0, none⟩ = some x ∧ (((X.setCell ⟨g0, 0, none⟩ x).setCell ⟨g0, 1, none⟩ y).setCell ⟨g0, 2, none⟩ z).cell? ⟨g0, 1, none⟩ = some y ∧ (((X.setCell ⟨g0, 0, none⟩ x).setCell ⟨g0, 1, none⟩ y).setCell ⟨g0, 2, none⟩ z).cell? ⟨g0, 2, none⟩ = some z := by
  refine ⟨?_, ?_, ?_⟩ <;> go_simp
theorem six {wc w1 : World} {c0 c1 c2 : Value} {t : TypeId} {o1 o2 o3 o4 o5 o6 : Obj} (hb1 : Below ((((((((wc.alloc (.cells #[c0, c1, c2] t)).alloc o1).alloc o2).alloc o3).alloc o4).alloc o5).alloc o6).drew).heap.size ((((((((wc.alloc (.cells #[c0, c1, c2] t)).alloc o1).alloc o2).alloc o3).alloc o4).alloc o5).alloc o6).drew) w1) {x y z : Value} :
    (((w1.setCell ⟨wc.heap.size, 0, none⟩ x).setCell ⟨wc.heap.size, 1, none⟩ y).setCell ⟨wc.heap.size, 2, none⟩ z).cell? ⟨wc.heap.size, 0, none⟩ = some x ∧ (((w1.setCell ⟨wc.heap.size, 0, none⟩ x).setCell ⟨wc.heap.size, 1, none⟩ y).setCell ⟨wc.heap.size, 2, none⟩ z).cell? ⟨wc.heap.size, 1, none⟩ = some y ∧ (((w1.setCell ⟨wc.heap.size, 0, none⟩ x).setCell ⟨wc.heap.size, 1, none⟩ y).setCell ⟨wc.heap.size, 2, none⟩ z).cell? ⟨wc.heap.size, 2, none⟩ = some z :=
  same3 (cell_later hb1 (dr (al1 o6 (al1 o5 (al1 o4 (al1 o3 (al1 o2 (al1 o1 (nw0 wc c0 c1 c2 t))))))))) (cell_later hb1 (dr (al1 o6 (al1 o5 (al1 o4 (al1 o3 (al1 o2 (al1 o1 (nw1 wc c0 c1 c2 t))))))))) (cell_later hb1 (dr (al1 o6 (al1 o5 (al1 o4 (al1 o3 (al1 o2 (al1 o1 (nw2 wc c0 c1 c2 t)))))))))
theorem toValue_exact (k n : Int) (s : ByteArray) (w : World) :
    Calls Try.prog 27 #[.agg #[.int .i64 k, .int .i64 n, .string s]] w fun e w' => e = .returned (.agg #[.int .i64 k, .int .i64 n, .string s]) ∧ w' = ((w.alloc (.cells #[.int .i64 k, .int .i64 n, .string s] 32)).alloc (.cells #[.int .i64 k, .int .i64 n, .string s] 25)).alloc (.cells #[.int .i64 k, .int .i64 n, .string s] 25) := by
  go_enter Try.func27, Try.ntmps27
  go_wp2
  go_returns
  exact ⟨rfl, rfl⟩
set_option maxHeartbeats 8000000 in
set_option maxRecDepth 100000 in
theorem walk_in (op : ByteArray) (k a : Int) (s : ByteArray) (k' b : Int) (s' : ByteArray) (m : Int) (w : World) (hop : ¬ (1048576 : Int) < op.size) (hbig : ¬ (1048576 : Int) < s.size) (hbig' : ¬ (1048576 - s.size : Int) < s'.size)
    (HB : Both op k a s k' b s' m) (hm : w.cell? ⟨0, 0, none⟩ = some (.int .i64 m)) :
    Calls Try.prog 6 #[.string op, .agg #[.int .i64 k, .int .i64 a, .string s], .agg #[.int .i64 k', .int .i64 b, .string s']] w fun e w' => e = .returned (.bool true) ∧ Below w.heap.size w w' := by
  obtain ⟨K, N, HI0, HS0⟩ := HB
  have HI : Hid (∀ w : World, w.cell? ⟨0, 0, none⟩ = some (.int .i64 m) → Calls Try.prog 15 #[.string op, (.agg #[.int .i64 k, .int .i64 a, .string s]), (.agg #[.int .i64 k', .int .i64 b, .string s'])] w fun e w' => e = .returned (.agg #[.int .i64 K, .int .i64 N, .string ⟨#[]⟩]) ∧ Below w.heap.size w w') := HI0
  have HS : Hid (∀ w : World, Calls Try.prog 17 #[.string op, (.agg #[.int .i64 k, .int .i64 a, .string s]), (.agg #[.int .i64 k', .int .i64 b, .string s'])] w fun e w' => e = .returned (.agg #[.int .i64 K, .int .i64 N, .string ⟨#[]⟩]) ∧ Below w.heap.size w w') := HS0
  clear HI0 HS0
  have h0 : 0 < w.heap.size := World.block_lt_of_cell? w ⟨0, 0, none⟩ hm
  go_enter Try.func6, Try.ntmps6
  go_wp2
  have hl0 : w.heap.size < w.heap.size + 1 + 1 := by omega
  have hl1 : w.heap.size + 1 < w.heap.size + 1 + 1 := by omega
  have hl2 : 0 < w.heap.size + 1 + 1 := by omega
  go_cut [8] (fun v8 wc => ∃ g, v8 = .pointer (some ⟨g, 0, none⟩) ∧ wc.cell? ⟨g, 0, none⟩ = some (.int .i64 K) ∧ wc.cell? ⟨g, 1, none⟩ = some (.int .i64 N) ∧ wc.cell? ⟨g, 2, none⟩ = some (.string ⟨#[]⟩) ∧ wc.cell? ⟨w.heap.size, 0, none⟩ = some (.int .i64 k) ∧ wc.cell? ⟨w.heap.size, 1, none⟩ = some (.int .i64 a) ∧ wc.cell? ⟨w.heap.size, 2, none⟩ = some (.string s) ∧ wc.cell? ⟨w.heap.size + 1, 0, none⟩ = some (.int .i64 k') ∧ wc.cell? ⟨w.heap.size + 1, 1, none⟩ = some (.int .i64 b) ∧ wc.cell? ⟨w.heap.size + 1, 2, none⟩ = some (.string s') ∧ wc.cell? ⟨0, 0, none⟩ = some (.int .i64 m) ∧ Below w.heap.size w wc)
  case first =>
    go_region_held3 (fun w' => w'.cell? ⟨w.heap.size, 0, none⟩ = some (.int .i64 k) ∧ w'.cell? ⟨w.heap.size, 1, none⟩ = some (.int .i64 a) ∧ w'.cell? ⟨w.heap.size, 2, none⟩ = some (.string s) ∧ w'.cell? ⟨w.heap.size + 1, 0, none⟩ = some (.int .i64 k') ∧ w'.cell? ⟨w.heap.size + 1, 1, none⟩ = some (.int .i64 b) ∧ w'.cell? ⟨w.heap.size + 1, 2, none⟩ = some (.string s') ∧ w'.cell? ⟨0, 0, none⟩ = some (.int .i64 m)) (first | (obtain ⟨k0, k1, k2, k3, k4, k5, k6⟩ := ‹World.cell? _ _ = some _ ∧ _›; with_reducible exact ⟨al3d _ _ _ k0, al3d _ _ _ k1, al3d _ _ _ k2, al3d _ _ _ k3, al3d _ _ _ k4, al3d _ _ _ k5, al3d _ _ _ k6⟩) | (obtain ⟨k0, k1, k2, k3, k4, k5, k6⟩ := ‹World.cell? _ _ = some _ ∧ _›; with_reducible exact ⟨al1d _ k0, al1d _ k1, al1d _ k2, al1d _ k3, al1d _ k4, al1d _ k5, al1d _ k6⟩) | (with_reducible exact ⟨r0, r1, r2, r3, r4, r5, r6⟩) | (with_reducible exact ⟨al1 _ r0, al1 _ r1, al1 _ r2, al1 _ r3, al1 _ r4, al1 _ r5, al1 _ r6⟩) | (with_reducible exact ⟨st3 (w.heap.size + 1 + 1) r0 hl0 (by omega), st3 (w.heap.size + 1 + 1) r1 hl0 (by omega), st3 (w.heap.size + 1 + 1) r2 hl0 (by omega), st3 (w.heap.size + 1 + 1) r3 hl1 (by omega), st3 (w.heap.size + 1 + 1) r4 hl1 (by omega), st3 (w.heap.size + 1 + 1) r5 hl1 (by omega), st3 (w.heap.size + 1 + 1) r6 hl2 (by omega)⟩) | (refine ⟨?_, ?_, ?_, ?_, ?_, ?_, ?_⟩ <;> (go_simp; done))) (first | (go_at_call 27; refine (toValue_exact _ _ _ _).mono ?_; rintro e w' ⟨rfl, rfl⟩) | (go_at_call 17; obtain ⟨k0, k1, k2, k3, k4, k5, k6⟩ := ‹World.cell? _ _ = some _ ∧ _›; refine (HS.out _).mono ?_; rintro e w1 ⟨rfl, hb1⟩; obtain ⟨hc1, hf1⟩ := bcell hb1; have hz1 := hb1.size; (try simp at hz1); have hy1 : w.heap.size + 1 < w1.heap.size := (by omega); have hy2 : w.heap.size < w1.heap.size := (by omega); have hy3 : 0 < w1.heap.size := (by omega); have r0 := cell_later hb1 k0; have r1 := cell_later hb1 k1; have r2 := cell_later hb1 k2; have r3 := cell_later hb1 k3; have r4 := cell_later hb1 k4; have r5 := cell_later hb1 k5; have r6 := cell_later hb1 k6))
    all_goals (go_wp2_with fail; go_meet)
    all_goals (case rel => (refine ⟨_, rfl, ?_, ?_, ?_, ?_, ?_, ?_, ?_, ?_, ?_, ?_, ?_⟩ <;> first | (go_simp; done) | ((repeat (first | assumption | exact Below.refl _ _ | refine Below.drew ?_ | refine Below.alloc ?_ (by first | (simp; done) | (simp; omega) | omega) _ | refine Below.setCell ?_ (by first | (simp; done) | (simp; omega) | omega) _ | refine bstep (by assumption) (by first | (simp; done) | (simp; omega) | omega) ?_)); done)))
  case rest =>
    clear hl0 hl1 hl2
    obtain ⟨g, rfl, eK, eN, eE, q0, q1, q2, q3, q4, q5, q6, bel⟩ := hcut
    have hg := World.block_lt_of_cell? wc ⟨g, 0, none⟩ eK
    have hg1 := World.block_lt_of_cell? wc ⟨w.heap.size + 1, 0, none⟩ q3
    simp only at hg hg1
    have hg2 : w.heap.size < wc.heap.size := by omega
    have hg3 : 0 < wc.heap.size := by omega
    have EK : Hid (wc.cell? ⟨g, 0, none⟩ = some (.int .i64 K)) := eK
    have EN : Hid (wc.cell? ⟨g, 1, none⟩ = some (.int .i64 N)) := eN
    have EE : Hid (wc.cell? ⟨g, 2, none⟩ = some (.string ⟨#[]⟩)) := eE
    clear eK eN eE hm h0
    go_wp2_with fail
    go_cut [9] (fun v9 wd => ∃ g', v9 = .pointer (some ⟨g', 0, none⟩) ∧ wd.cell? ⟨g', 0, none⟩ = some (.int .i64 K) ∧ wd.cell? ⟨g', 1, none⟩ = some (.int .i64 N) ∧ wd.cell? ⟨g', 2, none⟩ = some (.string ⟨#[]⟩) ∧ Below wc.heap.size wc wd)
    case first =>
      go_region_held3 (fun w' => w'.cell? ⟨w.heap.size, 0, none⟩ = some (.int .i64 k) ∧ w'.cell? ⟨w.heap.size, 1, none⟩ = some (.int .i64 a) ∧ w'.cell? ⟨w.heap.size, 2, none⟩ = some (.string s) ∧ w'.cell? ⟨w.heap.size + 1, 0, none⟩ = some (.int .i64 k') ∧ w'.cell? ⟨w.heap.size + 1, 1, none⟩ = some (.int .i64 b) ∧ w'.cell? ⟨w.heap.size + 1, 2, none⟩ = some (.string s') ∧ w'.cell? ⟨0, 0, none⟩ = some (.int .i64 m)) (first | (obtain ⟨k0, k1, k2, k3, k4, k5, k6⟩ := ‹World.cell? _ _ = some _ ∧ _›; with_reducible exact ⟨al3d _ _ _ k0, al3d _ _ _ k1, al3d _ _ _ k2, al3d _ _ _ k3, al3d _ _ _ k4, al3d _ _ _ k5, al3d _ _ _ k6⟩) | (obtain ⟨k0, k1, k2, k3, k4, k5, k6⟩ := ‹World.cell? _ _ = some _ ∧ _›; with_reducible exact ⟨al1d _ k0, al1d _ k1, al1d _ k2, al1d _ k3, al1d _ k4, al1d _ k5, al1d _ k6⟩) | (with_reducible exact ⟨r0, r1, r2, r3, r4, r5, r6⟩) | (with_reducible exact ⟨al1 _ r0, al1 _ r1, al1 _ r2, al1 _ r3, al1 _ r4, al1 _ r5, al1 _ r6⟩) | (with_reducible exact ⟨st3 (wc.heap.size) r0 hg2 (by omega), st3 (wc.heap.size) r1 hg2 (by omega), st3 (wc.heap.size) r2 hg2 (by omega), st3 (wc.heap.size) r3 hg1 (by omega), st3 (wc.heap.size) r4 hg1 (by omega), st3 (wc.heap.size) r5 hg1 (by omega), st3 (wc.heap.size) r6 hg3 (by omega)⟩) | (exact ⟨dr q0, dr q1, dr q2, dr q3, dr q4, dr q5, dr q6⟩)) (first | (go_at_call 27; refine (toValue_exact _ _ _ _).mono ?_; rintro e w' ⟨rfl, rfl⟩) | (go_at_call 15; obtain ⟨k0, k1, k2, k3, k4, k5, k6⟩ := ‹World.cell? _ _ = some _ ∧ _›; refine (HI.out _ k6).mono ?_; rintro e w1 ⟨rfl, hb1⟩; obtain ⟨hc1, hf1⟩ := bcell hb1; have hz1 := hb1.size; (try simp at hz1); have hy1 : w.heap.size + 1 < w1.heap.size := (by omega); have hy2 : w.heap.size < w1.heap.size := (by omega); have hy3 : 0 < w1.heap.size := (by omega); have r0 := cell_later hb1 k0; have r1 := cell_later hb1 k1; have r2 := cell_later hb1 k2; have r3 := cell_later hb1 k3; have r4 := cell_later hb1 k4; have r5 := cell_later hb1 k5; have r6 := cell_later hb1 k6))
      all_goals (go_wp2_with fail; go_meet)
      all_goals (case rel => (refine ⟨_, rfl, ?_, ?_, ?_, ?_⟩ <;> first | (go_simp; done) | (with_reducible exact (six hb1).1) | (with_reducible exact (six hb1).2.1) | (with_reducible exact (six hb1).2.2) | ((repeat (first | assumption | exact Below.refl _ _ | refine Below.drew ?_ | refine Below.alloc ?_ (by first | (simp; done) | (simp; omega) | omega) _ | refine Below.setCell ?_ (by first | (simp; done) | (simp; omega) | omega) _ | refine bstep (by assumption) (by first | (simp; done) | (simp; omega) | omega) ?_)); done)))
    case rest =>
      obtain ⟨g', rfl, fK, fN, fE, bel'⟩ := hcut
      have dK : wc.cell? ⟨g, 0, none⟩ = some (.int .i64 K) := cell_later bel' EK.out
      have dN : wc.cell? ⟨g, 1, none⟩ = some (.int .i64 N) := cell_later bel' EN.out
      have dE : wc.cell? ⟨g, 2, none⟩ = some (.string ⟨#[]⟩) := cell_later bel' EE.out
      have bel2 : Below w.heap.size w wc := bstep bel' (by omega) bel
      clear q0 q1 q2 q3 q4 q5 q6 bel bel' EK EN EE
      go_wp2_with fail
      refine (eqValue_same _ _ _ _).mono ?_
      rintro e w3 ⟨rfl, hb3⟩
      have hz4 := bel2.size
      go_wp2_with fail
      go_returns
      refine ⟨rfl, ?_⟩
      ((repeat (first | assumption | exact Below.refl _ _ | refine Below.drew ?_ | refine Below.alloc ?_ (by first | (simp; done) | (simp; omega) | omega) _ | refine Below.setCell ?_ (by first | (simp; done) | (simp; omega) | omega) _ | refine bstep (by assumption) (by first | (simp; done) | (simp; omega) | omega) ?_)); done)
theorem wf64 (n : Int) (h : (Lit.int .i64 n).wf = true) : -9223372036854775808 ≤ n ∧ n ≤ 9223372036854775807 := by
  simp only [Lit.wf, IntKind.min, IntKind.max, IntKind.signed, IntKind.bits, Bool.and_eq_true, decide_eq_true_eq, if_true] at h
  omega
set_option maxHeartbeats 2000000 in
set_option maxRecDepth 100000 in
theorem walk (op : ByteArray) (hop0 : op.size ≤ maxLen) (k a : Int) (s : ByteArray) (hk : (Lit.int .i64 k).wf = true) (hn : (Lit.int .i64 a).wf = true) (hs0 : s.size ≤ maxLen) (k' b : Int) (s' : ByteArray) (hk' : (Lit.int .i64 k').wf = true) (hn' : (Lit.int .i64 b).wf = true) (hs0' : s'.size ≤ maxLen) (m : Int) (w : World) (hm : w.cell? ⟨0, 0, none⟩ = some (.int .i64 m)) :
    Calls Try.prog 6 #[.string op, (.agg #[.int .i64 k, .int .i64 a, .string s]), (.agg #[.int .i64 k', .int .i64 b, .string s'])] w fun e w' => e = .returned (.bool true) ∧ Below w.heap.size w w' := by
  have ha := wf64 a hn
  have hb := wf64 b hn'
  clear hk hn hk' hn'
  unfold maxLen at hop0 hs0 hs0'
  by_cases hop : (1048576 : Int) < op.size
  · clear ha hb hm
    go_enter Try.func6, Try.ntmps6
    go_wp2
    go_returns
    refine ⟨rfl, ?_⟩
    go_grown
  by_cases hbig : (1048576 : Int) < s.size
  · clear ha hb hm
    go_enter Try.func6, Try.ntmps6
    go_wp2
    go_returns
    refine ⟨rfl, ?_⟩
    go_grown
  by_cases hbig' : (1048576 - s.size : Int) < s'.size
  · clear ha hb hm
    go_enter Try.func6, Try.ntmps6
    go_wp2
    go_returns
    refine ⟨rfl, ?_⟩
    go_grown
  exact walk_in op k a s k' b s' m w hop hbig hbig' (both_any op k a k' b s s' m ha hb (by omega) (by omega)) hm
end Go.Proofs.Ytilfoohmijinnaa.fnExactReckon
