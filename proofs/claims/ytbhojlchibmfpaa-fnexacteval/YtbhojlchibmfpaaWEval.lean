/- Own text. The walk of the statement on Eval. -/
import Derived.Test.YtbhojlchibmfpaaToE
import Derived.Test.YtbhojlchibmfpaaToVS
import Derived.Test.YtbhojlchibmfpaaEvS
import Derived.Test.YtbhojlchibmfpaaEvI
import Derived.Test.YtbhojlchibmfpaaEqV
import Derived.WalkKit
import Derived.WalkSpells
import Derived.WalkLawsBesides
import Derived.Handy
import Derived.Below
import Derived.Deep.RegionHeld3
import Derived.Deep.DeepCutAuto
namespace Go.Proofs.Ytbhojlchibmfpaa.fnExactEval
open Go.RowKit
set_option linter.unusedVariables false
theorem le_wts {vs : List V3} {x : V3} (h : x ∈ vs) : x.s.size ≤ wts vs := by
  unfold wts
  induction vs with
  | nil => cases h
  | cons y ys ih =>
    simp only [List.map_cons, List.sum_cons]
    rcases List.mem_cons.1 h with rfl | h
    · omega
    · have := ih h; omega
/-- both answer the same. -/
theorem both (e : E7) (vs : List V3) (m : Int) (hw : e.wf) (hn : wtE e ≤ 1048576) (gv : ∀ x ∈ vs, goodR x) (w : World) (d : Nat) (u : Value) (F : List Nat) (hk : KidsIs w d u e.ks F) : ∃ r : V3,
    (∀ (W : World) (u : Value) (F : List Nat) (d : Nat) (v : Value), KidsIs W d u e.ks F → RowIs W v vs → Calls Try.prog 17 #[(.agg #[.int .i64 e.k, .int .i64 e.n, .int .i64 e.v.k, .int .i64 e.v.n, .string e.v.s, .string e.p, u]), v] W fun y w' => y = .returned (.agg #[.int .i64 r.k, .int .i64 r.n, .string r.s]) ∧ Below W.heap.size W w') ∧
    (∀ (W : World) (u : Value) (F : List Nat) (d : Nat) (v : Value), W.cell? ⟨0, 0, none⟩ = some (.int .i64 m) → KidsIs W d u e.ks F → RowIs W v vs → Calls Try.prog 19 #[(.agg #[.int .i64 e.k, .int .i64 e.n, .int .i64 e.v.k, .int .i64 e.v.n, .string e.v.s, .string e.p, u]), v] W fun y w' => y = .returned (.agg #[.int .i64 r.k, .int .i64 r.n, .string r.s]) ∧ Below W.heap.size W w') := by
  cases h : okE 13 e with
  | false => exact ⟨zeroR, fun W u F d v hk hv => specEval_no hw hk hv h, fun W u F d v hm hk hv => implEval_no hw hk hv h⟩
  | true =>
    obtain ⟨r, hr, _⟩ := res_ex m vs gv 13 e w d u F hw hk hn h
    exact ⟨r, fun W u F d v hk hv => specEval_yes hw hk hv h hr, fun W u F d v hm hk hv => implEval_yes hm hw hk hv hn h hr⟩
set_option maxHeartbeats 4000000 in
set_option maxRecDepth 100000 in
theorem walk (e : E7) (v : Value) (F : List Nat) (d : Nat) (hw : e.wf) (vr : Value) (vs : List V3) (hvw : VsWf vs) (m : Int) (w : World) (hr : KidsIs w d v e.ks F) (hA : RowIs w vr vs) (hm : w.cell? ⟨0, 0, none⟩ = some (.int .i64 m)) :
    Calls Try.prog 4 #[(.agg #[.int .i64 e.k, .int .i64 e.n, .int .i64 e.v.k, .int .i64 e.v.n, .string e.v.s, .string e.p, v]), vr] w fun x w' => x = .returned (.bool true) ∧ Below w.heap.size w w' := by
  obtain ⟨a0, c0, rfl, _, _⟩ := hr.shape
  have h00 : 0 < w.heap.size := World.block_lt_of_cell? _ _ hm
  go_enter Try.func4, Try.ntmps4
  go_wp2_with fail
  refine Calls.mono (szExp_any e (.slice a0 e.ks.length c0) F 1048576 _ hw (hr.below ?hb) (by decide) (by decide)) ?_
  case hb => repeat (first | (with_reducible exact Below.refl _ _) | (with_reducible refine Below.drew ?_) | (with_reducible refine Below.alloc ?_ ?hh _; case hh => first | (simp; done) | (simp; omega) | omega) | (with_reducible refine Below.setCell ?_ ?hh _; case hh => first | (simp; done) | (simp; omega) | omega) | refine bstep (by assumption) (by first | (simp; done) | (simp; omega) | omega) ?_)
  rintro x w1 ⟨⟨z1, rfl, l1, g1, s1⟩, hb1⟩
  have hz1 := hb1.size
  simp only [World.size_alloc] at hz1
  have ba1 : w1.cell? ⟨w.heap.size, 0, none⟩ = some (.int .i64 e.k) := cell_later hb1 (by go_simp)
  have bc1 : w1.cell? ⟨w.heap.size, 1, none⟩ = some (.int .i64 e.n) := cell_later hb1 (by go_simp)
  have bd1 : w1.cell? ⟨w.heap.size, 2, none⟩ = some (.int .i64 e.v.k) := cell_later hb1 (by go_simp)
  have bf1 : w1.cell? ⟨w.heap.size, 3, none⟩ = some (.int .i64 e.v.n) := cell_later hb1 (by go_simp)
  have bg1 : w1.cell? ⟨w.heap.size, 4, none⟩ = some (.string e.v.s) := cell_later hb1 (by go_simp)
  have bh1 : w1.cell? ⟨w.heap.size, 5, none⟩ = some (.string e.p) := cell_later hb1 (by go_simp)
  have bk1 : w1.cell? ⟨w.heap.size, 6, none⟩ = some (.slice a0 e.ks.length c0) := cell_later hb1 (by go_simp)
  have bm1 : w1.cell? ⟨0, 0, none⟩ = some (.int .i64 m) := cell_later hb1 (by go_simp)
  have hr1 : KidsIs w1 d (.slice a0 e.ks.length c0) e.ks F := hr.below (by repeat (first | (with_reducible exact Below.refl _ _) | (with_reducible refine Below.drew ?_) | (with_reducible refine Below.alloc ?_ ?hh _; case hh => first | (simp; done) | (simp; omega) | omega) | (with_reducible refine Below.setCell ?_ ?hh _; case hh => first | (simp; done) | (simp; omega) | omega) | refine bstep (by assumption) (by first | (simp; done) | (simp; omega) | omega) ?_))
  have hA1 : RowIs w1 vr vs := hA.below (by repeat (first | (with_reducible exact Below.refl _ _) | (with_reducible refine Below.drew ?_) | (with_reducible refine Below.alloc ?_ ?hh _; case hh => first | (simp; done) | (simp; omega) | omega) | (with_reducible refine Below.setCell ?_ ?hh _; case hh => first | (simp; done) | (simp; omega) | omega) | refine bstep (by assumption) (by first | (simp; done) | (simp; omega) | omega) ?_))
  by_cases hn1 : z1 < 0
  · go_wp2_with fail
    go_returns
    exact ⟨rfl, by repeat (first | (with_reducible exact Below.refl _ _) | (with_reducible refine Below.drew ?_) | (with_reducible refine Below.alloc ?_ ?hh _; case hh => first | (simp; done) | (simp; omega) | omega) | (with_reducible refine Below.setCell ?_ ?hh _; case hh => first | (simp; done) | (simp; omega) | omega) | refine bstep (by assumption) (by first | (simp; done) | (simp; omega) | omega) ?_)⟩
  have q1 := s1 (by omega)
  have hn : wtE e ≤ 1048576 := by omega
  clear s1 hr hA hm
  go_wp2_with fail
  refine (szValueS_any vr vs z1 w1 hA1 hvw (by omega) (by omega)).mono ?_
  rintro x w2 ⟨⟨z2, rfl, l2, g2, s2⟩, hb2⟩
  have hz2 := hb2.size
  have hr2 := hr1.below hb2
  have hA2 := hA1.below hb2
  have ba2 : w2.cell? ⟨w.heap.size, 0, none⟩ = some (.int .i64 e.k) := cell_later hb2 (by go_simp)
  have bc2 : w2.cell? ⟨w.heap.size, 1, none⟩ = some (.int .i64 e.n) := cell_later hb2 (by go_simp)
  have bd2 : w2.cell? ⟨w.heap.size, 2, none⟩ = some (.int .i64 e.v.k) := cell_later hb2 (by go_simp)
  have bf2 : w2.cell? ⟨w.heap.size, 3, none⟩ = some (.int .i64 e.v.n) := cell_later hb2 (by go_simp)
  have bg2 : w2.cell? ⟨w.heap.size, 4, none⟩ = some (.string e.v.s) := cell_later hb2 (by go_simp)
  have bh2 : w2.cell? ⟨w.heap.size, 5, none⟩ = some (.string e.p) := cell_later hb2 (by go_simp)
  have bk2 : w2.cell? ⟨w.heap.size, 6, none⟩ = some (.slice a0 e.ks.length c0) := cell_later hb2 (by go_simp)
  have bm2 : w2.cell? ⟨0, 0, none⟩ = some (.int .i64 m) := cell_later hb2 (by go_simp)
  by_cases hn2 : z2 < 0
  · go_wp2_with fail
    go_returns
    exact ⟨rfl, by repeat (first | (with_reducible exact Below.refl _ _) | (with_reducible refine Below.drew ?_) | (with_reducible refine Below.alloc ?_ ?hh _; case hh => first | (simp; done) | (simp; omega) | omega) | (with_reducible refine Below.setCell ?_ ?hh _; case hh => first | (simp; done) | (simp; omega) | omega) | refine bstep (by assumption) (by first | (simp; done) | (simp; omega) | omega) ?_)⟩
  have q2 := s2 (by omega)
  have nv : vs.length ≤ 1048576 := by unfold wt at q2; omega
  obtain ⟨r, hSp, hIm⟩ := both e vs m hw hn (fun x hx => ⟨wf_inN (hvw x hx).2.1, by have := le_wts hx; unfold wt at q2; omega⟩) w2 d _ F hr2
  clear s2 hr1 hA1
  clear ba1 bc1 bd1 bf1 bg1 bh1 bk1 bm1
  go_wp2_with fail
  refine (toExp_any e (.slice a0 e.ks.length c0) F w2 hr2 hn).mono ?_
  rintro x w3 ⟨⟨u3, F3, rfl, hU3, _⟩, hb3⟩
  obtain ⟨a3, n3, rfl, _, _⟩ := hU3.shape
  have hz3 := hb3.size
  have hr3 := hr2.below hb3
  have hA3 := hA2.below hb3
  have ba3 : w3.cell? ⟨w.heap.size, 0, none⟩ = some (.int .i64 e.k) := cell_later hb3 (by go_simp)
  have bc3 : w3.cell? ⟨w.heap.size, 1, none⟩ = some (.int .i64 e.n) := cell_later hb3 (by go_simp)
  have bd3 : w3.cell? ⟨w.heap.size, 2, none⟩ = some (.int .i64 e.v.k) := cell_later hb3 (by go_simp)
  have bf3 : w3.cell? ⟨w.heap.size, 3, none⟩ = some (.int .i64 e.v.n) := cell_later hb3 (by go_simp)
  have bg3 : w3.cell? ⟨w.heap.size, 4, none⟩ = some (.string e.v.s) := cell_later hb3 (by go_simp)
  have bh3 : w3.cell? ⟨w.heap.size, 5, none⟩ = some (.string e.p) := cell_later hb3 (by go_simp)
  have bk3 : w3.cell? ⟨w.heap.size, 6, none⟩ = some (.slice a0 e.ks.length c0) := cell_later hb3 (by go_simp)
  have bm3 : w3.cell? ⟨0, 0, none⟩ = some (.int .i64 m) := cell_later hb3 (by go_simp)
  clear hr2 hA2
  clear ba2 bc2 bd2 bf2 bg2 bh2 bk2 bm2
  go_wp2_with fail
  refine (toValueS_row vr vs w3 hA3 nv).mono ?_
  rintro x w4 ⟨⟨u4, rfl, hT4⟩, hb4⟩
  have hz4 := hb4.size
  have hr4 := hr3.below hb4
  have hA4 := hA3.below hb4
  have hU4 := hU3.below hb4
  have ba4 : w4.cell? ⟨w.heap.size, 0, none⟩ = some (.int .i64 e.k) := cell_later hb4 (by go_simp)
  have bc4 : w4.cell? ⟨w.heap.size, 1, none⟩ = some (.int .i64 e.n) := cell_later hb4 (by go_simp)
  have bd4 : w4.cell? ⟨w.heap.size, 2, none⟩ = some (.int .i64 e.v.k) := cell_later hb4 (by go_simp)
  have bf4 : w4.cell? ⟨w.heap.size, 3, none⟩ = some (.int .i64 e.v.n) := cell_later hb4 (by go_simp)
  have bg4 : w4.cell? ⟨w.heap.size, 4, none⟩ = some (.string e.v.s) := cell_later hb4 (by go_simp)
  have bh4 : w4.cell? ⟨w.heap.size, 5, none⟩ = some (.string e.p) := cell_later hb4 (by go_simp)
  have bk4 : w4.cell? ⟨w.heap.size, 6, none⟩ = some (.slice a0 e.ks.length c0) := cell_later hb4 (by go_simp)
  have bm4 : w4.cell? ⟨0, 0, none⟩ = some (.int .i64 m) := cell_later hb4 (by go_simp)
  clear hr3 hA3 hU3
  clear ba3 bc3 bd3 bf3 bg3 bh3 bk3 bm3
  go_wp2_with fail
  refine (hSp w4 (.slice a3 e.ks.length n3) F3 d u4 hU4 hT4).mono ?_
  rintro x w5 ⟨rfl, hb5⟩
  have hz5 := hb5.size
  have hy5 : w.heap.size < w5.heap.size := by omega
  have ho5 : 0 < w5.heap.size := by omega
  have hr5 := hr4.below hb5
  have hA5 := hA4.below hb5
  have ba5 : w5.cell? ⟨w.heap.size, 0, none⟩ = some (.int .i64 e.k) := cell_later hb5 (by go_simp)
  have bc5 : w5.cell? ⟨w.heap.size, 1, none⟩ = some (.int .i64 e.n) := cell_later hb5 (by go_simp)
  have bd5 : w5.cell? ⟨w.heap.size, 2, none⟩ = some (.int .i64 e.v.k) := cell_later hb5 (by go_simp)
  have bf5 : w5.cell? ⟨w.heap.size, 3, none⟩ = some (.int .i64 e.v.n) := cell_later hb5 (by go_simp)
  have bg5 : w5.cell? ⟨w.heap.size, 4, none⟩ = some (.string e.v.s) := cell_later hb5 (by go_simp)
  have bh5 : w5.cell? ⟨w.heap.size, 5, none⟩ = some (.string e.p) := cell_later hb5 (by go_simp)
  have bk5 : w5.cell? ⟨w.heap.size, 6, none⟩ = some (.slice a0 e.ks.length c0) := cell_later hb5 (by go_simp)
  have bm5 : w5.cell? ⟨0, 0, none⟩ = some (.int .i64 m) := cell_later hb5 (by go_simp)
  clear hr4 hA4 hU4 hT4 hSp
  clear ba4 bc4 bd4 bf4 bg4 bh4 bk4 bm4
  go_wp2_with fail
  refine Calls.mono (toExp_any e (.slice a0 e.ks.length c0) F _ (hr5.below ?hb) hn) ?_
  case hb => repeat (first | (with_reducible exact Below.refl _ _) | (with_reducible refine Below.drew ?_) | (with_reducible refine Below.alloc ?_ ?hh _; case hh => first | (simp; done) | (simp; omega) | omega) | (with_reducible refine Below.setCell ?_ ?hh _; case hh => first | (simp; done) | (simp; omega) | omega) | refine bstep (by assumption) (by first | (simp; done) | (simp; omega) | omega) ?_)
  rintro x w6 ⟨⟨u6, F6, rfl, hU6, _⟩, hb6⟩
  obtain ⟨a6, n6, rfl, _, _⟩ := hU6.shape
  have hz6 := hb6.size
  simp at hz6
  have hy6 : w.heap.size < w6.heap.size := by omega
  have ho6 : 0 < w6.heap.size := by omega
  have hv6 : w5.heap.size < w6.heap.size := by omega
  have hr6 : KidsIs w6 d (.slice a0 e.ks.length c0) e.ks F := hr5.below (by repeat (first | (with_reducible exact Below.refl _ _) | (with_reducible refine Below.drew ?_) | (with_reducible refine Below.alloc ?_ ?hh _; case hh => first | (simp; done) | (simp; omega) | omega) | (with_reducible refine Below.setCell ?_ ?hh _; case hh => first | (simp; done) | (simp; omega) | omega) | refine bstep (by assumption) (by first | (simp; done) | (simp; omega) | omega) ?_))
  have hA6 : RowIs w6 vr vs := hA5.below (by repeat (first | (with_reducible exact Below.refl _ _) | (with_reducible refine Below.drew ?_) | (with_reducible refine Below.alloc ?_ ?hh _; case hh => first | (simp; done) | (simp; omega) | omega) | (with_reducible refine Below.setCell ?_ ?hh _; case hh => first | (simp; done) | (simp; omega) | omega) | refine bstep (by assumption) (by first | (simp; done) | (simp; omega) | omega) ?_))
  have ba6 : w6.cell? ⟨w.heap.size, 0, none⟩ = some (.int .i64 e.k) := cell_later hb6 (by go_simp)
  have bc6 : w6.cell? ⟨w.heap.size, 1, none⟩ = some (.int .i64 e.n) := cell_later hb6 (by go_simp)
  have bd6 : w6.cell? ⟨w.heap.size, 2, none⟩ = some (.int .i64 e.v.k) := cell_later hb6 (by go_simp)
  have bf6 : w6.cell? ⟨w.heap.size, 3, none⟩ = some (.int .i64 e.v.n) := cell_later hb6 (by go_simp)
  have bg6 : w6.cell? ⟨w.heap.size, 4, none⟩ = some (.string e.v.s) := cell_later hb6 (by go_simp)
  have bh6 : w6.cell? ⟨w.heap.size, 5, none⟩ = some (.string e.p) := cell_later hb6 (by go_simp)
  have bk6 : w6.cell? ⟨w.heap.size, 6, none⟩ = some (.slice a0 e.ks.length c0) := cell_later hb6 (by go_simp)
  have bm6 : w6.cell? ⟨0, 0, none⟩ = some (.int .i64 m) := cell_later hb6 (by go_simp)
  have ra6 : w6.cell? ⟨w5.heap.size, 0, none⟩ = some (.int .i64 r.k) := cell_later hb6 (by go_simp)
  have rb6 : w6.cell? ⟨w5.heap.size, 1, none⟩ = some (.int .i64 r.n) := cell_later hb6 (by go_simp)
  have rc6 : w6.cell? ⟨w5.heap.size, 2, none⟩ = some (.string r.s) := cell_later hb6 (by go_simp)
  clear hr5 hA5
  clear ba5 bc5 bd5 bf5 bg5 bh5 bk5 bm5
  go_wp2_with fail
  refine Calls.mono (toValueS_row vr vs _ (hA6.below ?hb) nv) ?_
  case hb => repeat (first | (with_reducible exact Below.refl _ _) | (with_reducible refine Below.drew ?_) | (with_reducible refine Below.alloc ?_ ?hh _; case hh => first | (simp; done) | (simp; omega) | omega) | (with_reducible refine Below.setCell ?_ ?hh _; case hh => first | (simp; done) | (simp; omega) | omega) | refine bstep (by assumption) (by first | (simp; done) | (simp; omega) | omega) ?_)
  rintro x w7 ⟨⟨u7, rfl, hT7⟩, hb7⟩
  have hz7 := hb7.size
  simp at hz7
  have hy7 : w.heap.size < w7.heap.size := by omega
  have hv7 : w5.heap.size < w7.heap.size := by omega
  have hx7 : w6.heap.size < w7.heap.size := by omega
  have hr7 : KidsIs w7 d (.slice a0 e.ks.length c0) e.ks F := hr6.below (by repeat (first | (with_reducible exact Below.refl _ _) | (with_reducible refine Below.drew ?_) | (with_reducible refine Below.alloc ?_ ?hh _; case hh => first | (simp; done) | (simp; omega) | omega) | (with_reducible refine Below.setCell ?_ ?hh _; case hh => first | (simp; done) | (simp; omega) | omega) | refine bstep (by assumption) (by first | (simp; done) | (simp; omega) | omega) ?_))
  have hA7 : RowIs w7 vr vs := hA6.below (by repeat (first | (with_reducible exact Below.refl _ _) | (with_reducible refine Below.drew ?_) | (with_reducible refine Below.alloc ?_ ?hh _; case hh => first | (simp; done) | (simp; omega) | omega) | (with_reducible refine Below.setCell ?_ ?hh _; case hh => first | (simp; done) | (simp; omega) | omega) | refine bstep (by assumption) (by first | (simp; done) | (simp; omega) | omega) ?_))
  have hU7 : KidsIs w7 d (.slice a6 e.ks.length n6) e.ks F6 := hU6.below (by repeat (first | (with_reducible exact Below.refl _ _) | (with_reducible refine Below.drew ?_) | (with_reducible refine Below.alloc ?_ ?hh _; case hh => first | (simp; done) | (simp; omega) | omega) | (with_reducible refine Below.setCell ?_ ?hh _; case hh => first | (simp; done) | (simp; omega) | omega) | refine bstep (by assumption) (by first | (simp; done) | (simp; omega) | omega) ?_))
  have ba7 : w7.cell? ⟨w.heap.size, 0, none⟩ = some (.int .i64 e.k) := cell_later hb7 (by go_simp)
  have bc7 : w7.cell? ⟨w.heap.size, 1, none⟩ = some (.int .i64 e.n) := cell_later hb7 (by go_simp)
  have bd7 : w7.cell? ⟨w.heap.size, 2, none⟩ = some (.int .i64 e.v.k) := cell_later hb7 (by go_simp)
  have bf7 : w7.cell? ⟨w.heap.size, 3, none⟩ = some (.int .i64 e.v.n) := cell_later hb7 (by go_simp)
  have bg7 : w7.cell? ⟨w.heap.size, 4, none⟩ = some (.string e.v.s) := cell_later hb7 (by go_simp)
  have bh7 : w7.cell? ⟨w.heap.size, 5, none⟩ = some (.string e.p) := cell_later hb7 (by go_simp)
  have bk7 : w7.cell? ⟨w.heap.size, 6, none⟩ = some (.slice a0 e.ks.length c0) := cell_later hb7 (by go_simp)
  have bm7 : w7.cell? ⟨0, 0, none⟩ = some (.int .i64 m) := cell_later hb7 (by go_simp)
  have ra7 : w7.cell? ⟨w5.heap.size, 0, none⟩ = some (.int .i64 r.k) := cell_later hb7 (by go_simp)
  have rb7 : w7.cell? ⟨w5.heap.size, 1, none⟩ = some (.int .i64 r.n) := cell_later hb7 (by go_simp)
  have rc7 : w7.cell? ⟨w5.heap.size, 2, none⟩ = some (.string r.s) := cell_later hb7 (by go_simp)
  have xa7 : w7.cell? ⟨w6.heap.size, 0, none⟩ = some (.int .i64 e.k) := cell_later hb7 (by go_simp)
  have xc7 : w7.cell? ⟨w6.heap.size, 1, none⟩ = some (.int .i64 e.n) := cell_later hb7 (by go_simp)
  have xd7 : w7.cell? ⟨w6.heap.size, 2, none⟩ = some (.int .i64 e.v.k) := cell_later hb7 (by go_simp)
  have xf7 : w7.cell? ⟨w6.heap.size, 3, none⟩ = some (.int .i64 e.v.n) := cell_later hb7 (by go_simp)
  have xg7 : w7.cell? ⟨w6.heap.size, 4, none⟩ = some (.string e.v.s) := cell_later hb7 (by go_simp)
  have xh7 : w7.cell? ⟨w6.heap.size, 5, none⟩ = some (.string e.p) := cell_later hb7 (by go_simp)
  have xk7 : w7.cell? ⟨w6.heap.size, 6, none⟩ = some (.slice a6 e.ks.length n6) := cell_later hb7 (by go_simp)
  clear hr6 hA6 hU6
  clear ba6 bc6 bd6 bf6 bg6 bh6 bk6 bm6 ra6 rb6 rc6
  go_wp2_with fail
  refine (hIm w7 (.slice a6 e.ks.length n6) F6 d u7 bm7 hU7 hT7).mono ?_
  rintro x w8 ⟨rfl, hb8⟩
  have hz8 := hb8.size
  have hy8 : w.heap.size < w8.heap.size := by omega
  have hv8 : w5.heap.size < w8.heap.size := by omega
  have hx8 : w6.heap.size < w8.heap.size := by omega
  have hr8 := hr7.below hb8
  have hA8 := hA7.below hb8
  have hU8 := hU7.below hb8
  have hT8 := hT7.below hb8
  have ba8 : w8.cell? ⟨w.heap.size, 0, none⟩ = some (.int .i64 e.k) := cell_later hb8 (by go_simp)
  have bc8 : w8.cell? ⟨w.heap.size, 1, none⟩ = some (.int .i64 e.n) := cell_later hb8 (by go_simp)
  have bd8 : w8.cell? ⟨w.heap.size, 2, none⟩ = some (.int .i64 e.v.k) := cell_later hb8 (by go_simp)
  have bf8 : w8.cell? ⟨w.heap.size, 3, none⟩ = some (.int .i64 e.v.n) := cell_later hb8 (by go_simp)
  have bg8 : w8.cell? ⟨w.heap.size, 4, none⟩ = some (.string e.v.s) := cell_later hb8 (by go_simp)
  have bh8 : w8.cell? ⟨w.heap.size, 5, none⟩ = some (.string e.p) := cell_later hb8 (by go_simp)
  have bk8 : w8.cell? ⟨w.heap.size, 6, none⟩ = some (.slice a0 e.ks.length c0) := cell_later hb8 (by go_simp)
  have ra8 : w8.cell? ⟨w5.heap.size, 0, none⟩ = some (.int .i64 r.k) := cell_later hb8 (by go_simp)
  have rb8 : w8.cell? ⟨w5.heap.size, 1, none⟩ = some (.int .i64 r.n) := cell_later hb8 (by go_simp)
  have rc8 : w8.cell? ⟨w5.heap.size, 2, none⟩ = some (.string r.s) := cell_later hb8 (by go_simp)
  have xa8 : w8.cell? ⟨w6.heap.size, 0, none⟩ = some (.int .i64 e.k) := cell_later hb8 (by go_simp)
  have xc8 : w8.cell? ⟨w6.heap.size, 1, none⟩ = some (.int .i64 e.n) := cell_later hb8 (by go_simp)
  have xd8 : w8.cell? ⟨w6.heap.size, 2, none⟩ = some (.int .i64 e.v.k) := cell_later hb8 (by go_simp)
  have xf8 : w8.cell? ⟨w6.heap.size, 3, none⟩ = some (.int .i64 e.v.n) := cell_later hb8 (by go_simp)
  have xg8 : w8.cell? ⟨w6.heap.size, 4, none⟩ = some (.string e.v.s) := cell_later hb8 (by go_simp)
  have xh8 : w8.cell? ⟨w6.heap.size, 5, none⟩ = some (.string e.p) := cell_later hb8 (by go_simp)
  have xk8 : w8.cell? ⟨w6.heap.size, 6, none⟩ = some (.slice a6 e.ks.length n6) := cell_later hb8 (by go_simp)
  clear hr7 hA7 hU7 hT7 hIm
  clear ba7 bc7 bd7 bf7 bg7 bh7 bk7 bm7 ra7 rb7 rc7 xa7 xc7 xd7 xf7 xg7 xh7 xk7
  go_wp2_with fail
  refine Calls.mono (eqValue_same r.k r.n r.s _) ?_
  rintro x w9 ⟨rfl, hb9⟩
  have hz9 := hb9.size
  simp at hz9
  have hy9 : w.heap.size < w9.heap.size := by omega
  have hx9 : w6.heap.size < w9.heap.size := by omega
  have hr9 : KidsIs w9 d (.slice a0 e.ks.length c0) e.ks F := hr8.below (by repeat (first | (with_reducible exact Below.refl _ _) | (with_reducible refine Below.drew ?_) | (with_reducible refine Below.alloc ?_ ?hh _; case hh => first | (simp; done) | (simp; omega) | omega) | (with_reducible refine Below.setCell ?_ ?hh _; case hh => first | (simp; done) | (simp; omega) | omega) | refine bstep (by assumption) (by first | (simp; done) | (simp; omega) | omega) ?_))
  have hA9 : RowIs w9 vr vs := hA8.below (by repeat (first | (with_reducible exact Below.refl _ _) | (with_reducible refine Below.drew ?_) | (with_reducible refine Below.alloc ?_ ?hh _; case hh => first | (simp; done) | (simp; omega) | omega) | (with_reducible refine Below.setCell ?_ ?hh _; case hh => first | (simp; done) | (simp; omega) | omega) | refine bstep (by assumption) (by first | (simp; done) | (simp; omega) | omega) ?_))
  have hU9 : KidsIs w9 d (.slice a6 e.ks.length n6) e.ks F6 := hU8.below (by repeat (first | (with_reducible exact Below.refl _ _) | (with_reducible refine Below.drew ?_) | (with_reducible refine Below.alloc ?_ ?hh _; case hh => first | (simp; done) | (simp; omega) | omega) | (with_reducible refine Below.setCell ?_ ?hh _; case hh => first | (simp; done) | (simp; omega) | omega) | refine bstep (by assumption) (by first | (simp; done) | (simp; omega) | omega) ?_))
  have hT9 : RowIs w9 u7 vs := hT8.below (by repeat (first | (with_reducible exact Below.refl _ _) | (with_reducible refine Below.drew ?_) | (with_reducible refine Below.alloc ?_ ?hh _; case hh => first | (simp; done) | (simp; omega) | omega) | (with_reducible refine Below.setCell ?_ ?hh _; case hh => first | (simp; done) | (simp; omega) | omega) | refine bstep (by assumption) (by first | (simp; done) | (simp; omega) | omega) ?_))
  have ba9 : w9.cell? ⟨w.heap.size, 0, none⟩ = some (.int .i64 e.k) := cell_later hb9 (by go_simp)
  have bc9 : w9.cell? ⟨w.heap.size, 1, none⟩ = some (.int .i64 e.n) := cell_later hb9 (by go_simp)
  have bd9 : w9.cell? ⟨w.heap.size, 2, none⟩ = some (.int .i64 e.v.k) := cell_later hb9 (by go_simp)
  have bf9 : w9.cell? ⟨w.heap.size, 3, none⟩ = some (.int .i64 e.v.n) := cell_later hb9 (by go_simp)
  have bg9 : w9.cell? ⟨w.heap.size, 4, none⟩ = some (.string e.v.s) := cell_later hb9 (by go_simp)
  have bh9 : w9.cell? ⟨w.heap.size, 5, none⟩ = some (.string e.p) := cell_later hb9 (by go_simp)
  have bk9 : w9.cell? ⟨w.heap.size, 6, none⟩ = some (.slice a0 e.ks.length c0) := cell_later hb9 (by go_simp)
  have xa9 : w9.cell? ⟨w6.heap.size, 0, none⟩ = some (.int .i64 e.k) := cell_later hb9 (by go_simp)
  have xc9 : w9.cell? ⟨w6.heap.size, 1, none⟩ = some (.int .i64 e.n) := cell_later hb9 (by go_simp)
  have xd9 : w9.cell? ⟨w6.heap.size, 2, none⟩ = some (.int .i64 e.v.k) := cell_later hb9 (by go_simp)
  have xf9 : w9.cell? ⟨w6.heap.size, 3, none⟩ = some (.int .i64 e.v.n) := cell_later hb9 (by go_simp)
  have xg9 : w9.cell? ⟨w6.heap.size, 4, none⟩ = some (.string e.v.s) := cell_later hb9 (by go_simp)
  have xh9 : w9.cell? ⟨w6.heap.size, 5, none⟩ = some (.string e.p) := cell_later hb9 (by go_simp)
  have xk9 : w9.cell? ⟨w6.heap.size, 6, none⟩ = some (.slice a6 e.ks.length n6) := cell_later hb9 (by go_simp)
  clear hr8 hA8 hU8 hT8
  clear ba8 bc8 bd8 bf8 bg8 bh8 bk8 ra8 rb8 rc8 xa8 xc8 xd8 xf8 xg8 xh8 xk8
  go_wp2_with fail
  go_region_with (first | (go_at_call 13; refine (toExp_any e (.slice a0 e.ks.length c0) F _ (hr9.below (by repeat (first | (with_reducible exact Below.refl _ _) | (with_reducible refine Below.drew ?_) | (with_reducible refine Below.alloc ?_ ?hh _; case hh => first | (simp; done) | (simp; omega) | omega) | (with_reducible refine Below.setCell ?_ ?hh _; case hh => first | (simp; done) | (simp; omega) | omega) | refine bstep (by assumption) (by first | (simp; done) | (simp; omega) | omega) ?_))) hn).mono ?_; rintro x w10 ⟨⟨u10, F10, rfl, hU10, _⟩, hb10⟩; obtain ⟨a10, n10, rfl, _, _⟩ := hU10.shape; have hz10 := hb10.size; (try simp at hz10); have xa10 : w10.cell? ⟨w6.heap.size, 0, none⟩ = some (.int .i64 e.k) := cell_later hb10 (by go_simp); have xc10 : w10.cell? ⟨w6.heap.size, 1, none⟩ = some (.int .i64 e.n) := cell_later hb10 (by go_simp); have xd10 : w10.cell? ⟨w6.heap.size, 2, none⟩ = some (.int .i64 e.v.k) := cell_later hb10 (by go_simp); have xf10 : w10.cell? ⟨w6.heap.size, 3, none⟩ = some (.int .i64 e.v.n) := cell_later hb10 (by go_simp); have xg10 : w10.cell? ⟨w6.heap.size, 4, none⟩ = some (.string e.v.s) := cell_later hb10 (by go_simp); have xh10 : w10.cell? ⟨w6.heap.size, 5, none⟩ = some (.string e.p) := cell_later hb10 (by go_simp); have xk10 : w10.cell? ⟨w6.heap.size, 6, none⟩ = some (.slice a6 e.ks.length n6) := cell_later hb10 (by go_simp)) | (go_at_call 15; refine (eqExp_same e (.slice a6 e.ks.length n6) (.slice a10 e.ks.length n10) _ _ _ (hU9.below (by repeat (first | (with_reducible exact Below.refl _ _) | (with_reducible refine Below.drew ?_) | (with_reducible refine Below.alloc ?_ ?hh _; case hh => first | (simp; done) | (simp; omega) | omega) | (with_reducible refine Below.setCell ?_ ?hh _; case hh => first | (simp; done) | (simp; omega) | omega) | refine bstep (by assumption) (by first | (simp; done) | (simp; omega) | omega) ?_))) (hU10.below (by repeat (first | (with_reducible exact Below.refl _ _) | (with_reducible refine Below.drew ?_) | (with_reducible refine Below.alloc ?_ ?hh _; case hh => first | (simp; done) | (simp; omega) | omega) | (with_reducible refine Below.setCell ?_ ?hh _; case hh => first | (simp; done) | (simp; omega) | omega) | refine bstep (by assumption) (by first | (simp; done) | (simp; omega) | omega) ?_)))).mono ?_; rintro x w11 ⟨rfl, hb11⟩; have hz11 := hb11.size))
  all_goals (
    go_wp2_with fail
    refine Calls.mono (toValueS_row vr vs _ (hA9.below ?hb) nv) ?_
    case hb => repeat (first | (with_reducible exact Below.refl _ _) | (with_reducible refine Below.drew ?_) | (with_reducible refine Below.alloc ?_ ?hh _; case hh => first | (simp; done) | (simp; omega) | omega) | (with_reducible refine Below.setCell ?_ ?hh _; case hh => first | (simp; done) | (simp; omega) | omega) | refine bstep (by assumption) (by first | (simp; done) | (simp; omega) | omega) ?_)
    rintro x w12 ⟨⟨u12, rfl, hT12⟩, hb12⟩
    have hz12 := hb12.size
    have hX12 : RowIs w12 u7 vs := hT9.below (by repeat (first | (with_reducible exact Below.refl _ _) | (with_reducible refine Below.drew ?_) | (with_reducible refine Below.alloc ?_ ?hh _; case hh => first | (simp; done) | (simp; omega) | omega) | (with_reducible refine Below.setCell ?_ ?hh _; case hh => first | (simp; done) | (simp; omega) | omega) | refine bstep (by assumption) (by first | (simp; done) | (simp; omega) | omega) ?_))
    go_wp2_with fail
    refine (eqValueS_same u7 u12 vs w12 hX12 hT12).mono ?_
    rintro x w13 ⟨rfl, hb13⟩
    have hz13 := hb13.size
    go_wp2
    go_returns
    exact ⟨rfl, by repeat (first | (with_reducible exact Below.refl _ _) | (with_reducible refine Below.drew ?_) | (with_reducible refine Below.alloc ?_ ?hh _; case hh => first | (simp; done) | (simp; omega) | omega) | (with_reducible refine Below.setCell ?_ ?hh _; case hh => first | (simp; done) | (simp; omega) | omega) | refine bstep (by assumption) (by first | (simp; done) | (simp; omega) | omega) ?_)⟩)
end Go.Proofs.Ytbhojlchibmfpaa.fnExactEval
