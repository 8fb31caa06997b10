/- Own texts, joined: contracts that the law's proof goes by. -/
import Derived.Test.YtaeibfipcenhaaaGreatDoorGLViewsOk5
import Derived.Lib.SmallJoins
import Derived.Test.YtaeibfipcenhaaaGreatDoorGLViewsOk4
import Derived.Handy
import Derived.Test.YtaeibfipcenhaaaGreatDoorGLViewsOk14
import Derived.Test.YtaeibfipcenhaaaGreatDoorGLViewsOk24
import Derived.Test.YtaeibfipcenhaaaGreatDoorGLViewsOk29
namespace Go.Proofs.YtaeibfipcenhaaaGreatDoor
open Go.RowKit Go.Deep Go.ChangeShapes Go.WideShapes Go.Joins
set_option linter.unusedVariables false
theorem cellsExp : Tryz.prog.cellsOf 45 = 7 := by kernel_rfl
theorem cellsVal : Tryz.prog.cellsOf 42 = 3 := by kernel_rfl
theorem cellsInt : Tryz.prog.cellsOf 3 = 1 := by kernel_rfl
theorem cellsStr : Tryz.prog.cellsOf 9 = 1 := by kernel_rfl
theorem cellsKids : Tryz.prog.cellsOf 43 = 1 := by kernel_rfl
section
variable {H : Type} {enc : TypeId × Value → H} {w : World} {spare : Nat → Bool} {held : Bool}
/-- a list of expressions that came in. -/
theorem open_exps {fuel : Nat} {v : Value} {x : DataW H × List MemPlace} (h : DataW.trod enc Tryz.prog w 0 spare held fuel 43 [v] = some x) : ∃ es F, KidsIs w (fuel + 1) v es F :=
  open_kids (P := Tryz.prog) Tryz.underlying43 Tryz.underlying45 cellsExp rfl rfl rfl rfl rfl cellsInt cellsInt cellsVal cellsStr cellsKids Tryz.underlying3 Tryz.underlying3 Tryz.underlying42 Tryz.underlying9 rfl rfl rfl rfl cellsInt cellsInt cellsStr Tryz.underlying3 Tryz.underlying3 Tryz.underlying9 fuel fuel (Nat.le_refl _) h
end
end Go.Proofs.YtaeibfipcenhaaaGreatDoor
namespace Go.Proofs.YtaeibfipcenhaaaGreatDoor
open Go.RowKit Go.Deep Go.ChangeShapes Go.WideShapes Go.Joins
set_option linter.unusedVariables false
theorem cellsPlan : Tryz.prog.cellsOf 48 = 12 := by kernel_rfl
theorem cellsPlans : Tryz.prog.cellsOf 46 = 1 := by kernel_rfl
section
variable {H : Type} {enc : TypeId × Value → H} {w : World} {spare : Nat → Bool} {held : Bool}
set_option maxRecDepth 100000 in
/-- the seven cells of an expression that came in. -/
theorem open_exp7 {fuel : Nat} {z0 z1 z2 z3 z4 z5 z6 : Value} {x : DataW H × List MemPlace} (h : DataW.trod enc Tryz.prog w 0 spare held fuel 45 [z0, z1, z2, z3, z4, z5, z6] = some x) :
    ∃ (e : E7) (F : List Nat) (n : Nat), n ≤ fuel ∧ z0 = .int .i64 e.k ∧ z1 = .int .i64 e.n ∧ z2 = .int .i64 e.v.k ∧ z3 = .int .i64 e.v.n ∧ z4 = .string e.v.s ∧ z5 = .string e.p ∧ e.wf ∧ KidsIs w n z6 e.ks F := by
  obtain ⟨xs, k, hk, _, _, hxl, hfld⟩ := DataW.trod_struct Tryz.underlying45 h
  match xs, hxl with
  | [y0, y1, y2, y3, y4], _ =>
    have a0 := hfld 0 _ rfl
    have a1 := hfld 1 _ rfl
    have a2 := hfld 2 _ rfl
    have a3 := hfld 3 _ rfl
    have a4 := hfld 4 _ rfl
    simp [cellsInt, cellsVal, cellsStr, cellsKids] at a0 a1 a2 a3 a4
    obtain ⟨n0, q0, _, w0⟩ := DataW.trod_int Tryz.underlying3 a0
    obtain ⟨n1, q1, _, w1⟩ := DataW.trod_int Tryz.underlying3 a1
    obtain ⟨n3, q3, _, w3⟩ := DataW.trod_string Tryz.underlying9 a3
    obtain ⟨ys, k2, hk2, _, _, hyl, hfl2⟩ := DataW.trod_struct Tryz.underlying42 a2
    match ys, hyl with
    | [b0, b1, b2], _ =>
      have r0 := hfl2 0 _ rfl
      have r1 := hfl2 1 _ rfl
      have r2 := hfl2 2 _ rfl
      simp [cellsInt, cellsStr] at r0 r1 r2
      obtain ⟨m0, s0, _, x0⟩ := DataW.trod_int Tryz.underlying3 r0
      obtain ⟨m1, s1, _, x1⟩ := DataW.trod_int Tryz.underlying3 r1
      obtain ⟨m2, s2, _, x2⟩ := DataW.trod_string Tryz.underlying9 r2
      simp at q0 q1 q3 s0 s1 s2
      subst q0 q1 q3 s0 s1 s2
      obtain ⟨ks, F, hK⟩ := open_exps a4
      exact ⟨.mk n0 n1 ⟨m0, m1, m2⟩ n3 ks, F, k + 1, by omega, rfl, rfl, rfl, rfl, rfl, rfl, ⟨w0, w1, ⟨x0, x1, x2⟩, w3⟩, hK⟩
set_option maxRecDepth 100000 in
/-- the twelve cells of a plan that came in, where its kids are known. -/
theorem open_plan12 {fuel N : Nat} (hN : fuel ≤ N + 1) (ih : ∀ (f : Nat), f ≤ N → ∀ {v : Value} {x : DataW H × List MemPlace}, DataW.trod enc Tryz.prog w 0 spare held f 46 [v] = some x → ∃ ps F, PlansIs w (N + 2) (N + 1) v ps F)
    {z0 z1 z2 z3 z4 z5 z6 z7 z8 z9 z10 z11 : Value} {x : DataW H × List MemPlace} (h : DataW.trod enc Tryz.prog w 0 spare held fuel 48 [z0, z1, z2, z3, z4, z5, z6, z7, z8, z9, z10, z11] = some x) :
    ∃ (p : P12) (g : List Nat), z0 = .int .i64 p.k ∧ z1 = .string p.s ∧ z2 = .int .i64 p.e.k ∧ z3 = .int .i64 p.e.n ∧ z4 = .int .i64 p.e.v.k ∧ z5 = .int .i64 p.e.v.n ∧ z6 = .string p.e.v.s ∧ z7 = .string p.e.p ∧ z10 = .int .i64 p.n ∧ p.wf ∧ ListsP w (N + 2) (PlansIs w (N + 2) (N + 1)) p z8 z9 z11 g := by
  obtain ⟨xs, k, hk, _, _, hxl, hfld⟩ := DataW.trod_struct Tryz.underlying48 h
  match xs, hxl with
  | [y0, y1, y2, y3, y4, y5], _ =>
    have a0 := hfld 0 _ rfl
    have a1 := hfld 1 _ rfl
    have a2 := hfld 2 _ rfl
    have a3 := hfld 3 _ rfl
    have a4 := hfld 4 _ rfl
    have a5 := hfld 5 _ rfl
    simp [cellsInt, cellsStr, cellsExp, cellsKids, cellsPlans] at a0 a1 a2 a3 a4 a5
    obtain ⟨n0, q0, _, w0⟩ := DataW.trod_int Tryz.underlying3 a0
    obtain ⟨n1, q1, _, w1⟩ := DataW.trod_string Tryz.underlying9 a1
    obtain ⟨n4, q4, _, w4⟩ := DataW.trod_int Tryz.underlying3 a4
    simp at q0 q1 q4
    obtain ⟨e, Fe, m, hm, e0, e1, e2, e3, e4, e5, ew, ke⟩ := open_exp7 a2
    obtain ⟨es, Fs, ks⟩ := open_exps a3
    obtain ⟨ps, F, kp⟩ := ih k (by omega) a5
    exact ⟨.mk n0 n1 e es n4 ps, Fe ++ (Fs ++ F), q0, q1, e0, e1, e2, e3, e4, e5, q4, ⟨w0, w1, ew, w4⟩, Fe, Fs, F, rfl, ke.up (by omega), ks.up (by omega), kp⟩
set_option maxRecDepth 100000 in
/-- a list of plans that came in. -/
theorem open_plans : ∀ (N fuel : Nat), fuel ≤ N → ∀ {v : Value} {x : DataW H × List MemPlace}, DataW.trod enc Tryz.prog w 0 spare held fuel 46 [v] = some x → ∃ ps F, PlansIs w (N + 2) (N + 1) v ps F := by
  intro N
  induction N with
  | zero =>
    intro fuel hf v x h
    obtain rfl : fuel = 0 := by omega
    simp [DataW.trod] at h
  | succ N ih =>
    intro fuel hf v x h
    rcases DataW.trod_slice Tryz.underlying46 h with ⟨h0, _⟩ | ⟨a, len, cap, elems, rest, n, hfn, hcs, rfl, hb, hl, hm, hlen, hel, hsp, hns⟩
    · simp at h0; subst h0
      exact ⟨[], [], none, 0, [], rfl, by simp, by simp, rfl, fun _ => rfl, fun h => absurd rfl h⟩
    simp at hcs; subst hcs
    have each : ∀ i, i < len → ∃ q : P12 × List Nat × Value × Value × Value, q.1.wf ∧ (w.cell? (a.add (i * 12)) = some (.int .i64 q.1.k) ∧ w.cell? (a.add (i * 12 + 1)) = some (.string q.1.s) ∧ w.cell? (a.add (i * 12 + 2)) = some (.int .i64 q.1.e.k) ∧ w.cell? (a.add (i * 12 + 3)) = some (.int .i64 q.1.e.n) ∧ w.cell? (a.add (i * 12 + 4)) = some (.int .i64 q.1.e.v.k) ∧ w.cell? (a.add (i * 12 + 5)) = some (.int .i64 q.1.e.v.n) ∧ w.cell? (a.add (i * 12 + 6)) = some (.string q.1.e.v.s) ∧ w.cell? (a.add (i * 12 + 7)) = some (.string q.1.e.p) ∧ w.cell? (a.add (i * 12 + 8)) = some q.2.2.1 ∧ w.cell? (a.add (i * 12 + 9)) = some q.2.2.2.1 ∧ w.cell? (a.add (i * 12 + 10)) = some (.int .i64 q.1.n) ∧ w.cell? (a.add (i * 12 + 11)) = some q.2.2.2.2) ∧ ListsP w (N + 2) (PlansIs w (N + 2) (N + 1)) q.1 q.2.2.1 q.2.2.2.1 q.2.2.2.2 q.2.1 := by
      intro i hi
      have hi1 := hel i hi
      have hie : elems[i]? = some elems[i] := by simp [hlen, hi]
      rw [hie, Option.bind_eq_some_iff] at hi1
      obtain ⟨cs', h1, h2⟩ := hi1
      rw [cellsPlan] at h1
      obtain ⟨_, hlen12, hcell⟩ := World.cells?_some h1
      match cs', hlen12 with
      | [z0, z1, z2, z3, z4, z5, z6, z7, z8, z9, z10, z11], _ =>
        obtain ⟨p, g, r0, r1, r2, r3, r4, r5, r6, r7, r10, hw, hL⟩ := open_plan12 (N := N) (by omega) ih h2
        have e0 := hcell 0 (by omega)
        have e1 := hcell 1 (by omega)
        have e2 := hcell 2 (by omega)
        have e3 := hcell 3 (by omega)
        have e4 := hcell 4 (by omega)
        have e5 := hcell 5 (by omega)
        have e6 := hcell 6 (by omega)
        have e7 := hcell 7 (by omega)
        have e8 := hcell 8 (by omega)
        have e9 := hcell 9 (by omega)
        have e10 := hcell 10 (by omega)
        have e11 := hcell 11 (by omega)
        rw [add_add] at e0 e1 e2 e3 e4 e5 e6 e7 e8 e9 e10 e11
        subst r0 r1 r2 r3 r4 r5 r6 r7 r10
        exact ⟨⟨p, g, z8, z9, z11⟩, hw, ⟨by simpa using e0, by simpa using e1, by simpa using e2, by simpa using e3, by simpa using e4, by simpa using e5, by simpa using e6, by simpa using e7, by simpa using e8, by simpa using e9, by simpa using e10, by simpa using e11⟩, hL⟩
    have : Inhabited (P12 × List Nat × Value × Value × Value) := ⟨⟨.nil, [], .nilFunc, .nilFunc, .nilFunc⟩⟩
    obtain ⟨q, hq⟩ := choose_lt each
    refine ⟨(List.range len).map fun i => (q i).1, if len = 0 then [] else a.block :: ((List.range len).map fun i => (q i).2.1).flatten, some a, cap, (List.range len).map fun i => (q i).2.1, by simp, by simpa using hl, hm, by simp, fun hne => ?_, fun hne => ?_⟩
    · have : len = 0 := by simpa using congrArg List.length hne
      simp [this]
    · have hpos : 0 < len := by
        rcases Nat.eq_zero_or_pos len with h0 | h0
        · subst h0; simp at hne
        · exact h0
      have hs : a.spot = none := by have := World.cell?_spot (hq 0 hpos).2.1.1; simpa [Addr.add] using this
      obtain ⟨b, o, sp⟩ := a
      simp at hs; subst hs
      refine ⟨b, o, rfl, ?_, by simp; omega, fun i x g hx hg => ?_⟩
      · have := World.block_lt_of_cell? _ _ (hq 0 hpos).2.1.1
        simpa [Addr.add] using this
      · have hi : i < len := by
          obtain ⟨h1, _⟩ := List.getElem?_eq_some_iff.1 hx
          simpa using h1
        have ex : x = (q i).1 := by simp [hi] at hx; exact hx.symm
        have eg : g = (q i).2.1 := by simp [hi] at hg; exact hg.symm
        subst ex eg
        obtain ⟨hw, ⟨h0, h1, h2, h3, h4, h5, h6, h7, h8, h9, h10, h11⟩, Fe, Fs, k, hgg, ke, kes, kp⟩ := hq i hi
        rw [add_plain] at h0 h1 h2 h3 h4 h5 h6 h7 h8 h9 h10 h11
        exact ⟨hw, _, _, _, ⟨h0, by simpa [Nat.add_assoc] using h1, by simpa [Nat.add_assoc] using h2, by simpa [Nat.add_assoc] using h3, by simpa [Nat.add_assoc] using h4, by simpa [Nat.add_assoc] using h5, by simpa [Nat.add_assoc] using h6, by simpa [Nat.add_assoc] using h7, by simpa [Nat.add_assoc] using h8, by simpa [Nat.add_assoc] using h9, by simpa [Nat.add_assoc] using h10, by simpa [Nat.add_assoc] using h11⟩, Fe, Fs, k, hgg, ke.up (by omega), kes.up (by omega), kp.up (by omega) (Nat.le_refl _)⟩
end
end Go.Proofs.YtaeibfipcenhaaaGreatDoor
namespace Go.Proofs.YtaeibfipcenhaaaGreatDoor
open Go.RowKit Go.Deep Go.ChangeShapes Go.WideShapes
set_option linter.unusedVariables false
/-- a view: its name, its plan, its bag's width and rows. -/
structure V15 where
  s : ByteArray
  p : P12
  W : Int
  cs : List C2
def V15.wf (x : V15) : Prop := x.s.size ≤ maxLen ∧ x.p.wf ∧ (Lit.int .i64 x.W).wf = true ∧ CsWf x.cs
/-- the fifteen cells of a view. -/
def cellsV (w : World) (b q : Nat) (x : V15) (ue us u v : Value) : Prop := w.cell? ⟨b, q, none⟩ = some (.string x.s) ∧ w.cell? ⟨b, q + 1, none⟩ = some (.int .i64 x.p.k) ∧ w.cell? ⟨b, q + 2, none⟩ = some (.string x.p.s) ∧ w.cell? ⟨b, q + 3, none⟩ = some (.int .i64 x.p.e.k) ∧ w.cell? ⟨b, q + 4, none⟩ = some (.int .i64 x.p.e.n) ∧ w.cell? ⟨b, q + 5, none⟩ = some (.int .i64 x.p.e.v.k) ∧ w.cell? ⟨b, q + 6, none⟩ = some (.int .i64 x.p.e.v.n) ∧ w.cell? ⟨b, q + 7, none⟩ = some (.string x.p.e.v.s) ∧ w.cell? ⟨b, q + 8, none⟩ = some (.string x.p.e.p) ∧ w.cell? ⟨b, q + 9, none⟩ = some (ue) ∧ w.cell? ⟨b, q + 10, none⟩ = some (us) ∧ w.cell? ⟨b, q + 11, none⟩ = some (.int .i64 x.p.n) ∧ w.cell? ⟨b, q + 12, none⟩ = some (u) ∧ w.cell? ⟨b, q + 13, none⟩ = some (.int .i64 x.W) ∧ w.cell? ⟨b, q + 14, none⟩ = some (v)
theorem cellsV.keep {w w' : World} {b q : Nat} {x : V15} {ue us u v : Value} (h : cellsV w b q x ue us u v) (hb : w'.heap[b]? = w.heap[b]?) : cellsV w' b q x ue us u v := by
  obtain ⟨h0, h1, h2, h3, h4, h5, h6, h7, h8, h9, h10, h11, h12, h13, h14⟩ := h
  exact ⟨(cell_blk hb).trans h0, (cell_blk hb).trans h1, (cell_blk hb).trans h2, (cell_blk hb).trans h3, (cell_blk hb).trans h4, (cell_blk hb).trans h5, (cell_blk hb).trans h6, (cell_blk hb).trans h7, (cell_blk hb).trans h8, (cell_blk hb).trans h9, (cell_blk hb).trans h10, (cell_blk hb).trans h11, (cell_blk hb).trans h12, (cell_blk hb).trans h13, (cell_blk hb).trans h14⟩
/-- the views vs lie in w from cell o of block b on, their plans' lists in the blocks G. -/
def VLies (w : World) (D d b o : Nat) (vs : List V15) (G : List (List Nat)) : Prop :=
  ∀ i x g, vs[i]? = some x → G[i]? = some g → x.wf ∧ ∃ ue us u v, cellsV w b (o + i * 15) x ue us u v ∧ ListsP w D (PlansIs w D d) x.p ue us u g ∧ RowsIs w v x.cs
/-- the slice value v has the views vs. -/
def ViewsIs (w : World) (D d : Nat) (v : Value) (vs : List V15) (G : List (List Nat)) : Prop :=
  ∃ a c, v = .slice a vs.length c ∧ vs.length ≤ c ∧ c ≤ maxLen ∧ G.length = vs.length ∧ (vs ≠ [] → ∃ b o, a = some ⟨b, o, none⟩ ∧ b < w.heap.size ∧ VLies w D d b o vs G)
theorem VLies.below {w w' : World} {D d b o : Nat} {vs : List V15} {G : List (List Nat)} (h : VLies w D d b o vs G) (hb : Below w.heap.size w w') (hN : b < w.heap.size) : VLies w' D d b o vs G := fun i x g hx hg => by
  obtain ⟨hw, ue, us, u, v, h0, h1, h2⟩ := h i x g hx hg
  exact ⟨hw, ue, us, u, v, h0.keep (hb.block b hN), h1.below hb, h2.below hb⟩
theorem ViewsIs.below {w w' : World} {D d : Nat} {v : Value} {vs : List V15} {G : List (List Nat)} (h : ViewsIs w D d v vs G) (hb : Below w.heap.size w w') : ViewsIs w' D d v vs G := by
  obtain ⟨a, c, rfl, hl, hc, hG, h⟩ := h
  refine ⟨a, c, rfl, hl, hc, hG, fun hne => ?_⟩
  obtain ⟨b, o, rfl, hlt, hL⟩ := h hne
  exact ⟨b, o, rfl, Nat.lt_of_lt_of_le hlt hb.size, hL.below hb hlt⟩
theorem ViewsIs.shape {w : World} {D d : Nat} {v : Value} {vs : List V15} {G : List (List Nat)} (h : ViewsIs w D d v vs G) : ∃ a c, v = .slice a vs.length c ∧ vs.length ≤ c ∧ c ≤ maxLen := by
  obtain ⟨a, c, h, h1, h2, _⟩ := h
  exact ⟨a, c, h, h1, h2⟩
theorem ViewsIs.pick {w : World} {D d : Nat} {v : Value} {vs : List V15} {G : List (List Nat)} (h : ViewsIs w D d v vs G) :
    ∃ a c b o, v = .slice a vs.length c ∧ vs.length ≤ c ∧ c ≤ maxLen ∧ G.length = vs.length ∧ ∀ k, k < vs.length → a = some ⟨b, o, none⟩ ∧ b < w.heap.size ∧ VLies w D d b o vs G := by
  obtain ⟨a, c, rfl, hl, hc, hG, h⟩ := h
  by_cases hne : vs = []
  · exact ⟨a, c, 0, 0, rfl, hl, hc, hG, fun k hk => by rw [hne] at hk; simp at hk⟩
  · obtain ⟨b, o, h⟩ := h hne
    exact ⟨a, c, b, o, rfl, hl, hc, hG, fun _ _ => h⟩
theorem VLies.at {w w' : World} {D d b o : Nat} {vs : List V15} {G : List (List Nat)} (h : VLies w D d b o vs G) (hG : G.length = vs.length) (hlt : b < w.heap.size) (hb : Below w.heap.size w w') {k : Nat} (hk : k < vs.length) :
    ∃ x g ue us u v, vs[k]? = some x ∧ G[k]? = some g ∧ x.wf ∧ cellsV w' b (o + k * 15) x ue us u v ∧ ListsP w' D (PlansIs w' D d) x.p ue us u g ∧ RowsIs w' v x.cs ∧ b < w'.heap.size := by
  have hk' : k < G.length := by omega
  obtain ⟨hw, ue, us, u, v, h0, h1, h2⟩ := h k vs[k] G[k] (by simp) (by simp)
  exact ⟨vs[k], G[k], ue, us, u, v, by simp, by simp, hw, h0.keep (hb.block b hlt), h1.below hb, h2.below hb, Nat.lt_of_lt_of_le hlt hb.size⟩
/-- what views weigh. -/
def wtv (x : V15) : Nat := x.s.size + wtP x.p + wtb x.cs
def wtvs (vs : List V15) : Nat := (vs.map wtv).sum
def wtV (vs : List V15) : Nat := vs.length + wtvs vs
theorem wtvs_take {vs : List V15} {k : Nat} {x : V15} (h : vs[k]? = some x) : wtvs (vs.take (k + 1)) = wtvs (vs.take k) + wtv x := by
  unfold wtvs
  obtain ⟨hk, rfl⟩ := List.getElem?_eq_some_iff.1 h
  rw [List.take_succ_eq_append_getElem hk, List.map_append, List.sum_append]
  simp only [List.map_cons, List.map_nil, List.sum_cons, List.sum_nil, Nat.add_zero]
theorem wtv_mem {vs : List V15} {x : V15} (h : x ∈ vs) : wtv x ≤ wtvs vs := by
  unfold wtvs
  induction vs with
  | nil => cases h
  | cons y ys ih =>
    simp only [List.map_cons, List.sum_cons]
    rcases List.mem_cons.1 h with rfl | h
    · omega
    · have := ih h; omega
theorem cellsView : Tryz.prog.cellsOf 50 = 15 := by kernel_rfl
theorem cellsBagV : Tryz.prog.cellsOf 37 = 2 := by kernel_rfl
theorem cellsRowsV : Tryz.prog.cellsOf 35 = 1 := by kernel_rfl
section
variable {H : Type} {enc : TypeId × Value → H} {w : World} {spare : Nat → Bool} {held : Bool}
set_option maxHeartbeats 1000000 in
set_option maxRecDepth 100000 in
/-- a list of views that came in. -/
theorem open_views {fuel : Nat} {v : Value} {x : DataW H × List MemPlace} (h : DataW.trod enc Tryz.prog w 0 spare held fuel 23 [v] = some x) : ∃ vs D d G, ViewsIs w D d v vs G := by
  rcases DataW.trod_slice Tryz.underlying23 h with ⟨h0, _⟩ | ⟨a, len, cap, elems, rest, N, hfn, hcs, rfl, hb, hl, hm, hlen, hel, hsp, hns⟩
  · simp at h0; subst h0
    exact ⟨[], 0, 0, [], none, 0, rfl, by simp, by simp, rfl, fun h => absurd rfl h⟩
  simp at hcs; subst hcs
  have each : ∀ i, i < len → ∃ q : V15 × List Nat × Value × Value × Value × Value, q.1.wf ∧ (w.cell? (a.add (i * 15)) = some (.string q.1.s) ∧ w.cell? (a.add (i * 15 + 1)) = some (.int .i64 q.1.p.k) ∧ w.cell? (a.add (i * 15 + 2)) = some (.string q.1.p.s) ∧ w.cell? (a.add (i * 15 + 3)) = some (.int .i64 q.1.p.e.k) ∧ w.cell? (a.add (i * 15 + 4)) = some (.int .i64 q.1.p.e.n) ∧ w.cell? (a.add (i * 15 + 5)) = some (.int .i64 q.1.p.e.v.k) ∧ w.cell? (a.add (i * 15 + 6)) = some (.int .i64 q.1.p.e.v.n) ∧ w.cell? (a.add (i * 15 + 7)) = some (.string q.1.p.e.v.s) ∧ w.cell? (a.add (i * 15 + 8)) = some (.string q.1.p.e.p) ∧ w.cell? (a.add (i * 15 + 9)) = some (q.2.2.1) ∧ w.cell? (a.add (i * 15 + 10)) = some (q.2.2.2.1) ∧ w.cell? (a.add (i * 15 + 11)) = some (.int .i64 q.1.p.n) ∧ w.cell? (a.add (i * 15 + 12)) = some (q.2.2.2.2.1) ∧ w.cell? (a.add (i * 15 + 13)) = some (.int .i64 q.1.W) ∧ w.cell? (a.add (i * 15 + 14)) = some (q.2.2.2.2.2)) ∧ ListsP w (N + 2) (PlansIs w (N + 2) (N + 1)) q.1.p q.2.2.1 q.2.2.2.1 q.2.2.2.2.1 q.2.1 ∧ RowsIs w q.2.2.2.2.2 q.1.cs := by
    intro i hi
    have hi1 := hel i hi
    have hie : elems[i]? = some elems[i] := by simp [hlen, hi]
    rw [hie, Option.bind_eq_some_iff] at hi1
    obtain ⟨cs', h1, h2⟩ := hi1
    rw [cellsView] at h1
    obtain ⟨_, hlen15, hcell⟩ := World.cells?_some h1
    match cs', hlen15 with
    | [z0, z1, z2, z3, z4, z5, z6, z7, z8, z9, z10, z11, z12, z13, z14], _ =>
      obtain ⟨xs, k, hk, _, _, hxl, hfld⟩ := DataW.trod_struct Tryz.underlying50 h2
      match xs, hxl with
      | [y0, y1, y2], _ =>
        have a0 := hfld 0 _ rfl
        have a1 := hfld 1 _ rfl
        have a2 := hfld 2 _ rfl
        simp [cellsStr, cellsPlan, cellsBagV] at a0 a1 a2
        obtain ⟨s0, r0, _, ws⟩ := DataW.trod_string Tryz.underlying9 a0
        obtain ⟨p, g, r1, r2, r3, r4, r5, r6, r7, r8, r11, hw, hL⟩ := open_plan12 (N := N) (by omega) (fun f hf' => open_plans N f hf') a1
        obtain ⟨ys, k2, hk2, _, _, hyl, hf2⟩ := DataW.trod_struct Tryz.underlying37 a2
        match ys, hyl with
        | [b0, b1], _ =>
          have q0 := hf2 0 _ rfl
          have q1 := hf2 1 _ rfl
          simp [cellsInt, cellsRowsV] at q0 q1
          obtain ⟨i0, r13, _, wi⟩ := DataW.trod_int Tryz.underlying3 q0
          simp at r0 r13
          obtain ⟨cs0, hr0, hw0⟩ := open_rows Tryz.underlying35 Tryz.underlying123 (by kernel_rfl) rfl rfl (by kernel_rfl) (by kernel_rfl) Tryz.underlying121 Tryz.underlying3 Tryz.underlying42 (by kernel_rfl) rfl rfl rfl (by kernel_rfl) (by kernel_rfl) (by kernel_rfl) Tryz.underlying3 Tryz.underlying3 Tryz.underlying9 q1
          have e0 := hcell 0 (by omega)
          have e1 := hcell 1 (by omega)
          have e2 := hcell 2 (by omega)
          have e3 := hcell 3 (by omega)
          have e4 := hcell 4 (by omega)
          have e5 := hcell 5 (by omega)
          have e6 := hcell 6 (by omega)
          have e7 := hcell 7 (by omega)
          have e8 := hcell 8 (by omega)
          have e9 := hcell 9 (by omega)
          have e10 := hcell 10 (by omega)
          have e11 := hcell 11 (by omega)
          have e12 := hcell 12 (by omega)
          have e13 := hcell 13 (by omega)
          have e14 := hcell 14 (by omega)
          rw [add_add] at e0 e1 e2 e3 e4 e5 e6 e7 e8 e9 e10 e11 e12 e13 e14
          subst r0 r1 r2 r3 r4 r5 r6 r7 r8 r11 r13
          exact ⟨⟨⟨s0, p, i0, cs0⟩, g, z9, z10, z12, z14⟩, ⟨ws, hw, wi, hw0⟩, ⟨by simpa using e0, by simpa using e1, by simpa using e2, by simpa using e3, by simpa using e4, by simpa using e5, by simpa using e6, by simpa using e7, by simpa using e8, by simpa using e9, by simpa using e10, by simpa using e11, by simpa using e12, by simpa using e13, by simpa using e14⟩, hL, hr0⟩
  have : Inhabited (V15 × List Nat × Value × Value × Value × Value) := ⟨⟨⟨⟨#[]⟩, .nil, 0, []⟩, [], .nilFunc, .nilFunc, .nilFunc, .nilFunc⟩⟩
  obtain ⟨q, hq⟩ := choose_lt each
  refine ⟨(List.range len).map fun i => (q i).1, N + 2, N + 1, (List.range len).map fun i => (q i).2.1, some a, cap, by simp, by simpa using hl, hm, by simp, fun hne => ?_⟩
  have hpos : 0 < len := by
    rcases Nat.eq_zero_or_pos len with h0 | h0
    · subst h0; simp at hne
    · exact h0
  have hs : a.spot = none := by have := World.cell?_spot (hq 0 hpos).2.1.1; simpa [Addr.add] using this
  obtain ⟨b, o, sp⟩ := a
  simp at hs; subst hs
  refine ⟨b, o, rfl, ?_, fun i x g hx hg => ?_⟩
  · have := World.block_lt_of_cell? _ _ (hq 0 hpos).2.1.1
    simpa [Addr.add] using this
  · have hi : i < len := by
      obtain ⟨h1, _⟩ := List.getElem?_eq_some_iff.1 hx
      simpa using h1
    have ex : x = (q i).1 := by simp [hi] at hx; exact hx.symm
    have eg : g = (q i).2.1 := by simp [hi] at hg; exact hg.symm
    subst ex eg
    obtain ⟨hw, ⟨h0, h1, h2, h3, h4, h5, h6, h7, h8, h9, h10, h11, h12, h13, h14⟩, hL, hR⟩ := hq i hi
    rw [add_plain] at h0 h1 h2 h3 h4 h5 h6 h7 h8 h9 h10 h11 h12 h13 h14
    exact ⟨hw, _, _, _, _, ⟨h0, by simpa [Nat.add_assoc] using h1, by simpa [Nat.add_assoc] using h2, by simpa [Nat.add_assoc] using h3, by simpa [Nat.add_assoc] using h4, by simpa [Nat.add_assoc] using h5, by simpa [Nat.add_assoc] using h6, by simpa [Nat.add_assoc] using h7, by simpa [Nat.add_assoc] using h8, by simpa [Nat.add_assoc] using h9, by simpa [Nat.add_assoc] using h10, by simpa [Nat.add_assoc] using h11, by simpa [Nat.add_assoc] using h12, by simpa [Nat.add_assoc] using h13, by simpa [Nat.add_assoc] using h14⟩, hL, hR⟩
end
end Go.Proofs.YtaeibfipcenhaaaGreatDoor
namespace Go.Proofs.YtaeibfipcenhaaaGreatDoor
open Go.RowKit
set_option linter.unusedVariables false
/-- whether the name before, if there is one, is less. -/
def okPrevV (p : Option V15) (x : V15) : Bool := match p with
  | none => true
  | some y => Op.bytesLess y.s.toList x.s.toList
/-- whether one view is right: its name is one, no relation has it, its plan is right, it stands behind the one before. -/
def okVw (rs : List R3) (p : Option V15) (x : V15) : Bool := nameB x.s && (relOf rs x.s).isNone && decide (0 ≤ widthP rs 9 x.p) && okPrevV p x
def okVs (rs : List R3) : Option V15 → List V15 → Bool
  | _, [] => true
  | p, x :: xs => okVw rs p x && okVs rs (some x) xs
def prevV (vs : List V15) (k : Nat) : Option V15 := if k = 0 then none else vs[k - 1]?
/-- whether views are right over relations. -/
def viewsP (rs : List R3) (vs : List V15) : Bool := okDb rs && decide (vs.length ≤ 10) && okVs rs none vs
theorem okVs_step {rs : List R3} {vs : List V15} {k : Nat} {x : V15} (h : vs[k]? = some x) :
    okVs rs (prevV vs k) (vs.drop k) = (okVw rs (prevV vs k) x && okVs rs (prevV vs (k + 1)) (vs.drop (k + 1))) := by
  obtain ⟨hk, rfl⟩ := List.getElem?_eq_some_iff.1 h
  rw [List.drop_eq_getElem_cons hk]
  simp [okVs, prevV, hk]
theorem prevV_zero (vs : List V15) : prevV vs 0 = none := rfl
theorem prevV_succ {vs : List V15} {j : Nat} {y : V15} (h : vs[j]? = some y) : prevV vs (j + 1) = some y := by simp [prevV, h]
end Go.Proofs.YtaeibfipcenhaaaGreatDoor
