/- Own text. A plan that came in: its parts, and how its lists lie. -/
import Derived.Test.YtflnkfjjjacjbaaPlK
import Derived.Test.YtflnkfjjjacjbaaOpenE
import Derived.Lib.SmallJoins
namespace Go.Proofs.Ytflnkfjjjacjbaa
open Go.RowKit Go.Deep Go.ChangeShapes Go.WideShapes Go.Joins
set_option linter.unusedVariables false
theorem cellsPlan : Try.prog.cellsOf 29 = 12 := by kernel_rfl
theorem cellsPlans : Try.prog.cellsOf 27 = 1 := by kernel_rfl
section
variable {H : Type} {enc : TypeId × Value → H} {w : World} {spare : Nat → Bool} {held : Bool}
set_option maxRecDepth 100000 in
/-- the seven cells of an expression that came in. -/
theorem open_exp7 {fuel : Nat} {z0 z1 z2 z3 z4 z5 z6 : Value} {x : DataW H × List MemPlace} (h : DataW.trod enc Try.prog w 0 spare held fuel 26 [z0, z1, z2, z3, z4, z5, z6] = some x) :
    ∃ (e : E7) (F : List Nat) (n : Nat), n ≤ fuel ∧ z0 = .int .i64 e.k ∧ z1 = .int .i64 e.n ∧ z2 = .int .i64 e.v.k ∧ z3 = .int .i64 e.v.n ∧ z4 = .string e.v.s ∧ z5 = .string e.p ∧ e.wf ∧ KidsIs w n z6 e.ks F := by
  obtain ⟨xs, k, hk, _, _, hxl, hfld⟩ := DataW.trod_struct Try.underlying26 h
  match xs, hxl with
  | [y0, y1, y2, y3, y4], _ =>
    have a0 := hfld 0 _ rfl
    have a1 := hfld 1 _ rfl
    have a2 := hfld 2 _ rfl
    have a3 := hfld 3 _ rfl
    have a4 := hfld 4 _ rfl
    simp [cellsInt, cellsVal, cellsStr, cellsKids] at a0 a1 a2 a3 a4
    obtain ⟨n0, q0, _, w0⟩ := DataW.trod_int Try.underlying3 a0
    obtain ⟨n1, q1, _, w1⟩ := DataW.trod_int Try.underlying3 a1
    obtain ⟨n3, q3, _, w3⟩ := DataW.trod_string Try.underlying9 a3
    obtain ⟨ys, k2, hk2, _, _, hyl, hfl2⟩ := DataW.trod_struct Try.underlying23 a2
    match ys, hyl with
    | [b0, b1, b2], _ =>
      have r0 := hfl2 0 _ rfl
      have r1 := hfl2 1 _ rfl
      have r2 := hfl2 2 _ rfl
      simp [cellsInt, cellsStr] at r0 r1 r2
      obtain ⟨m0, s0, _, x0⟩ := DataW.trod_int Try.underlying3 r0
      obtain ⟨m1, s1, _, x1⟩ := DataW.trod_int Try.underlying3 r1
      obtain ⟨m2, s2, _, x2⟩ := DataW.trod_string Try.underlying9 r2
      simp at q0 q1 q3 s0 s1 s2
      subst q0 q1 q3 s0 s1 s2
      obtain ⟨ks, F, hK⟩ := open_exps a4
      exact ⟨.mk n0 n1 ⟨m0, m1, m2⟩ n3 ks, F, k + 1, by omega, rfl, rfl, rfl, rfl, rfl, rfl, ⟨w0, w1, ⟨x0, x1, x2⟩, w3⟩, hK⟩
set_option maxRecDepth 100000 in
/-- the twelve cells of a plan that came in, where its kids are known. -/
theorem open_plan12 {fuel N : Nat} (hN : fuel ≤ N + 1) (ih : ∀ (f : Nat), f ≤ N → ∀ {v : Value} {x : DataW H × List MemPlace}, DataW.trod enc Try.prog w 0 spare held f 27 [v] = some x → ∃ ps F, PlansIs w (N + 2) (N + 1) v ps F)
    {z0 z1 z2 z3 z4 z5 z6 z7 z8 z9 z10 z11 : Value} {x : DataW H × List MemPlace} (h : DataW.trod enc Try.prog w 0 spare held fuel 29 [z0, z1, z2, z3, z4, z5, z6, z7, z8, z9, z10, z11] = some x) :
    ∃ (p : P12) (g : List Nat), z0 = .int .i64 p.k ∧ z1 = .string p.s ∧ z2 = .int .i64 p.e.k ∧ z3 = .int .i64 p.e.n ∧ z4 = .int .i64 p.e.v.k ∧ z5 = .int .i64 p.e.v.n ∧ z6 = .string p.e.v.s ∧ z7 = .string p.e.p ∧ z10 = .int .i64 p.n ∧ p.wf ∧ ListsP w (N + 2) (PlansIs w (N + 2) (N + 1)) p z8 z9 z11 g := by
  obtain ⟨xs, k, hk, _, _, hxl, hfld⟩ := DataW.trod_struct Try.underlying29 h
  match xs, hxl with
  | [y0, y1, y2, y3, y4, y5], _ =>
    have a0 := hfld 0 _ rfl
    have a1 := hfld 1 _ rfl
    have a2 := hfld 2 _ rfl
    have a3 := hfld 3 _ rfl
    have a4 := hfld 4 _ rfl
    have a5 := hfld 5 _ rfl
    simp [cellsInt, cellsStr, cellsExp, cellsKids, cellsPlans] at a0 a1 a2 a3 a4 a5
    obtain ⟨n0, q0, _, w0⟩ := DataW.trod_int Try.underlying3 a0
    obtain ⟨n1, q1, _, w1⟩ := DataW.trod_string Try.underlying9 a1
    obtain ⟨n4, q4, _, w4⟩ := DataW.trod_int Try.underlying3 a4
    simp at q0 q1 q4
    obtain ⟨e, Fe, m, hm, e0, e1, e2, e3, e4, e5, ew, ke⟩ := open_exp7 a2
    obtain ⟨es, Fs, ks⟩ := open_exps a3
    obtain ⟨ps, F, kp⟩ := ih k (by omega) a5
    exact ⟨.mk n0 n1 e es n4 ps, Fe ++ (Fs ++ F), q0, q1, e0, e1, e2, e3, e4, e5, q4, ⟨w0, w1, ew, w4⟩, Fe, Fs, F, rfl, ke.up (by omega), ks.up (by omega), kp⟩
set_option maxRecDepth 100000 in
/-- a list of plans that came in. -/
theorem open_plans : ∀ (N fuel : Nat), fuel ≤ N → ∀ {v : Value} {x : DataW H × List MemPlace}, DataW.trod enc Try.prog w 0 spare held fuel 27 [v] = some x → ∃ ps F, PlansIs w (N + 2) (N + 1) v ps F := by
  intro N
  induction N with
  | zero =>
    intro fuel hf v x h
    obtain rfl : fuel = 0 := by omega
    simp [DataW.trod] at h
  | succ N ih =>
    intro fuel hf v x h
    rcases DataW.trod_slice Try.underlying27 h with ⟨h0, _⟩ | ⟨a, len, cap, elems, rest, n, hfn, hcs, rfl, hb, hl, hm, hlen, hel, hsp, hns⟩
    · simp at h0; subst h0
      exact ⟨[], [], none, 0, [], rfl, by simp, by simp, rfl, fun _ => rfl, fun h => absurd rfl h⟩
    simp at hcs; subst hcs
    have each : ∀ i, i < len → ∃ q : P12 × List Nat × Value × Value × Value, q.1.wf ∧ (w.cell? (a.add (i * 12)) = some (.int .i64 q.1.k) ∧ w.cell? (a.add (i * 12 + 1)) = some (.string q.1.s) ∧ w.cell? (a.add (i * 12 + 2)) = some (.int .i64 q.1.e.k) ∧ w.cell? (a.add (i * 12 + 3)) = some (.int .i64 q.1.e.n) ∧ w.cell? (a.add (i * 12 + 4)) = some (.int .i64 q.1.e.v.k) ∧ w.cell? (a.add (i * 12 + 5)) = some (.int .i64 q.1.e.v.n) ∧ w.cell? (a.add (i * 12 + 6)) = some (.string q.1.e.v.s) ∧ w.cell? (a.add (i * 12 + 7)) = some (.string q.1.e.p) ∧ w.cell? (a.add (i * 12 + 8)) = some q.2.2.1 ∧ w.cell? (a.add (i * 12 + 9)) = some q.2.2.2.1 ∧ w.cell? (a.add (i * 12 + 10)) = some (.int .i64 q.1.n) ∧ w.cell? (a.add (i * 12 + 11)) = some q.2.2.2.2) ∧ ListsP w (N + 2) (PlansIs w (N + 2) (N + 1)) q.1 q.2.2.1 q.2.2.2.1 q.2.2.2.2 q.2.1 := by
      intro i hi
      have hi1 := hel i hi
      have hie : elems[i]? = some elems[i] := by simp [hlen, hi]
      rw [hie, Option.bind_eq_some_iff] at hi1
      obtain ⟨cs', h1, h2⟩ := hi1
      rw [cellsPlan] at h1
      obtain ⟨_, hlen12, hcell⟩ := World.cells?_some h1
      match cs', hlen12 with
      | [z0, z1, z2, z3, z4, z5, z6, z7, z8, z9, z10, z11], _ =>
        obtain ⟨p, g, r0, r1, r2, r3, r4, r5, r6, r7, r10, hw, hL⟩ := open_plan12 (N := N) (by omega) ih h2
        have e0 := hcell 0 (by omega)
        have e1 := hcell 1 (by omega)
        have e2 := hcell 2 (by omega)
        have e3 := hcell 3 (by omega)
        have e4 := hcell 4 (by omega)
        have e5 := hcell 5 (by omega)
        have e6 := hcell 6 (by omega)
        have e7 := hcell 7 (by omega)
        have e8 := hcell 8 (by omega)
        have e9 := hcell 9 (by omega)
        have e10 := hcell 10 (by omega)
        have e11 := hcell 11 (by omega)
        rw [add_add] at e0 e1 e2 e3 e4 e5 e6 e7 e8 e9 e10 e11
        subst r0 r1 r2 r3 r4 r5 r6 r7 r10
        exact ⟨⟨p, g, z8, z9, z11⟩, hw, ⟨by simpa using e0, by simpa using e1, by simpa using e2, by simpa using e3, by simpa using e4, by simpa using e5, by simpa using e6, by simpa using e7, by simpa using e8, by simpa using e9, by simpa using e10, by simpa using e11⟩, hL⟩
    have : Inhabited (P12 × List Nat × Value × Value × Value) := ⟨⟨.nil, [], .nilFunc, .nilFunc, .nilFunc⟩⟩
    obtain ⟨q, hq⟩ := choose_lt each
    refine ⟨(List.range len).map fun i => (q i).1, if len = 0 then [] else a.block :: ((List.range len).map fun i => (q i).2.1).flatten, some a, cap, (List.range len).map fun i => (q i).2.1, by simp, by simpa using hl, hm, by simp, fun hne => ?_, fun hne => ?_⟩
    · have : len = 0 := by simpa using congrArg List.length hne
      simp [this]
    · have hpos : 0 < len := by
        rcases Nat.eq_zero_or_pos len with h0 | h0
        · subst h0; simp at hne
        · exact h0
      have hs : a.spot = none := by have := World.cell?_spot (hq 0 hpos).2.1.1; simpa [Addr.add] using this
      obtain ⟨b, o, sp⟩ := a
      simp at hs; subst hs
      refine ⟨b, o, rfl, ?_, by simp; omega, fun i x g hx hg => ?_⟩
      · have := World.block_lt_of_cell? _ _ (hq 0 hpos).2.1.1
        simpa [Addr.add] using this
      · have hi : i < len := by
          obtain ⟨h1, _⟩ := List.getElem?_eq_some_iff.1 hx
          simpa using h1
        have ex : x = (q i).1 := by simp [hi] at hx; exact hx.symm
        have eg : g = (q i).2.1 := by simp [hi] at hg; exact hg.symm
        subst ex eg
        obtain ⟨hw, ⟨h0, h1, h2, h3, h4, h5, h6, h7, h8, h9, h10, h11⟩, Fe, Fs, k, hgg, ke, kes, kp⟩ := hq i hi
        rw [add_plain] at h0 h1 h2 h3 h4 h5 h6 h7 h8 h9 h10 h11
        exact ⟨hw, _, _, _, ⟨h0, by simpa [Nat.add_assoc] using h1, by simpa [Nat.add_assoc] using h2, by simpa [Nat.add_assoc] using h3, by simpa [Nat.add_assoc] using h4, by simpa [Nat.add_assoc] using h5, by simpa [Nat.add_assoc] using h6, by simpa [Nat.add_assoc] using h7, by simpa [Nat.add_assoc] using h8, by simpa [Nat.add_assoc] using h9, by simpa [Nat.add_assoc] using h10, by simpa [Nat.add_assoc] using h11⟩, Fe, Fs, k, hgg, ke.up (by omega), kes.up (by omega), kp.up (by omega) (Nat.le_refl _)⟩
set_option maxRecDepth 100000 in
theorem open_plan {r : Reach} {b0 : Nat} {v : Value} {d : DataW H} {ps : List MemPlace} (hv : Value.okWide Try.prog w r b0 29 v) (h : DataW.Trod enc Try.prog w 0 spare held 29 v d ps) :
    ∃ (p : P12) (ue us u : Value) (F : List Nat) (D n : Nat), v = (.agg #[.int .i64 p.k, .string p.s, .int .i64 p.e.k, .int .i64 p.e.n, .int .i64 p.e.v.k, .int .i64 p.e.v.n, .string p.e.v.s, .string p.e.p, ue, us, .int .i64 p.n, u]) ∧ p.wf ∧ ListsP w D (PlansIs w D n) p ue us u F := by
  obtain ⟨⟨cs⟩, rfl, hsz⟩ := okWide_struct Try.underlying29 hv
  obtain ⟨fuel, hf⟩ := h
  have hs12 : cs.length = 12 := by have := hsz.trans cellsPlan; simpa using this
  match cs, hs12 with
  | [z0, z1, z2, z3, z4, z5, z6, z7, z8, z9, z10, z11], _ =>
    obtain ⟨p, g, r0, r1, r2, r3, r4, r5, r6, r7, r10, hw, hL⟩ := open_plan12 (N := fuel) (fuel := fuel) (by omega) (fun f hf' => open_plans fuel f hf') (by simpa [Value.cells] using hf)
    subst r0 r1 r2 r3 r4 r5 r6 r7 r10
    exact ⟨p, z8, z9, z11, g, _, _, rfl, hw, hL⟩
end
end Go.Proofs.Ytflnkfjjjacjbaa
