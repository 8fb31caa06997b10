/- Own text. A question that came in: its parts, and how its lists lie. -/
import Derived.Test.YtmheiehhdmajfaaSelK
import Derived.Test.YtmheiehhdmajfaaOpenA
import Derived.Lib.SmallJoins
namespace Go.Proofs.Ytmheiehhdmajfaa
open Go.RowKit Go.Deep Go.ChangeShapes Go.WideShapes Go.Joins
set_option linter.unusedVariables false
theorem cellsSel : Try.prog.cellsOf 26 = 8 := by kernel_rfl
theorem cellsSels : Try.prog.cellsOf 24 = 1 := by kernel_rfl
theorem cellsBool : Try.prog.cellsOf 4 = 1 := by kernel_rfl
theorem cellsStrs : Try.prog.cellsOf 23 = 1 := by kernel_rfl
section
variable {H : Type} {enc : TypeId × Value → H} {w : World} {spare : Nat → Bool} {held : Bool}
set_option maxRecDepth 100000 in
/-- the eight cells of a question that came in, where its next ones are known. -/
theorem open_select8 {fuel N : Nat} (hN : fuel ≤ N + 1) (ih : ∀ (f : Nat), f ≤ N → ∀ {v : Value} {x : DataW H × List MemPlace}, DataW.trod enc Try.prog w 0 spare held f 24 [v] = some x → ∃ ps F, SelsIs w (N + 2) (N + 1) v ps F)
    {z0 z1 z2 z3 z4 z5 z6 z7 : Value} {x : DataW H × List MemPlace} (h : DataW.trod enc Try.prog w 0 spare held fuel 26 [z0, z1, z2, z3, z4, z5, z6, z7] = some x) :
    ∃ (p : S8) (g : List Nat), z0 = .bool p.d ∧ z1 = .bool p.s ∧ p.wf ∧ ListsQ w (N + 2) (SelsIs w (N + 2) (N + 1)) p z2 z3 z4 z5 z6 z7 g := by
  obtain ⟨xs, k, hk, _, _, hxl, hfld⟩ := DataW.trod_struct Try.underlying26 h
  match xs, hxl with
  | [y0, y1, y2, y3, y4, y5, y6, y7], _ =>
    have a0 := hfld 0 _ rfl
    have a1 := hfld 1 _ rfl
    have a2 := hfld 2 _ rfl
    have a3 := hfld 3 _ rfl
    have a4 := hfld 4 _ rfl
    have a5 := hfld 5 _ rfl
    have a6 := hfld 6 _ rfl
    have a7 := hfld 7 _ rfl
    simp [cellsBool, cellsAsts, cellsStrs, cellsSels] at a0 a1 a2 a3 a4 a5 a6 a7
    obtain ⟨n0, q0, _⟩ := DataW.trod_bool Try.underlying4 a0
    obtain ⟨n1, q1, _⟩ := DataW.trod_bool Try.underlying4 a1
    simp at q0 q1
    obtain ⟨e2, F2, k2⟩ := open_asts a2
    obtain ⟨e3, F3, k3, w3⟩ := open_strs Try.underlying23 Try.underlying9 cellsStr a3
    obtain ⟨e4, F4, k4⟩ := open_asts a4
    obtain ⟨e5, F5, k5⟩ := open_asts a5
    obtain ⟨e6, F6, k6⟩ := open_asts a6
    obtain ⟨ps, F, kp⟩ := ih k (by omega) a7
    exact ⟨.mk n0 n1 e2 e3 e4 e5 e6 ps, F2 ++ (F3 ++ (F4 ++ (F5 ++ (F6 ++ F)))), q0, q1, w3, F2, F3, F4, F5, F6, F, rfl, k2.up (by omega), k3, k4.up (by omega), k5.up (by omega), k6.up (by omega), kp⟩
set_option maxRecDepth 100000 in
/-- a list of questions that came in. -/
theorem open_selects : ∀ (N fuel : Nat), fuel ≤ N → ∀ {v : Value} {x : DataW H × List MemPlace}, DataW.trod enc Try.prog w 0 spare held fuel 24 [v] = some x → ∃ ps F, SelsIs w (N + 2) (N + 1) v ps F := by
  intro N
  induction N with
  | zero =>
    intro fuel hf v x h
    obtain rfl : fuel = 0 := by omega
    simp [DataW.trod] at h
  | succ N ih =>
    intro fuel hf v x h
    rcases DataW.trod_slice Try.underlying24 h with ⟨h0, _⟩ | ⟨a, len, cap, elems, rest, n, hfn, hcs, rfl, hb, hl, hm, hlen, hel, hsp, hns⟩
    · simp at h0; subst h0
      exact ⟨[], [], none, 0, [], rfl, by simp, by simp, rfl, fun _ => rfl, fun h => absurd rfl h⟩
    simp at hcs; subst hcs
    have each : ∀ i, i < len → ∃ q : S8 × List Nat × Value × Value × Value × Value × Value × Value, q.1.wf ∧ (w.cell? (a.add (i * 8)) = some (.bool q.1.d) ∧ w.cell? (a.add (i * 8 + 1)) = some (.bool q.1.s) ∧ w.cell? (a.add (i * 8 + 2)) = some q.2.2.1 ∧ w.cell? (a.add (i * 8 + 3)) = some q.2.2.2.1 ∧ w.cell? (a.add (i * 8 + 4)) = some q.2.2.2.2.1 ∧ w.cell? (a.add (i * 8 + 5)) = some q.2.2.2.2.2.1 ∧ w.cell? (a.add (i * 8 + 6)) = some q.2.2.2.2.2.2.1 ∧ w.cell? (a.add (i * 8 + 7)) = some q.2.2.2.2.2.2.2) ∧ ListsQ w (N + 2) (SelsIs w (N + 2) (N + 1)) q.1 q.2.2.1 q.2.2.2.1 q.2.2.2.2.1 q.2.2.2.2.2.1 q.2.2.2.2.2.2.1 q.2.2.2.2.2.2.2 q.2.1 := by
      intro i hi
      have hi1 := hel i hi
      have hie : elems[i]? = some elems[i] := by simp [hlen, hi]
      rw [hie, Option.bind_eq_some_iff] at hi1
      obtain ⟨cs', h1, h2⟩ := hi1
      rw [cellsSel] at h1
      obtain ⟨_, hlen8, hcell⟩ := World.cells?_some h1
      match cs', hlen8 with
      | [z0, z1, z2, z3, z4, z5, z6, z7], _ =>
        obtain ⟨p, g, r0, r1, hw, hL⟩ := open_select8 (N := N) (by omega) ih h2
        have e0 := hcell 0 (by omega)
        have e1 := hcell 1 (by omega)
        have e2 := hcell 2 (by omega)
        have e3 := hcell 3 (by omega)
        have e4 := hcell 4 (by omega)
        have e5 := hcell 5 (by omega)
        have e6 := hcell 6 (by omega)
        have e7 := hcell 7 (by omega)
        rw [add_add] at e0 e1 e2 e3 e4 e5 e6 e7
        subst r0 r1
        exact ⟨⟨p, g, z2, z3, z4, z5, z6, z7⟩, hw, ⟨by simpa using e0, by simpa using e1, by simpa using e2, by simpa using e3, by simpa using e4, by simpa using e5, by simpa using e6, by simpa using e7⟩, hL⟩
    have : Inhabited (S8 × List Nat × Value × Value × Value × Value × Value × Value) := ⟨⟨.nil, [], .nilFunc, .nilFunc, .nilFunc, .nilFunc, .nilFunc, .nilFunc⟩⟩
    obtain ⟨q, hq⟩ := choose_lt each
    refine ⟨(List.range len).map fun i => (q i).1, if len = 0 then [] else a.block :: ((List.range len).map fun i => (q i).2.1).flatten, some a, cap, (List.range len).map fun i => (q i).2.1, by simp, by simpa using hl, hm, by simp, fun hne => ?_, fun hne => ?_⟩
    · have : len = 0 := by simpa using congrArg List.length hne
      simp [this]
    · have hpos : 0 < len := by
        rcases Nat.eq_zero_or_pos len with h0 | h0
        · subst h0; simp at hne
        · exact h0
      have hs : a.spot = none := by have := World.cell?_spot (hq 0 hpos).2.1.1; simpa [Addr.add] using this
      obtain ⟨b, o, sp⟩ := a
      simp at hs; subst hs
      refine ⟨b, o, rfl, ?_, by simp; omega, fun i x g hx hg => ?_⟩
      · have := World.block_lt_of_cell? _ _ (hq 0 hpos).2.1.1
        simpa [Addr.add] using this
      · have hi : i < len := by
          obtain ⟨h1, _⟩ := List.getElem?_eq_some_iff.1 hx
          simpa using h1
        have ex : x = (q i).1 := by simp [hi] at hx; exact hx.symm
        have eg : g = (q i).2.1 := by simp [hi] at hg; exact hg.symm
        subst ex eg
        obtain ⟨hw, ⟨h0, h1, h2, h3, h4, h5, h6, h7⟩, Fi, Ff, Fw, Fg, Fm, k, hgg, ki, kf, kw, kg, km, kp⟩ := hq i hi
        rw [add_plain] at h0 h1 h2 h3 h4 h5 h6 h7
        exact ⟨hw, _, _, _, _, _, _, ⟨h0, by simpa [Nat.add_assoc] using h1, by simpa [Nat.add_assoc] using h2, by simpa [Nat.add_assoc] using h3, by simpa [Nat.add_assoc] using h4, by simpa [Nat.add_assoc] using h5, by simpa [Nat.add_assoc] using h6, by simpa [Nat.add_assoc] using h7⟩, Fi, Ff, Fw, Fg, Fm, k, hgg, ki.up (by omega), kf, kw.up (by omega), kg.up (by omega), km.up (by omega), kp.up (by omega) (Nat.le_refl _)⟩
set_option maxRecDepth 100000 in
theorem open_select {r : Reach} {b0 : Nat} {v : Value} {d : DataW H} {ps : List MemPlace} (hv : Value.okWide Try.prog w r b0 26 v) (h : DataW.Trod enc Try.prog w 0 spare held 26 v d ps) :
    ∃ (p : S8) (ui uf uw ug um u : Value) (F : List Nat) (D n : Nat), v = (.agg #[.bool p.d, .bool p.s, ui, uf, uw, ug, um, u]) ∧ p.wf ∧ ListsQ w D (SelsIs w D n) p ui uf uw ug um u F := by
  obtain ⟨⟨cs⟩, rfl, hsz⟩ := okWide_struct Try.underlying26 hv
  obtain ⟨fuel, hf⟩ := h
  have hs8 : cs.length = 8 := by have := hsz.trans cellsSel; simpa using this
  match cs, hs8 with
  | [z0, z1, z2, z3, z4, z5, z6, z7], _ =>
    obtain ⟨p, g, r0, r1, hw, hL⟩ := open_select8 (N := fuel) (fuel := fuel) (by omega) (fun f hf' => open_selects fuel f hf') (by simpa [Value.cells] using hf)
    subst r0 r1
    exact ⟨p, z2, z3, z4, z5, z6, z7, g, _, _, rfl, hw, hL⟩
end
end Go.Proofs.Ytmheiehhdmajfaa
