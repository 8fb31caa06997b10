/- Own text. Expressions of questions as they lie in memory: a tree whose lists of kids are slices of six cells each, with the blocks that it lies in; and how one is read off what came in. -/
import Derived.Test.YtmheiehhdmajfaaBlk
namespace Go.Proofs.Ytmheiehhdmajfaa
open Go.RowKit Go.Deep Go.ChangeShapes Go.WideShapes
set_option linter.unusedVariables false
/-- an expression of a question: its kind, its text, its value, its kids: in the model's own tree of data. -/
abbrev A6 : Type := DataW (Int × ByteArray × V3)
namespace A6
def mk (k : Int) (p : ByteArray) (v : V3) (ks : List A6) : A6 := .agg (.held (k, p, v) :: ks)
def k (e : A6) : Int := match e with | .agg (.held q :: _) => q.1 | _ => 0
def v (e : A6) : V3 := match e with | .agg (.held q :: _) => q.2.2 | _ => ⟨0, 0, ⟨#[]⟩⟩
def p (e : A6) : ByteArray := match e with | .agg (.held q :: _) => q.2.1 | _ => ⟨#[]⟩
def ks (e : A6) : List A6 := match e with | .agg (.held _ :: l) => l | _ => []
theorem mk_k (k : Int) (p : ByteArray) (v : V3) (ks : List A6) : (A6.mk k p v ks).k = k := rfl
theorem mk_v (k : Int) (p : ByteArray) (v : V3) (ks : List A6) : (A6.mk k p v ks).v = v := rfl
theorem mk_p (k : Int) (p : ByteArray) (v : V3) (ks : List A6) : (A6.mk k p v ks).p = p := rfl
/-- numbers of 64 bits, texts of a size that there is: of the top alone. -/
def wf (e : A6) : Prop := (Lit.int .i64 e.k).wf = true ∧ e.p.size ≤ maxLen ∧ e.v.wf
end A6
/-- what an expression weighs: the lengths of its lists and texts. -/
def wtA : DataW (Int × ByteArray × V3) → Nat
  | .agg (.held q :: l) => q.2.2.s.size + q.2.1.size + (l.length + (l.attach.map fun x => have := List.sizeOf_lt_of_mem x.2; wtA x.1).sum)
  | _ => 0
def wtAs : List A6 → Nat
  | [] => 0
  | e :: es => wtA e + wtAs es
theorem wtAs_sum (l : List A6) : (l.map wtA).sum = wtAs l := by
  induction l with
  | nil => rfl
  | cons e es ih => rw [List.map_cons, List.sum_cons, wtAs, ih]
theorem wtA_eq (e : A6) : wtA e = e.v.s.size + e.p.size + (e.ks.length + wtAs e.ks) := by
  rw [wtA.eq_def]
  split
  · rename_i q l
    have : (l.attach.map fun x => wtA x.1) = l.map wtA := by simp
    show q.2.2.s.size + q.2.1.size + (l.length + (l.attach.map fun x => wtA x.1).sum) = q.2.2.s.size + q.2.1.size + (l.length + wtAs l)
    rw [this, wtAs_sum]
  · rename_i h
    have hv : A6.v e = ⟨0, 0, ⟨#[]⟩⟩ := by unfold A6.v; split; exact absurd rfl (h _ _); rfl
    have hp : A6.p e = ⟨#[]⟩ := by unfold A6.p; split; exact absurd rfl (h _ _); rfl
    have hk : A6.ks e = [] := by unfold A6.ks; split; exact absurd rfl (h _ _); rfl
    rw [hv, hp, hk]
    rfl
theorem wtAs_app (a b : List A6) : wtAs (a ++ b) = wtAs a + wtAs b := by
  induction a with
  | nil => simp [wtAs]
  | cons x xs ih => rw [List.cons_append, wtAs, wtAs, ih]; omega
theorem wtAs_take {es : List A6} {k : Nat} {e : A6} (h : es[k]? = some e) : wtAs (es.take (k + 1)) = wtAs (es.take k) + wtA e := by
  obtain ⟨hk, rfl⟩ := List.getElem?_eq_some_iff.1 h
  rw [List.take_succ_eq_append_getElem hk, wtAs_app]
  simp [wtAs]
theorem wtA_mem {es : List A6} {e : A6} (h : e ∈ es) : wtA e ≤ wtAs es := by
  induction es with
  | nil => cases h
  | cons y ys ih =>
    rw [wtAs]
    rcases List.mem_cons.1 h with rfl | h
    · omega
    · have := ih h; omega
/-- the five cells of an expression ahead of its kids. -/
def cellsA (w : World) (b q : Nat) (e : A6) : Prop :=
  w.cell? ⟨b, q, none⟩ = some (.int .i64 e.k) ∧ w.cell? ⟨b, q + 1, none⟩ = some (.string e.p) ∧ w.cell? ⟨b, q + 2, none⟩ = some (.int .i64 e.v.k) ∧ w.cell? ⟨b, q + 3, none⟩ = some (.int .i64 e.v.n) ∧ w.cell? ⟨b, q + 4, none⟩ = some (.string e.v.s)
/-- the slice value v has the expressions es, at most d deep; F: the blocks that their lists lie in. -/
def AstsIs (w : World) : Nat → Value → List A6 → List Nat → Prop
  | 0, _, _, _ => False
  | d + 1, v, es, F => ∃ (a : Option Addr) (c : Nat) (G : List (List Nat)), v = .slice a es.length c ∧ es.length ≤ c ∧ c ≤ maxLen ∧ G.length = es.length ∧ (es = [] → F = []) ∧
      (es ≠ [] → ∃ b o, a = some ⟨b, o, none⟩ ∧ b < w.heap.size ∧ F = b :: G.flatten ∧
        ∀ i e g, es[i]? = some e → G[i]? = some g → e.wf ∧ cellsA w b (o + i * 6) e ∧ ∃ u, w.cell? ⟨b, o + i * 6 + 5, none⟩ = some u ∧ AstsIs w d u e.ks g)
/-- the expressions es lie in w from cell o of block b on, their kids in the blocks G. -/
def ALies (w : World) (d b o : Nat) (es : List A6) (G : List (List Nat)) : Prop :=
  ∀ i e g, es[i]? = some e → G[i]? = some g → e.wf ∧ cellsA w b (o + i * 6) e ∧ ∃ u, w.cell? ⟨b, o + i * 6 + 5, none⟩ = some u ∧ AstsIs w d u e.ks g
theorem cellsA.keep {w w' : World} {b q : Nat} {e : A6} (h : cellsA w b q e) (hb : w'.heap[b]? = w.heap[b]?) : cellsA w' b q e := by
  obtain ⟨h0, h1, h2, h3, h4⟩ := h
  exact ⟨(cell_blk hb).trans h0, (cell_blk hb).trans h1, (cell_blk hb).trans h2, (cell_blk hb).trans h3, (cell_blk hb).trans h4⟩
theorem AstsIs.lt {w : World} : ∀ {d : Nat} {v : Value} {es : List A6} {F : List Nat}, AstsIs w d v es F → ∀ b ∈ F, b < w.heap.size
  | 0, _, _, _, h => h.elim
  | d + 1, v, es, F, h => by
    obtain ⟨a, c, G, rfl, _, _, hG, h0, h⟩ := h
    by_cases hne : es = []
    · rw [h0 hne]; intro b hb; cases hb
    obtain ⟨b, o, rfl, hlt, rfl, hL⟩ := h hne
    intro x hx
    rcases List.mem_cons.1 hx with rfl | hx
    · exact hlt
    obtain ⟨g, hg, hxg⟩ := List.mem_flatten.1 hx
    obtain ⟨i, hi, rfl⟩ := List.mem_iff_getElem.1 hg
    have hi' : i < es.length := by omega
    obtain ⟨_, _, u, _, hk⟩ := hL i es[i] G[i] (by simp) (by simp)
    exact hk.lt x hxg
theorem AstsIs.keep {w w' : World} (hs : w.heap.size ≤ w'.heap.size) : ∀ {d : Nat} {v : Value} {es : List A6} {F : List Nat}, AstsIs w d v es F → (∀ b ∈ F, w'.heap[b]? = w.heap[b]?) → AstsIs w' d v es F
  | 0, _, _, _, h, _ => h.elim
  | d + 1, v, es, F, h, hF => by
    obtain ⟨a, c, G, rfl, hl, hc, hG, h0, h⟩ := h
    refine ⟨a, c, G, rfl, hl, hc, hG, h0, fun hne => ?_⟩
    obtain ⟨b, o, rfl, hlt, rfl, hL⟩ := h hne
    refine ⟨b, o, rfl, Nat.lt_of_lt_of_le hlt hs, rfl, fun i e g he hg => ?_⟩
    obtain ⟨hw, hc, u, hu, hk⟩ := hL i e g he hg
    have hb := hF b List.mem_cons_self
    exact ⟨hw, hc.keep hb, u, (cell_blk hb).trans hu, hk.keep hs fun x hx => hF x (List.mem_cons_of_mem _ (List.mem_flatten.2 ⟨g, List.mem_of_getElem? hg, hx⟩))⟩
theorem AstsIs.below {w w' : World} {d : Nat} {v : Value} {es : List A6} {F : List Nat} (h : AstsIs w d v es F) (hb : Below w.heap.size w w') : AstsIs w' d v es F :=
  h.keep hb.size fun b hF => hb.block b (h.lt b hF)
theorem AstsIs.up {w : World} : ∀ {d d' : Nat} {v : Value} {es : List A6} {F : List Nat}, AstsIs w d v es F → d ≤ d' → AstsIs w d' v es F
  | 0, _, _, _, _, h, _ => h.elim
  | d + 1, 0, _, _, _, _, hd => absurd hd (by omega)
  | d + 1, d' + 1, v, es, F, h, hd => by
    obtain ⟨a, c, G, rfl, hl, hc, hG, h0, h⟩ := h
    refine ⟨a, c, G, rfl, hl, hc, hG, h0, fun hne => ?_⟩
    obtain ⟨b, o, rfl, hlt, rfl, hL⟩ := h hne
    refine ⟨b, o, rfl, hlt, rfl, fun i e g he hg => ?_⟩
    obtain ⟨hw, hc, u, hu, hk⟩ := hL i e g he hg
    exact ⟨hw, hc, u, hu, hk.up (by omega)⟩
theorem AstsIs.pick {w : World} {d : Nat} {v : Value} {es : List A6} {F : List Nat} (h : AstsIs w (d + 1) v es F) :
    ∃ a c b o G, v = .slice a es.length c ∧ es.length ≤ c ∧ c ≤ maxLen ∧ G.length = es.length ∧ (es = [] → F = []) ∧ ∀ k, k < es.length → a = some ⟨b, o, none⟩ ∧ b < w.heap.size ∧ F = b :: G.flatten ∧ ALies w d b o es G := by
  obtain ⟨a, c, G, rfl, hl, hc, hG, h0, h⟩ := h
  by_cases hne : es = []
  · exact ⟨a, c, 0, 0, G, rfl, hl, hc, hG, h0, fun k hk => by rw [hne] at hk; simp at hk⟩
  · obtain ⟨b, o, h⟩ := h hne
    exact ⟨a, c, b, o, G, rfl, hl, hc, hG, h0, fun _ _ => h⟩
theorem AstsIs.shape {w : World} {d : Nat} {v : Value} {es : List A6} {F : List Nat} (h : AstsIs w d v es F) : ∃ a c, v = .slice a es.length c ∧ es.length ≤ c ∧ c ≤ maxLen := by
  cases d with
  | zero => exact h.elim
  | succ d =>
    obtain ⟨a, c, G, rfl, hl, hc, _⟩ := h
    exact ⟨a, c, rfl, hl, hc⟩
theorem ALies.at {w w' : World} {d b o : Nat} {es : List A6} {G : List (List Nat)} (h : ALies w d b o es G) (hG : G.length = es.length) (hlt : b < w.heap.size) (hb : Below w.heap.size w w') {k : Nat} (hk : k < es.length) :
    ∃ e g u, es[k]? = some e ∧ G[k]? = some g ∧ e.wf ∧ cellsA w' b (o + k * 6) e ∧ w'.cell? ⟨b, o + k * 6 + 5, none⟩ = some u ∧ AstsIs w' d u e.ks g ∧ b < w'.heap.size := by
  have hk' : k < G.length := by omega
  obtain ⟨hw, hc, u, hu, hK⟩ := h k es[k] G[k] (by simp) (by simp)
  exact ⟨es[k], G[k], u, by simp, by simp, hw, hc.keep (hb.block b hlt), (hb.cell (p := ⟨b, _, none⟩) hlt).trans hu, hK.below hb, Nat.lt_of_lt_of_le hlt hb.size⟩
section
variable {H : Type} {enc : TypeId × Value → H} {P : Program} {w : World} {spare : Nat → Bool} {held : Bool}
/-- a slice of expressions that came in. -/
theorem open_kidsA {t e : TypeId} {G0 G1 G2 G4 F0 F1 F2 : Field} (ht : P.underlying t = some (.slice e)) (he : P.underlying e = some (.struct #[G0, G1, G2, G4]))
    (cg : P.cellsOf e = 6) (p0 : G0.offset = 0) (p1 : G1.offset = 1) (p2 : G2.offset = 2) (p4 : G4.offset = 5) (g0 : P.cellsOf G0.type = 1) (g1 : P.cellsOf G1.type = 1) (g2 : P.cellsOf G2.type = 3) (g4 : P.cellsOf G4.type = 1)
    (v0 : P.underlying G0.type = some (.int .i64)) (v1 : P.underlying G1.type = some .string) (v2 : P.underlying G2.type = some (.struct #[F0, F1, F2])) (v4 : G4.type = t)
    (o0 : F0.offset = 0) (o1 : F1.offset = 1) (o2 : F2.offset = 2) (c0 : P.cellsOf F0.type = 1) (c1 : P.cellsOf F1.type = 1) (c2 : P.cellsOf F2.type = 1)
    (u0 : P.underlying F0.type = some (.int .i64)) (u1 : P.underlying F1.type = some (.int .i64)) (u2 : P.underlying F2.type = some .string) :
    ∀ (N fuel : Nat), fuel ≤ N → ∀ {v : Value} {x : DataW H × List MemPlace}, DataW.trod enc P w 0 spare held fuel t [v] = some x → ∃ es F, AstsIs w (N + 1) v es F := by
  intro N
  induction N with
  | zero =>
    intro fuel hf v x h
    obtain rfl : fuel = 0 := by omega
    simp [DataW.trod] at h
  | succ N ih =>
    intro fuel hf v x h
    rcases DataW.trod_slice ht h with ⟨h0, _⟩ | ⟨a, len, cap, elems, rest, n, hfn, hcs, rfl, hb, hl, hm, hlen, hel, hsp, hns⟩
    · simp at h0; subst h0
      exact ⟨[], [], none, 0, [], rfl, by simp, by simp, rfl, fun _ => rfl, fun h => absurd rfl h⟩
    simp at hcs; subst hcs
    have each : ∀ i, i < len → ∃ q : A6 × List Nat, q.1.wf ∧ (w.cell? (a.add (i * 6)) = some (.int .i64 q.1.k) ∧ w.cell? (a.add (i * 6 + 1)) = some (.string q.1.p) ∧ w.cell? (a.add (i * 6 + 2)) = some (.int .i64 q.1.v.k) ∧ w.cell? (a.add (i * 6 + 3)) = some (.int .i64 q.1.v.n) ∧ w.cell? (a.add (i * 6 + 4)) = some (.string q.1.v.s)) ∧ ∃ u, w.cell? (a.add (i * 6 + 5)) = some u ∧ AstsIs w (N + 1) u q.1.ks q.2 := by
      intro i hi
      have hi1 := hel i hi
      have hie : elems[i]? = some elems[i] := by simp [hlen, hi]
      rw [hie, Option.bind_eq_some_iff] at hi1
      obtain ⟨cs', h1, h2⟩ := hi1
      rw [cg] at h1
      obtain ⟨_, hlen6, hcell⟩ := World.cells?_some h1
      obtain ⟨xs, k, hk, hxy, _, hxl, hfld⟩ := DataW.trod_struct he h2
      match xs, hxl, cs', hlen6 with
      | [y0, y1, y2, y4], _, [z0, z1, z2, z3, z4, z5], _ =>
        have a0 := hfld 0 G0 rfl
        have a1 := hfld 1 G1 rfl
        have a2 := hfld 2 G2 rfl
        have a4 := hfld 3 G4 rfl
        simp [p0, p1, p2, p4, g0, g1, g2, g4] at a0 a1 a2 a4
        have e0 := hcell 0 (by omega)
        have e1 := hcell 1 (by omega)
        have e2 := hcell 2 (by omega)
        have e3 := hcell 3 (by omega)
        have e4 := hcell 4 (by omega)
        have e5 := hcell 5 (by omega)
        rw [add_add] at e0 e1 e2 e3 e4 e5
        obtain ⟨n0, q0, _, w0⟩ := DataW.trod_int v0 a0
        obtain ⟨n1, q1, _, w1⟩ := DataW.trod_string v1 a1
        obtain ⟨ys, k2, hk2, _, _, hyl, hfl2⟩ := DataW.trod_struct v2 a2
        match ys, hyl with
        | [b0, b1, b2], _ =>
          have r0 := hfl2 0 F0 rfl
          have r1 := hfl2 1 F1 rfl
          have r2 := hfl2 2 F2 rfl
          simp [o0, o1, o2, c0, c1, c2] at r0 r1 r2
          obtain ⟨m0, s0, _, x0⟩ := DataW.trod_int u0 r0
          obtain ⟨m1, s1, _, x1⟩ := DataW.trod_int u1 r1
          obtain ⟨m2, s2, _, x2⟩ := DataW.trod_string u2 r2
          simp at q0 q1 s0 s1 s2
          subst q0 q1 s0 s1 s2
          rw [v4] at a4
          obtain ⟨ks, F, hK⟩ := ih k (by omega) a4
          exact ⟨⟨.mk n0 n1 ⟨m0, m1, m2⟩ ks, F⟩, ⟨w0, w1, ⟨x0, x1, x2⟩⟩, ⟨by simpa [A6.mk_k, A6.mk_v, A6.mk_p] using e0, by simpa [A6.mk_k, A6.mk_v, A6.mk_p] using e1, by simpa [A6.mk_k, A6.mk_v, A6.mk_p] using e2, by simpa [A6.mk_k, A6.mk_v, A6.mk_p] using e3, by simpa [A6.mk_k, A6.mk_v, A6.mk_p] using e4⟩, z5, by simpa using e5, hK⟩
    have : Inhabited (A6 × List Nat) := ⟨⟨A6.mk 0 ⟨#[]⟩ ⟨0, 0, ⟨#[]⟩⟩ [], []⟩⟩
    obtain ⟨q, hq⟩ := choose_lt each
    refine ⟨(List.range len).map fun i => (q i).1, if len = 0 then [] else a.block :: ((List.range len).map fun i => (q i).2).flatten, some a, cap, (List.range len).map fun i => (q i).2, by simp, by simpa using hl, hm, by simp, fun hne => ?_, fun hne => ?_⟩
    · have : len = 0 := by simpa using congrArg List.length hne
      simp [this]
    · have hpos : 0 < len := by
        rcases Nat.eq_zero_or_pos len with h0 | h0
        · subst h0; simp at hne
        · exact h0
      have hs : a.spot = none := by have := World.cell?_spot (hq 0 hpos).2.1.1; simpa [Addr.add] using this
      obtain ⟨b, o, sp⟩ := a
      simp at hs; subst hs
      refine ⟨b, o, rfl, ?_, by simp; omega, fun i x g hx hg => ?_⟩
      · have := World.block_lt_of_cell? _ _ (hq 0 hpos).2.1.1
        simpa [Addr.add] using this
      · have hi : i < len := by
          obtain ⟨h1, _⟩ := List.getElem?_eq_some_iff.1 hx
          simpa using h1
        have ex : x = (q i).1 := by simp [hi] at hx; exact hx.symm
        have eg : g = (q i).2 := by simp [hi] at hg; exact hg.symm
        subst ex eg
        obtain ⟨hw, ⟨h0, h1, h2, h3, h4⟩, u, h6, hK⟩ := hq i hi
        rw [add_plain] at h0 h1 h2 h3 h4 h6
        exact ⟨hw, ⟨h0, by simpa [Nat.add_assoc] using h1, by simpa [Nat.add_assoc] using h2, by simpa [Nat.add_assoc] using h3, by simpa [Nat.add_assoc] using h4⟩, u, by simpa [Nat.add_assoc] using h6, hK⟩
end
end Go.Proofs.Ytmheiehhdmajfaa
