/- Own texts, joined: contracts that the law's proof goes by. -/
import Derived.Test.YtaeibfipcenhaaaGreatDoorGLViewsOk5
import Derived.Test.YtaeibfipcenhaaaGreatDoorGLViewsOk3
import Derived.Handy
import Derived.Deep.RegionHeld3
import Derived.Test.YtaeibfipcenhaaaGreatDoorGLViewsOk2
import Derived.Laws.AppendOwnNone
import Derived.Deep.AppendLies
import Derived.Deep.DrawnRows
namespace Go.Proofs.YtaeibfipcenhaaaGreatDoor
open Go.RowKit Go.Deep
set_option linter.unusedVariables false
/-- the blocks of F may be written. -/
def Free (w : World) (F : List Nat) : Prop := ∀ b ∈ F, ∀ o, w.frozen? ⟨b, o, none⟩ = false
/-- the blocks of F are the call's own from N on: each once, not frozen. -/
def OwnB (w : World) (N : Nat) (F : List Nat) : Prop := F.Nodup ∧ (∀ b ∈ F, N ≤ b) ∧ Free w F
/-- what was there is as it was, the blocks of F aside. -/
structure Chg (F : List Nat) (w w' : World) : Prop where
  os : w'.os = w.os
  tape : w'.tape = w.tape
  output : w'.output = w.output
  size : w.heap.size ≤ w'.heap.size
  block : ∀ k, k < w.heap.size → k ∉ F → w'.heap[k]? = w.heap[k]?
  free : Free w F → Free w' F
theorem Chg.refl (F : List Nat) (w : World) : Chg F w w := ⟨rfl, rfl, rfl, Nat.le_refl _, fun _ _ _ => rfl, id⟩
theorem Chg.trans {a b c : World} {F : List Nat} (h : Chg F a b) (k : Chg F b c) : Chg F a c :=
  ⟨k.os.trans h.os, k.tape.trans h.tape, k.output.trans h.output, Nat.le_trans h.size k.size, fun i hi hF => (k.block i (Nat.lt_of_lt_of_le hi h.size) hF).trans (h.block i hi hF), fun f => k.free (h.free f)⟩
theorem Chg.setCell {w w' : World} {F : List Nat} (h : Chg F w w') {p : Addr} (hp : p.block ∈ F) (u : Value) : Chg F w (w'.setCell p u) :=
  ⟨h.os, h.tape, h.output, by simpa using h.size, fun k hk hF => (Below.heap_setCell _ _ _ _ (by rintro rfl; exact hF hp)).trans (h.block k hk hF), fun f b hb o => by rw [World.frozen?_setCell]; exact h.free f b hb o⟩
theorem Chg.below {w w' : World} {F : List Nat} {N : Nat} (h : Chg F w w') (hF : ∀ b ∈ F, N ≤ b) (hN : N ≤ w.heap.size) : Below N w w' :=
  ⟨h.os, h.tape, h.output, h.size, fun k hk => h.block k (by omega) fun hx => by have := hF k hx; omega⟩
theorem OwnB.keep {w w' : World} {N : Nat} {F : List Nat} (h : OwnB w N F) (hF : ∀ b ∈ F, w'.heap[b]? = w.heap[b]?) : OwnB w' N F :=
  ⟨h.1, h.2.1, fun b hb o => (frozen_blk (hF b hb)).trans (h.2.2 b hb o)⟩
/-- the n cells from place o of block b on are those of f. -/
def CellsAre (w : World) (b o n : Nat) (f : Nat → Value) : Prop := ∀ j, j < n → w.cell? ⟨b, o + j, none⟩ = some (f j)
theorem CellsAre.set {w : World} {b o n j0 : Nat} {f : Nat → Value} (h : CellsAre w b o n f) (hj : j0 < n) (u : Value) : CellsAre (w.setCell ⟨b, o + j0, none⟩ u) b o n (fun j => if j = j0 then u else f j) := by
  intro j hjn
  show _ = some (if j = j0 then u else f j)
  by_cases e : j = j0
  · subst e
    rw [if_pos rfl]
    exact World.cell?_setCell_same _ _ _ (h j hjn)
  · rw [if_neg e, World.cell?_setCell_other _ _ _ _ (by intro x; have := congrArg Addr.off x; simp at this; omega)]
    exact h j hjn
theorem CellsAre.put {w : World} {b o n j0 q : Nat} {f : Nat → Value} (h : CellsAre w b o n f) (hj : j0 < n) (hq : q = o + j0) (u : Value) : CellsAre (w.setCell ⟨b, q, none⟩ u) b o n (fun j => if j = j0 then u else f j) := by subst hq; exact h.set hj u
theorem CellsAre.keep {w w' : World} {b o n : Nat} {f : Nat → Value} (h : CellsAre w b o n f) (hb : w'.heap[b]? = w.heap[b]?) : CellsAre w' b o n f := fun j hj => (cell_blk hb).trans (h j hj)
theorem CellsAre.congr {w : World} {b o n : Nat} {f g : Nat → Value} (h : CellsAre w b o n f) (e : ∀ j, j < n → f j = g j) : CellsAre w b o n g := fun j hj => (h j hj).trans (congrArg some (e j hj))
theorem lies_cells {w : World} {b o : Nat} {vs : List V3} : Lies w b o vs ↔ CellsAre w b o (vs.length * 3) (cf vs) := by
  constructor
  · intro h j hj
    have hi : j / 3 < vs.length := by omega
    obtain ⟨h0, h1, h2⟩ := h (j / 3) vs[j / 3] (by simp)
    obtain ⟨e0, e1, e2⟩ := cf_at (vs := vs) (k := j / 3) (x := vs[j / 3]) (by simp)
    have hj3 : j = j / 3 * 3 ∨ j = j / 3 * 3 + 1 ∨ j = j / 3 * 3 + 2 := by omega
    rcases hj3 with e | e | e
    · rw [e, e0]; exact h0
    · rw [e, e1, ← Nat.add_assoc]; exact h1
    · rw [e, e2, ← Nat.add_assoc]; exact h2
  · intro h i x hx
    have hi : i < vs.length := (List.getElem?_eq_some_iff.1 hx).1
    obtain ⟨e0, e1, e2⟩ := cf_at hx
    refine ⟨?_, ?_, ?_⟩
    · rw [h (i * 3) (by omega), e0]
    · rw [Nat.add_assoc, h (i * 3 + 1) (by omega), e1]
    · rw [Nat.add_assoc, h (i * 3 + 2) (by omega), e2]
/-- the slice value v has the values vs, in the blocks g (one, or none of no values). -/
def RowF (w : World) (v : Value) (vs : List V3) (g : List Nat) : Prop :=
  ∃ (a : Option Addr) (c : Nat), v = .slice a vs.length c ∧ vs.length ≤ c ∧ c ≤ maxLen ∧ (a = none → c = 0) ∧ (vs = [] → g = []) ∧ (vs ≠ [] → ∃ b o, a = some ⟨b, o, none⟩ ∧ b < w.heap.size ∧ g = [b] ∧ Lies w b o vs)
theorem RowF.is {w : World} {v : Value} {vs : List V3} {g : List Nat} (h : RowF w v vs g) : RowIs w v vs := by
  obtain ⟨a, c, rfl, hl, hc, _, _, h⟩ := h
  refine ⟨a, c, rfl, hl, hc, fun hne => ?_⟩
  obtain ⟨b, o, rfl, hlt, _, hL⟩ := h hne
  exact ⟨b, o, rfl, hlt, hL⟩
theorem RowF.lt {w : World} {v : Value} {vs : List V3} {g : List Nat} (h : RowF w v vs g) : ∀ b ∈ g, b < w.heap.size := by
  obtain ⟨a, c, rfl, hl, hc, _, h0, h⟩ := h
  intro b hb
  by_cases hne : vs = []
  · rw [h0 hne] at hb; cases hb
  · obtain ⟨b', o, rfl, hlt, rfl, hL⟩ := h hne
    rcases List.mem_singleton.1 hb with rfl
    exact hlt
theorem RowF.keep {w w' : World} {v : Value} {vs : List V3} {g : List Nat} (h : RowF w v vs g) (hs : w.heap.size ≤ w'.heap.size) (hg : ∀ b ∈ g, w'.heap[b]? = w.heap[b]?) : RowF w' v vs g := by
  obtain ⟨a, c, rfl, hl, hc, hz, h0, h⟩ := h
  refine ⟨a, c, rfl, hl, hc, hz, h0, fun hne => ?_⟩
  obtain ⟨b, o, rfl, hlt, rfl, hL⟩ := h hne
  exact ⟨b, o, rfl, Nat.lt_of_lt_of_le hlt hs, rfl, lies_cells.2 ((lies_cells.1 hL).keep (hg b (by simp)))⟩
/-- the slice value v has the counted rows cs, in the blocks F. -/
def RowsF (w : World) (v : Value) (cs : List C2) (F : List Nat) : Prop :=
  ∃ (a : Option Addr) (c : Nat) (G : List (List Nat)), v = .slice a cs.length c ∧ cs.length ≤ c ∧ c ≤ maxLen ∧ (a = none → c = 0) ∧ G.length = cs.length ∧ (cs = [] → F = []) ∧
    (cs ≠ [] → ∃ b o, a = some ⟨b, o, none⟩ ∧ b < w.heap.size ∧ F = b :: G.flatten ∧ ∀ i x g, cs[i]? = some x → G[i]? = some g → ∃ u, w.cell? ⟨b, o + i * 2, none⟩ = some u ∧ RowF w u x.r g ∧ w.cell? ⟨b, o + i * 2 + 1, none⟩ = some (.int .i64 x.n))
theorem RowsF.is {w : World} {v : Value} {cs : List C2} {F : List Nat} (h : RowsF w v cs F) : RowsIs w v cs := by
  obtain ⟨a, c, G, rfl, hl, hc, _, hG, _, h⟩ := h
  refine ⟨a, c, rfl, hl, hc, fun hne => ?_⟩
  obtain ⟨b, o, rfl, hlt, _, hL⟩ := h hne
  refine ⟨b, o, rfl, hlt, fun i x hx => ?_⟩
  have hi : i < cs.length := (List.getElem?_eq_some_iff.1 hx).1
  have hi' : i < G.length := by omega
  obtain ⟨u, h0, h1, h2⟩ := hL i x G[i] hx (by simp)
  exact ⟨u, h0, h1.is, h2⟩
theorem RowsF.lt {w : World} {v : Value} {cs : List C2} {F : List Nat} (h : RowsF w v cs F) : ∀ b ∈ F, b < w.heap.size := by
  obtain ⟨a, c, G, rfl, hl, hc, _, hG, h0, h⟩ := h
  intro x hx
  by_cases hne : cs = []
  · rw [h0 hne] at hx; cases hx
  obtain ⟨b, o, rfl, hlt, rfl, hL⟩ := h hne
  rcases List.mem_cons.1 hx with rfl | hx
  · exact hlt
  obtain ⟨g, hg, hxg⟩ := List.mem_flatten.1 hx
  obtain ⟨i, hi, rfl⟩ := List.mem_iff_getElem.1 hg
  have hi' : i < cs.length := by omega
  obtain ⟨u, _, hk, _⟩ := hL i cs[i] G[i] (by simp) (by simp)
  exact hk.lt x hxg
theorem RowsF.keep {w w' : World} {v : Value} {cs : List C2} {F : List Nat} (h : RowsF w v cs F) (hs : w.heap.size ≤ w'.heap.size) (hF : ∀ b ∈ F, w'.heap[b]? = w.heap[b]?) : RowsF w' v cs F := by
  obtain ⟨a, c, G, rfl, hl, hc, hz, hG, h0, h⟩ := h
  refine ⟨a, c, G, rfl, hl, hc, hz, hG, h0, fun hne => ?_⟩
  obtain ⟨b, o, rfl, hlt, rfl, hL⟩ := h hne
  refine ⟨b, o, rfl, Nat.lt_of_lt_of_le hlt hs, rfl, fun i x g hx hg => ?_⟩
  obtain ⟨u, a0, a1, a2⟩ := hL i x g hx hg
  have hb := hF b List.mem_cons_self
  exact ⟨u, (cell_blk hb).trans a0, a1.keep hs (fun y hy => hF y (List.mem_cons_of_mem _ (List.mem_flatten.2 ⟨g, List.mem_of_getElem? hg, hy⟩))), (cell_blk hb).trans a2⟩
theorem RowsF.below {w w' : World} {v : Value} {cs : List C2} {F : List Nat} (h : RowsF w v cs F) (hb : Below w.heap.size w w') : RowsF w' v cs F := h.keep hb.size fun b hF => hb.block b (h.lt b hF)
theorem OwnB.below {w w' : World} {N : Nat} {F : List Nat} (h : OwnB w N F) (hl : ∀ b ∈ F, b < w.heap.size) (hb : Below w.heap.size w w') : OwnB w' N F := h.keep fun b hF => hb.block b (hl b hF)
end Go.Proofs.YtaeibfipcenhaaaGreatDoor
namespace Go.Proofs.YtaeibfipcenhaaaGreatDoor
open Go.RowKit Go.Deep
set_option linter.unusedVariables false
theorem RowF.cells {w : World} {v : Value} {vs : List V3} {g : List Nat} (h : RowF w v vs g) :
    ∃ a c b o, v = .slice a vs.length c ∧ vs.length ≤ c ∧ c ≤ maxLen ∧ (a = none → c = 0) ∧ CellsAre w b o (vs.length * 3) (cf vs) ∧ (vs = [] → g = []) ∧ ∀ n, n < vs.length → a = some ⟨b, o, none⟩ ∧ b < w.heap.size ∧ g = [b] := by
  obtain ⟨a, c, rfl, hl, hc, hz, h0, h⟩ := h
  by_cases hne : vs = []
  · exact ⟨a, c, 0, 0, rfl, hl, hc, hz, by subst hne; intro j hj; simp at hj, h0, fun k hk => by rw [hne] at hk; simp at hk⟩
  · obtain ⟨b, o, rfl, hlt, hg, hL⟩ := h hne
    exact ⟨_, c, b, o, rfl, hl, hc, hz, lies_cells.1 hL, h0, fun _ _ => ⟨rfl, hlt, hg⟩⟩
theorem RowF.mk {w w' : World} {v : Value} {vs us : List V3} {g : List Nat} {a : Option Addr} {c b o : Nat} (hs : w.heap.size ≤ w'.heap.size) (hl : us.length = vs.length) (hv : v = .slice a vs.length c) (hlc : vs.length ≤ c) (hc : c ≤ maxLen) (hz : a = none → c = 0) (h0 : vs = [] → g = []) (ha : ∀ n, n < vs.length → a = some ⟨b, o, none⟩ ∧ b < w.heap.size ∧ g = [b])
    (hC : CellsAre w' b o (us.length * 3) (cf us)) : RowF w' v us g := by
  refine ⟨a, c, by rw [hl]; exact hv, by omega, hc, hz, fun e => h0 (by have := congrArg List.length e; rw [hl] at this; exact List.length_eq_zero_iff.1 this), fun hne => ?_⟩
  have hp : 0 < vs.length := by rw [← hl]; exact List.length_pos_iff.2 hne
  obtain ⟨e, hlt, hg⟩ := ha 0 hp
  exact ⟨b, o, e, by omega, hg, lies_cells.2 hC⟩
def CLF (w : World) (b o : Nat) (cs : List C2) (G : List (List Nat)) : Prop :=
  ∀ i x g, cs[i]? = some x → G[i]? = some g → ∃ u, w.cell? ⟨b, o + i * 2, none⟩ = some u ∧ RowF w u x.r g ∧ w.cell? ⟨b, o + i * 2 + 1, none⟩ = some (.int .i64 x.n)
theorem RowsF.pick {w : World} {v : Value} {cs : List C2} {F : List Nat} (h : RowsF w v cs F) :
    ∃ a c b o G, v = .slice a cs.length c ∧ cs.length ≤ c ∧ c ≤ maxLen ∧ (a = none → c = 0) ∧ G.length = cs.length ∧ (cs = [] → F = []) ∧ CLF w b o cs G ∧ ∀ n, n < cs.length → a = some ⟨b, o, none⟩ ∧ b < w.heap.size ∧ F = b :: G.flatten := by
  obtain ⟨a, c, G, rfl, hl, hc, hz, hG, h0, h⟩ := h
  by_cases hne : cs = []
  · exact ⟨a, c, 0, 0, G, rfl, hl, hc, hz, hG, h0, fun i x g hx => by rw [hne] at hx; simp at hx, fun k hk => by rw [hne] at hk; simp at hk⟩
  · obtain ⟨b, o, rfl, hlt, hF, hL⟩ := h hne
    exact ⟨_, c, b, o, G, rfl, hl, hc, hz, hG, h0, hL, fun _ _ => ⟨rfl, hlt, hF⟩⟩
end Go.Proofs.YtaeibfipcenhaaaGreatDoor
namespace Go.Proofs.YtaeibfipcenhaaaGreatDoor
open Go.RowKit Go.Deep Go.ChangeShapes Go.WideShapes
set_option linter.unusedVariables false
theorem own_none {w : World} {N H : Nat} (hH : w.heap.size = H) (hN : N ≤ H) (t : TypeId) (n : Nat) : (w.alloc (.cells #[] t)).ownsRow N t n (.slice (some ⟨H, 0, none⟩) 0 0) 0 [] := by
  subst hH
  exact ⟨by simp, .inr ⟨w.heap.size, 0, #[], rfl, hN, heap_alloc_new w _, Nat.le_refl _, by simp, by simp, by simp⟩⟩
end Go.Proofs.YtaeibfipcenhaaaGreatDoor
namespace Go.Proofs.YtaeibfipcenhaaaGreatDoor
open Go.RowKit Go.Deep
set_option linter.unusedVariables false
attribute [local go_sem ↓] Go.wp_at_zero Go.wp_at_succ
end Go.Proofs.YtaeibfipcenhaaaGreatDoor
