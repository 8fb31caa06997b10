/- Own texts, joined: contracts that the law's proof goes by. -/
import Derived.Test.YtlobjpdkjlmglaaGreatCbl
import Derived.Test.YtlobjpdkjlmglaaGreatToVS
import Derived.Handy
import Derived.Laws.AppendOwnNone
import Derived.Deep.AppendLies
import Derived.Deep.RegionHeld3
import Derived.Test.YtlobjpdkjlmglaaGreatGetP
import Derived.Test.YtlobjpdkjlmglaaGreatAsserts
import Derived.Maps.AppendAt
import Derived.Test.YtlobjpdkjlmglaaGreatBagC
import Derived.Test.YtlobjpdkjlmglaaGreatPstP
import Derived.Test.YtlobjpdkjlmglaaGreatTake
import Derived.BigQuiet
import Derived.Test.YtlobjpdkjlmglaaGreatNum
import Derived.Test.YtlobjpdkjlmglaaGreatFirst
import Derived.Deep.DeepCutAuto
import Derived.Test.YtlobjpdkjlmglaaGreatKit
import Derived.Test.YtlobjpdkjlmglaaGreatStrK
import Derived.Test.YtlobjpdkjlmglaaGreatRelK
import Derived.Test.YtlobjpdkjlmglaaGreatStpP
import Derived.Test.YtlobjpdkjlmglaaGreatBagOkI
import Derived.Test.YtlobjpdkjlmglaaGreatHasP
import Derived.Test.YtlobjpdkjlmglaaGreatShelf
import Derived.Below
import Derived.Test.YtlobjpdkjlmglaaGreatSchP
/- Own text. Blocks of a call's own, and what a call may write: the blocks of a list, and new ones. -/
namespace Go.Proofs.YtlobjpdkjlmglaaGreat
open Go.RowKit Go.Deep
set_option linter.unusedVariables false
/-- the blocks of F may be written. -/
def Free (w : World) (F : List Nat) : Prop := ∀ b ∈ F, ∀ o, w.frozen? ⟨b, o, none⟩ = false
/-- the blocks of F are the call's own from N on: each once, not frozen. -/
def Own (w : World) (N : Nat) (F : List Nat) : Prop := F.Nodup ∧ (∀ b ∈ F, N ≤ b) ∧ Free w F
/-- what was there is as it was, the blocks of F aside. -/
structure Chg (F : List Nat) (w w' : World) : Prop where
  os : w'.os = w.os
  tape : w'.tape = w.tape
  output : w'.output = w.output
  size : w.heap.size ≤ w'.heap.size
  block : ∀ k, k < w.heap.size → k ∉ F → w'.heap[k]? = w.heap[k]?
  free : Free w F → Free w' F
theorem Chg.of_below {w w' : World} {F : List Nat} (h : Below w.heap.size w w') (hF : ∀ b ∈ F, b < w.heap.size) : Chg F w w' :=
  ⟨h.os, h.tape, h.output, h.size, fun k hk _ => h.block k hk, fun f b hb o => (frozen_blk (h.block b (hF b hb))).trans (f b hb o)⟩
theorem Chg.refl (F : List Nat) (w : World) : Chg F w w := ⟨rfl, rfl, rfl, Nat.le_refl _, fun _ _ _ => rfl, id⟩
theorem Chg.trans {a b c : World} {F : List Nat} (h : Chg F a b) (k : Chg F b c) : Chg F a c :=
  ⟨k.os.trans h.os, k.tape.trans h.tape, k.output.trans h.output, Nat.le_trans h.size k.size, fun i hi hF => (k.block i (Nat.lt_of_lt_of_le hi h.size) hF).trans (h.block i hi hF), fun f => k.free (h.free f)⟩
theorem Chg.setCell {w w' : World} {F : List Nat} (h : Chg F w w') {p : Addr} (hp : p.block ∈ F) (u : Value) : Chg F w (w'.setCell p u) :=
  ⟨h.os, h.tape, h.output, by simpa using h.size, fun k hk hF => (Below.heap_setCell _ _ _ _ (by rintro rfl; exact hF hp)).trans (h.block k hk hF), fun f b hb o => by rw [World.frozen?_setCell]; exact h.free f b hb o⟩
theorem Chg.wide {w w' : World} {F G : List Nat} (h : Chg F w w') (hs : ∀ b ∈ F, b ∈ G) (hG : ∀ b ∈ G, b ∉ F → b < w.heap.size) : Chg G w w' :=
  ⟨h.os, h.tape, h.output, h.size, fun k hk hF => h.block k hk fun hx => hF (hs k hx), fun f b hb o => by
    by_cases hx : b ∈ F
    · exact h.free (fun c hc => f c (hs c hc)) b hx o
    · exact (frozen_blk (h.block b (hG b hb hx) hx)).trans (f b hb o)⟩
theorem Chg.below {w w' : World} {F : List Nat} {N : Nat} (h : Chg F w w') (hF : ∀ b ∈ F, N ≤ b) (hN : N ≤ w.heap.size) : Below N w w' :=
  ⟨h.os, h.tape, h.output, h.size, fun k hk => h.block k (by omega) fun hx => by have := hF k hx; omega⟩
theorem Own.keep {w w' : World} {N : Nat} {F : List Nat} (h : Own w N F) (hF : ∀ b ∈ F, w'.heap[b]? = w.heap[b]?) : Own w' N F :=
  ⟨h.1, h.2.1, fun b hb o => (frozen_blk (hF b hb)).trans (h.2.2 b hb o)⟩
/-- the n cells from place o of block b on are those of f. -/
def CellsAre (w : World) (b o n : Nat) (f : Nat → Value) : Prop := ∀ j, j < n → w.cell? ⟨b, o + j, none⟩ = some (f j)
theorem CellsAre.set {w : World} {b o n j0 : Nat} {f : Nat → Value} (h : CellsAre w b o n f) (hj : j0 < n) (u : Value) : CellsAre (w.setCell ⟨b, o + j0, none⟩ u) b o n (fun j => if j = j0 then u else f j) := by
  intro j hjn
  show _ = some (if j = j0 then u else f j)
  by_cases e : j = j0
  · subst e
    rw [if_pos rfl]
    exact World.cell?_setCell_same _ _ _ (h j hjn)
  · rw [if_neg e, World.cell?_setCell_other _ _ _ _ (by intro x; have := congrArg Addr.off x; simp at this; omega)]
    exact h j hjn
theorem CellsAre.put {w : World} {b o n j0 q : Nat} {f : Nat → Value} (h : CellsAre w b o n f) (hj : j0 < n) (hq : q = o + j0) (u : Value) : CellsAre (w.setCell ⟨b, q, none⟩ u) b o n (fun j => if j = j0 then u else f j) := by subst hq; exact h.set hj u
theorem CellsAre.keep {w w' : World} {b o n : Nat} {f : Nat → Value} (h : CellsAre w b o n f) (hb : w'.heap[b]? = w.heap[b]?) : CellsAre w' b o n f := fun j hj => (cell_blk hb).trans (h j hj)
theorem CellsAre.congr {w : World} {b o n : Nat} {f g : Nat → Value} (h : CellsAre w b o n f) (e : ∀ j, j < n → f j = g j) : CellsAre w b o n g := fun j hj => (h j hj).trans (congrArg some (e j hj))
theorem lies_cells {w : World} {b o : Nat} {vs : List V3} : Lies w b o vs ↔ CellsAre w b o (vs.length * 3) (cf vs) := by
  constructor
  · intro h j hj
    have hi : j / 3 < vs.length := by omega
    obtain ⟨h0, h1, h2⟩ := h (j / 3) vs[j / 3] (by simp)
    obtain ⟨e0, e1, e2⟩ := cf_at (vs := vs) (k := j / 3) (x := vs[j / 3]) (by simp)
    have hj3 : j = j / 3 * 3 ∨ j = j / 3 * 3 + 1 ∨ j = j / 3 * 3 + 2 := by omega
    rcases hj3 with e | e | e
    · rw [e, e0]; exact h0
    · rw [e, e1, ← Nat.add_assoc]; exact h1
    · rw [e, e2, ← Nat.add_assoc]; exact h2
  · intro h i x hx
    have hi : i < vs.length := (List.getElem?_eq_some_iff.1 hx).1
    obtain ⟨e0, e1, e2⟩ := cf_at hx
    refine ⟨?_, ?_, ?_⟩
    · rw [h (i * 3) (by omega), e0]
    · rw [Nat.add_assoc, h (i * 3 + 1) (by omega), e1]
    · rw [Nat.add_assoc, h (i * 3 + 2) (by omega), e2]
/-- the slice value v has the values vs, in the blocks g (one, or none of no values). -/
def RowF (w : World) (v : Value) (vs : List V3) (g : List Nat) : Prop :=
  ∃ (a : Option Addr) (c : Nat), v = .slice a vs.length c ∧ vs.length ≤ c ∧ c ≤ maxLen ∧ (a = none → c = 0) ∧ (vs = [] → g = []) ∧ (vs ≠ [] → ∃ b o, a = some ⟨b, o, none⟩ ∧ b < w.heap.size ∧ g = [b] ∧ Lies w b o vs)
theorem RowF.is {w : World} {v : Value} {vs : List V3} {g : List Nat} (h : RowF w v vs g) : RowIs w v vs := by
  obtain ⟨a, c, rfl, hl, hc, _, _, h⟩ := h
  refine ⟨a, c, rfl, hl, hc, fun hne => ?_⟩
  obtain ⟨b, o, rfl, hlt, _, hL⟩ := h hne
  exact ⟨b, o, rfl, hlt, hL⟩
theorem RowF.lt {w : World} {v : Value} {vs : List V3} {g : List Nat} (h : RowF w v vs g) : ∀ b ∈ g, b < w.heap.size := by
  obtain ⟨a, c, rfl, hl, hc, _, h0, h⟩ := h
  intro b hb
  by_cases hne : vs = []
  · rw [h0 hne] at hb; cases hb
  · obtain ⟨b', o, rfl, hlt, rfl, hL⟩ := h hne
    rcases List.mem_singleton.1 hb with rfl
    exact hlt
theorem RowF.keep {w w' : World} {v : Value} {vs : List V3} {g : List Nat} (h : RowF w v vs g) (hs : w.heap.size ≤ w'.heap.size) (hg : ∀ b ∈ g, w'.heap[b]? = w.heap[b]?) : RowF w' v vs g := by
  obtain ⟨a, c, rfl, hl, hc, hz, h0, h⟩ := h
  refine ⟨a, c, rfl, hl, hc, hz, h0, fun hne => ?_⟩
  obtain ⟨b, o, rfl, hlt, rfl, hL⟩ := h hne
  exact ⟨b, o, rfl, Nat.lt_of_lt_of_le hlt hs, rfl, lies_cells.2 ((lies_cells.1 hL).keep (hg b (by simp)))⟩
/-- the slice value v has the counted rows cs, in the blocks F. -/
def RowsF (w : World) (v : Value) (cs : List C2) (F : List Nat) : Prop :=
  ∃ (a : Option Addr) (c : Nat) (G : List (List Nat)), v = .slice a cs.length c ∧ cs.length ≤ c ∧ c ≤ maxLen ∧ (a = none → c = 0) ∧ G.length = cs.length ∧ (cs = [] → F = []) ∧
    (cs ≠ [] → ∃ b o, a = some ⟨b, o, none⟩ ∧ b < w.heap.size ∧ F = b :: G.flatten ∧ ∀ i x g, cs[i]? = some x → G[i]? = some g → ∃ u, w.cell? ⟨b, o + i * 2, none⟩ = some u ∧ RowF w u x.r g ∧ w.cell? ⟨b, o + i * 2 + 1, none⟩ = some (.int .i64 x.n))
theorem RowsF.is {w : World} {v : Value} {cs : List C2} {F : List Nat} (h : RowsF w v cs F) : RowsIs w v cs := by
  obtain ⟨a, c, G, rfl, hl, hc, _, hG, _, h⟩ := h
  refine ⟨a, c, rfl, hl, hc, fun hne => ?_⟩
  obtain ⟨b, o, rfl, hlt, _, hL⟩ := h hne
  refine ⟨b, o, rfl, hlt, fun i x hx => ?_⟩
  have hi : i < cs.length := (List.getElem?_eq_some_iff.1 hx).1
  have hi' : i < G.length := by omega
  obtain ⟨u, h0, h1, h2⟩ := hL i x G[i] hx (by simp)
  exact ⟨u, h0, h1.is, h2⟩
theorem RowsF.lt {w : World} {v : Value} {cs : List C2} {F : List Nat} (h : RowsF w v cs F) : ∀ b ∈ F, b < w.heap.size := by
  obtain ⟨a, c, G, rfl, hl, hc, _, hG, h0, h⟩ := h
  intro x hx
  by_cases hne : cs = []
  · rw [h0 hne] at hx; cases hx
  obtain ⟨b, o, rfl, hlt, rfl, hL⟩ := h hne
  rcases List.mem_cons.1 hx with rfl | hx
  · exact hlt
  obtain ⟨g, hg, hxg⟩ := List.mem_flatten.1 hx
  obtain ⟨i, hi, rfl⟩ := List.mem_iff_getElem.1 hg
  have hi' : i < cs.length := by omega
  obtain ⟨u, _, hk, _⟩ := hL i cs[i] G[i] (by simp) (by simp)
  exact hk.lt x hxg
theorem RowsF.keep {w w' : World} {v : Value} {cs : List C2} {F : List Nat} (h : RowsF w v cs F) (hs : w.heap.size ≤ w'.heap.size) (hF : ∀ b ∈ F, w'.heap[b]? = w.heap[b]?) : RowsF w' v cs F := by
  obtain ⟨a, c, G, rfl, hl, hc, hz, hG, h0, h⟩ := h
  refine ⟨a, c, G, rfl, hl, hc, hz, hG, h0, fun hne => ?_⟩
  obtain ⟨b, o, rfl, hlt, rfl, hL⟩ := h hne
  refine ⟨b, o, rfl, Nat.lt_of_lt_of_le hlt hs, rfl, fun i x g hx hg => ?_⟩
  obtain ⟨u, a0, a1, a2⟩ := hL i x g hx hg
  have hb := hF b List.mem_cons_self
  exact ⟨u, (cell_blk hb).trans a0, a1.keep hs (fun y hy => hF y (List.mem_cons_of_mem _ (List.mem_flatten.2 ⟨g, List.mem_of_getElem? hg, hy⟩))), (cell_blk hb).trans a2⟩
theorem RowsF.below {w w' : World} {v : Value} {cs : List C2} {F : List Nat} (h : RowsF w v cs F) (hb : Below w.heap.size w w') : RowsF w' v cs F := h.keep hb.size fun b hF => hb.block b (h.lt b hF)
theorem RowsF.chg {w w' : World} {v : Value} {cs : List C2} {F G : List Nat} (h : RowsF w v cs F) (hb : Chg G w w') (hd : ∀ b ∈ F, b ∉ G) : RowsF w' v cs F := h.keep hb.size fun b hF => hb.block b (h.lt b hF) (hd b hF)
theorem Own.below {w w' : World} {N : Nat} {F : List Nat} (h : Own w N F) (hl : ∀ b ∈ F, b < w.heap.size) (hb : Below w.heap.size w w') : Own w' N F := h.keep fun b hF => hb.block b (hl b hF)
end Go.Proofs.YtlobjpdkjlmglaaGreat
/- Own text. A row that is copied: what append makes of an empty row and one that came in. -/
namespace Go.Proofs.YtlobjpdkjlmglaaGreat
open Go.RowKit Go.Deep Go.ChangeShapes Go.WideShapes
set_option linter.unusedVariables false
/-- the cells of a row, in a list. -/
def rc (vs : List V3) : List Value := (List.range (vs.length * 3)).map (cf vs)
theorem rc_len (vs : List V3) : (rc vs).length = vs.length * 3 := by simp [rc]
theorem rc_one (vs : List V3) : ∀ u ∈ rc vs, u.oneCell' = true := by
  intro u hu
  obtain ⟨j, _, rfl⟩ := List.mem_map.1 hu
  unfold cf
  split
  · rfl
  · split <;> rfl
theorem rc_cells {w : World} {b o : Nat} {vs : List V3} (h : Lies w b o vs) : ∀ j u, (rc vs)[j]? = some u → w.cell? ((⟨b, o, none⟩ : Addr).add j) = some u := by
  intro j u hu
  have hj : j < vs.length * 3 := by have := (List.getElem?_eq_some_iff.1 hu).1; rwa [rc_len] at this
  have e : u = cf vs j := by simp [rc, hj] at hu; exact hu.symm
  rw [add_plain, e]
  exact lies_cells.1 h j hj
theorem own_rowF {w : World} {N n : Nat} {v : Value} {vs : List V3} {t : TypeId} (h : w.ownsRow N t 3 v n (rc vs)) : ∃ g, RowF w v vs g ∧ Own w N g := by
  obtain ⟨hl, h⟩ := h
  rw [rc_len] at hl
  obtain rfl : n = vs.length := by omega
  by_cases hne : vs = []
  · refine ⟨[], ?_, by simp [Own, Free]⟩
    subst hne
    rcases h with ⟨rfl, _⟩ | ⟨g, cap, cur, rfl, _, _, hn, hm, _⟩
    · exact ⟨none, 0, rfl, Nat.le_refl _, by simp, fun _ => rfl, fun _ => rfl, fun x => absurd rfl x⟩
    · exact ⟨_, cap, rfl, hn, hm, (fun x => by cases x), fun _ => rfl, fun x => absurd rfl x⟩
  have hp : 0 < vs.length := List.length_pos_iff.2 hne
  rcases h with ⟨_, h0⟩ | ⟨g, cap, cur, rfl, hg, hc, hn, hm, hs, ht⟩
  · omega
  have hlt : g < w.heap.size := by
    rcases Nat.lt_or_ge g w.heap.size with h' | h'
    · exact h'
    · simp [Array.getElem?_eq_none h'] at hc
  refine ⟨[g], ⟨_, cap, rfl, hn, hm, (fun x => by cases x), fun x => absurd x hne, fun _ => ⟨g, 0, rfl, hlt, rfl, lies_cells.2 fun j hj => ?_⟩⟩, by simp, by simpa using hg, fun b hb o => ?_⟩
  · rw [Nat.zero_add]
    simp only [World.cell?, hc]
    have h1 : (cur.toList.take (vs.length * 3))[j]? = some (cf vs j) := by rw [ht]; simp [rc, hj]
    rw [List.getElem?_take, if_pos hj, Array.getElem?_toList] at h1
    simpa using h1
  · rcases List.mem_singleton.1 hb with rfl
    simp [World.frozen?, hc]
theorem rowF_own_nil {w : World} : RowF w (.slice none 0 0) [] [] := ⟨none, 0, rfl, Nat.le_refl _, by simp, fun _ => rfl, fun _ => rfl, fun x => absurd rfl x⟩
theorem own_empty (w : World) (t : TypeId) (n : Nat) : (w.alloc (.cells #[] t)).ownsRow w.heap.size t n (.slice (some ⟨w.heap.size, 0, none⟩) 0 0) 0 [] :=
  ⟨by simp, .inr ⟨w.heap.size, 0, #[], rfl, Nat.le_refl _, heap_alloc_new w _, Nat.le_refl _, by simp, by simp, by simp⟩⟩
theorem own_none {w : World} {N H : Nat} (hH : w.heap.size = H) (hN : N ≤ H) (t : TypeId) (n : Nat) : (w.alloc (.cells #[] t)).ownsRow N t n (.slice (some ⟨H, 0, none⟩) 0 0) 0 [] := by
  subst hH
  exact ⟨by simp, .inr ⟨w.heap.size, 0, #[], rfl, hN, heap_alloc_new w _, Nat.le_refl _, by simp, by simp, by simp⟩⟩
set_option maxHeartbeats 1000000 in
set_option maxRecDepth 100000 in
theorem l02CopyRow_any (v : Value) (vs : List V3) (g0 : List Nat) (w : World) (hr : RowF w v vs g0) (hn : vs.length ≤ 1048576) :
    Calls Tryz.prog 125 #[v] w fun e w' => (∃ u g, e = .returned u ∧ RowF w' u vs g ∧ Own w' w.heap.size g) ∧ Below w.heap.size w w' := by
  obtain ⟨i0, hi, hz0, hz1, hz2⟩ := info_parts Tryz.infoVal
  obtain ⟨a, c, rfl, hl, hc, hz, _, h⟩ := hr
  have he := own_empty w 123 3
  have hb0 : Below w.heap.size w (w.alloc (.cells #[] 123)) := (Below.refl _ _).alloc (Nat.le_refl _) _
  cases a with
  | none =>
    obtain rfl := hz rfl
    obtain rfl : vs = [] := List.length_eq_zero_iff.1 (by omega)
    go_enter Tryz.func125, Tryz.ntmps125
    go_wp2
    go_returns
    obtain ⟨g, hg⟩ := own_rowF (vs := []) he
    first | exact ⟨⟨_, g, rfl, hg⟩, by repeat (first | (with_reducible exact Below.refl _ _) | (with_reducible refine Below.drew ?_) | (with_reducible refine Below.alloc ?_ ?hh _; case hh => first | (simp; done) | (simp; omega) | omega) | (with_reducible refine Below.setCell ?_ ?hh _; case hh => first | (simp; done) | (simp; omega) | omega) | refine bstep (by assumption) (by first | (simp; done) | (simp; omega) | omega) ?_)⟩ | exact ⟨⟨_, rfl, g, hg⟩, by repeat (first | (with_reducible exact Below.refl _ _) | (with_reducible refine Below.drew ?_) | (with_reducible refine Below.alloc ?_ ?hh _; case hh => first | (simp; done) | (simp; omega) | omega) | (with_reducible refine Below.setCell ?_ ?hh _; case hh => first | (simp; done) | (simp; omega) | omega) | refine bstep (by assumption) (by first | (simp; done) | (simp; omega) | omega) ?_)⟩
  | some ad =>
    have hcl : ∀ j u, (rc vs)[j]? = some u → (w.alloc (.cells #[] 123)).cell? (ad.add j) = some u := by
      by_cases hne : vs = []
      · subst hne; intro j u hu; simp [rc] at hu
      · obtain ⟨b, o, hb, hlt, _, hL⟩ := h hne
        cases hb
        exact rc_cells (hL.below hb0 hlt)
    go_enter Tryz.func125, Tryz.ntmps125
    go_wp2_with (at_builtin; refine wpList_append_own _ rfl _ _ 114 rfl w.heap.size 123 i0 _ 3 32 Tryz.underlying114 hi hz0 hz1 hz2 rfl (by decide) _ _ _ rfl he ad vs.length c (rc vs) rfl (rc_len vs) hcl (rc_one vs) ?c3 ?c4 ?c5 ?_)
    case c3 => unfold maxLen; omega
    case c4 => omega
    case c5 => simp
    intro v5 w5 hown5 hgr5 _
    obtain ⟨g, hg⟩ := own_rowF (vs := vs) (by simpa using hown5)
    have bel : Below w.heap.size w w5 := hb0.grown hgr5 (by simp) (fun k hk => by simp [Value.ownBlock] at hk; omega)
    clear hown5 hgr5 hcl he
    go_wp2
    go_returns
    exact ⟨⟨_, g, rfl, hg⟩, bel⟩
end Go.Proofs.YtlobjpdkjlmglaaGreat
/- Own text. A bag that grows by append: its rows' heads in a block of the call's own, each row in one of its own. -/
namespace Go.Proofs.YtlobjpdkjlmglaaGreat
open Go.RowKit Go.Deep Go.ChangeShapes Go.WideShapes
set_option linter.unusedVariables false
/-- the cells of counted rows' heads; us: the rows' slices. -/
def cc (us : List Value) (cs : List C2) : List Value := (us.zip cs).flatMap fun p => [p.1, .int .i64 p.2.n]
theorem cc_len {us : List Value} {cs : List C2} (h : us.length = cs.length) : (cc us cs).length = cs.length * 2 := by
  unfold cc
  induction us generalizing cs with
  | nil => cases cs with | nil => rfl | cons => simp at h
  | cons u us ih =>
    cases cs with
    | nil => simp at h
    | cons c cs =>
      have := ih (cs := cs) (by simpa using h)
      rw [List.zip_cons_cons, List.flatMap_cons, List.length_append, this]
      simp
      omega
theorem cc_push {us : List Value} {cs : List C2} (h : us.length = cs.length) (u : Value) (x : C2) : cc (us ++ [u]) (cs ++ [x]) = cc us cs ++ [u, .int .i64 x.n] := by
  unfold cc
  rw [List.zip_append h, List.flatMap_append]
  simp
theorem cc_at {us : List Value} {cs : List C2} (h : us.length = cs.length) : ∀ {i : Nat} {u : Value} {x : C2}, us[i]? = some u → cs[i]? = some x → (cc us cs)[i * 2]? = some u ∧ (cc us cs)[i * 2 + 1]? = some (.int .i64 x.n) := by
  induction us generalizing cs with
  | nil => intro i u x hu; simp at hu
  | cons v us ih =>
    cases cs with
    | nil => simp at h
    | cons c cs =>
      intro i u x hu hx
      have e : cc (v :: us) (c :: cs) = v :: .int .i64 c.n :: cc us cs := by unfold cc; rw [List.zip_cons_cons, List.flatMap_cons]; rfl
      rw [e]
      cases i with
      | zero => simp at hu hx; subst hu hx; simp
      | succ i =>
        have := ih (cs := cs) (by simpa using h) (i := i) (u := u) (x := x) (by simpa using hu) (by simpa using hx)
        rw [show (i + 1) * 2 = i * 2 + 1 + 1 from by omega]
        simpa using this
/-- the slice value v has the counted rows cs, in memory of the call's own from N on. -/
structure BagOwn (w : World) (N : Nat) (v : Value) (cs : List C2) (us : List Value) (G : List (List Nat)) : Prop where
  own : w.ownsRow N 116 2 v cs.length (cc us cs)
  ul : us.length = cs.length
  gl : G.length = cs.length
  row : ∀ (i : Nat) (x : C2) (u : Value) (g : List Nat), cs[i]? = some x → us[i]? = some u → G[i]? = some g → RowF w u x.r g
  free : Own w N G.flatten
  out : ∀ b, v.ownBlock = some b → b ∉ G.flatten
theorem BagOwn.nil (w : World) (N : Nat) : BagOwn w N (.slice none 0 0) [] [] [] :=
  ⟨⟨rfl, .inl ⟨rfl, rfl⟩⟩, rfl, rfl, fun i x u g hx => by simp at hx, by simp [Own, Free], fun b _ => by simp⟩
theorem ownsRow_lt {w : World} {N e n s : Nat} {v : Value} {xs : List Value} (h : w.ownsRow N e s v n xs) : ∀ b, v.ownBlock = some b → N ≤ b ∧ b < w.heap.size := by
  intro b hb
  rcases h.2 with ⟨rfl, _⟩ | ⟨g, cap, cur, rfl, hg, hc, _⟩
  · simp [Value.ownBlock] at hb
  · simp [Value.ownBlock] at hb
    subst hb
    refine ⟨hg, ?_⟩
    rcases Nat.lt_or_ge g w.heap.size with h' | h'
    · exact h'
    · simp [Array.getElem?_eq_none h'] at hc
theorem ownsRow_keep {w w' : World} {N e n s : Nat} {v : Value} {xs : List Value} (h : w.ownsRow N e s v n xs) (hb : ∀ b, v.ownBlock = some b → w'.heap[b]? = w.heap[b]?) : w'.ownsRow N e s v n xs := by
  refine ⟨h.1, ?_⟩
  rcases h.2 with hn | ⟨g, cap, cur, rfl, hg, hc, rest⟩
  · exact .inl hn
  · exact .inr ⟨g, cap, cur, rfl, hg, (hb g rfl).trans hc, rest⟩
theorem BagOwn.lt {w : World} {N : Nat} {v : Value} {cs : List C2} {us : List Value} {G : List (List Nat)} (h : BagOwn w N v cs us G) : ∀ b ∈ G.flatten, b < w.heap.size := by
  intro b hb
  obtain ⟨g, hg, hbg⟩ := List.mem_flatten.1 hb
  obtain ⟨i, hi, rfl⟩ := List.mem_iff_getElem.1 hg
  have h1 := h.gl
  have h2 := h.ul
  have hi1 : i < cs.length := by omega
  have hi2 : i < us.length := by omega
  exact (h.row i cs[i] us[i] G[i] (by simp) (by simp) (by simp)).lt b hbg
theorem BagOwn.keep {w w' : World} {N : Nat} {v : Value} {cs : List C2} {us : List Value} {G : List (List Nat)} (h : BagOwn w N v cs us G) (hs : w.heap.size ≤ w'.heap.size) (hb : ∀ b, N ≤ b → b < w.heap.size → w'.heap[b]? = w.heap[b]?) : BagOwn w' N v cs us G := by
  have hk : ∀ b ∈ G.flatten, w'.heap[b]? = w.heap[b]? := fun b hbG => hb b (h.free.2.1 b hbG) (h.lt b hbG)
  refine ⟨ownsRow_keep h.own fun b hv => hb b (ownsRow_lt h.own b hv).1 (ownsRow_lt h.own b hv).2, h.ul, h.gl, fun i x u g hx hu hg => (h.row i x u g hx hu hg).keep hs fun b hbg => hk b (List.mem_flatten.2 ⟨g, List.mem_of_getElem? hg, hbg⟩), h.free.keep hk, h.out⟩
theorem BagOwn.below {w w' : World} {N : Nat} {v : Value} {cs : List C2} {us : List Value} {G : List (List Nat)} (h : BagOwn w N v cs us G) (hb : Below w.heap.size w w') : BagOwn w' N v cs us G := h.keep hb.size fun b _ hlt => hb.block b hlt
theorem BagOwn.push {w w' : World} {N : Nat} {v v' u : Value} {cs : List C2} {us : List Value} {G : List (List Nat)} {x : C2} {g : List Nat} (h : BagOwn w N v cs us G) (hR : RowF w u x.r g) (hO : Own w N g) (hd1 : ∀ b ∈ G.flatten, b ∉ g) (hd2 : ∀ b, v.ownBlock = some b → b ∉ g)
    (ho : w'.ownsRow N 116 2 v' (cs.length + 1) (cc us cs ++ [u, .int .i64 x.n])) (hg : w.grownBy w' v.ownBlock) (hat : ∀ b, v'.ownBlock = some b → v.ownBlock = some b ∨ w.heap.size ≤ b) :
    BagOwn w' N v' (cs ++ [x]) (us ++ [u]) (G ++ [g]) := by
  have hG := h.lt
  have hm : ∀ b ∈ (G ++ [g]).flatten, b ∈ G.flatten ∨ b ∈ g := by intro b hb; simpa using hb
  have hlt : ∀ b ∈ (G ++ [g]).flatten, b < w.heap.size := fun b hb => (hm b hb).elim (hG b) (hR.lt b)
  have hne : ∀ b ∈ (G ++ [g]).flatten, some b ≠ v.ownBlock := fun b hb e => (hm b hb).elim (h.out b e.symm) (hd2 b e.symm)
  have hk : ∀ b ∈ (G ++ [g]).flatten, w'.heap[b]? = w.heap[b]? := fun b hb => hg.block b (hlt b hb) (hne b hb)
  refine ⟨?_, by simp [h.ul], by simp [h.gl], fun i y z q hy hz hq => ?_, ?_, fun b hb => ?_⟩
  · rw [cc_push h.ul]; simpa using ho
  · by_cases hi : i < cs.length
    · rw [List.getElem?_append_left hi] at hy
      rw [List.getElem?_append_left (by rw [h.ul]; exact hi)] at hz
      rw [List.getElem?_append_left (by rw [h.gl]; exact hi)] at hq
      exact (h.row i y z q hy hz hq).keep hg.size fun b hb => hk b (by simp; exact .inl ⟨q, List.mem_of_getElem? hq, hb⟩)
    · have hl : i < (cs ++ [x]).length := (List.getElem?_eq_some_iff.1 hy).1
      obtain rfl : i = cs.length := by simp at hl; omega
      rw [List.getElem?_append_right (Nat.le_refl _)] at hy
      rw [List.getElem?_append_right (by rw [h.ul]; exact Nat.le_refl _)] at hz
      rw [List.getElem?_append_right (by rw [h.gl]; exact Nat.le_refl _)] at hq
      simp [h.ul, h.gl] at hy hz hq
      subst hy hz hq
      exact hR.keep hg.size fun b hb => hk b (by simp; exact .inr hb)
  · refine Own.keep (w := w) ⟨?_, fun b hb => (hm b hb).elim (h.free.2.1 b) (hO.2.1 b), fun b hb => (hm b hb).elim (h.free.2.2 b) (hO.2.2 b)⟩ hk
    rw [List.flatten_append, List.nodup_append]
    refine ⟨h.free.1, by simpa using hO.1, fun a ha b hb => ?_⟩
    rintro rfl
    exact hd1 a ha (by simpa using hb)
  · intro hx
    rcases hat b hb with e | e
    · exact hne b hx e.symm
    · have := hlt b hx; omega
theorem BagOwn.weak {w : World} {N M : Nat} {v : Value} {cs : List C2} {us : List Value} {G : List (List Nat)} (h : BagOwn w N v cs us G) (hM : M ≤ N) : BagOwn w M v cs us G := by
  refine ⟨⟨h.own.1, ?_⟩, h.ul, h.gl, h.row, ⟨h.free.1, fun b hb => Nat.le_trans hM (h.free.2.1 b hb), h.free.2.2⟩, h.out⟩
  rcases h.own.2 with hn | ⟨g, cap, cur, hv, hg, rest⟩
  · exact .inl hn
  · exact .inr ⟨g, cap, cur, hv, Nat.le_trans hM hg, rest⟩
theorem BagOwn.shape {w : World} {N : Nat} {v : Value} {cs : List C2} {us : List Value} {G : List (List Nat)} (h : BagOwn w N v cs us G) : ∃ a c, v = .slice a cs.length c := by
  rcases h.own.2 with ⟨rfl, h0⟩ | ⟨g, cap, cur, hv, _⟩
  · exact ⟨none, 0, by rw [h0]⟩
  · exact ⟨_, cap, hv⟩
theorem BagOwn.rowsF {w : World} {N : Nat} {v : Value} {cs : List C2} {us : List Value} {G : List (List Nat)} (h : BagOwn w N v cs us G) : ∃ F, RowsF w v cs F ∧ Own w N F := by
  have hlt := ownsRow_lt h.own
  have hGl := h.lt
  by_cases hne : cs = []
  · refine ⟨[], ?_, by simp [Own, Free]⟩
    have hG : G = [] := List.length_eq_zero_iff.1 (by rw [h.gl, hne]; rfl)
    subst hne
    rcases h.own.2 with ⟨rfl, _⟩ | ⟨g, cap, cur, rfl, _, _, hn, hm, _⟩
    · exact ⟨none, 0, G, rfl, Nat.le_refl _, by simp, fun _ => rfl, h.gl, fun _ => rfl, fun x => absurd rfl x⟩
    · exact ⟨_, cap, G, rfl, hn, hm, (fun x => by cases x), h.gl, fun _ => rfl, fun x => absurd rfl x⟩
  have hp : 0 < cs.length := List.length_pos_iff.2 hne
  obtain ⟨hl, ho⟩ := h.own
  rcases ho with ⟨_, h0⟩ | ⟨g, cap, cur, rfl, hg, hc, hn, hm, hs, ht⟩
  · omega
  have hgo : g ∉ G.flatten := h.out g rfl
  refine ⟨g :: G.flatten, ⟨_, cap, G, rfl, hn, hm, (fun x => by cases x), h.gl, fun x => absurd x hne, fun _ => ⟨g, 0, rfl, (hlt g rfl).2, rfl, fun i x q hx hq => ?_⟩⟩, List.nodup_cons.2 ⟨hgo, h.free.1⟩, fun b hb => ?_, fun b hb o => ?_⟩
  · have hi : i < cs.length := (List.getElem?_eq_some_iff.1 hx).1
    have hiu : i < us.length := by rw [h.ul]; exact hi
    obtain ⟨e0, e1⟩ := cc_at h.ul (i := i) (u := us[i]) (x := x) (by simp) hx
    have get : ∀ j u, j < cs.length * 2 → (cc us cs)[j]? = some u → w.cell? ⟨g, j, none⟩ = some u := by
      intro j u hj hu
      simp only [World.cell?, hc]
      rw [← ht, List.getElem?_take, if_pos hj, Array.getElem?_toList] at hu
      simpa using hu
    exact ⟨us[i], by rw [Nat.zero_add]; exact get _ _ (by omega) e0, h.row i x us[i] q hx (by simp) hq, by rw [Nat.zero_add]; exact get _ _ (by omega) e1⟩
  · rcases List.mem_cons.1 hb with rfl | hb
    · exact hg
    · exact h.free.2.1 b hb
  · rcases List.mem_cons.1 hb with rfl | hb
    · simp [World.frozen?, hc]
    · exact h.free.2.2 b hb o
end Go.Proofs.YtlobjpdkjlmglaaGreat
/- Own text. One counted row that is read: the contract of impl.getCounted. -/
namespace Go.Proofs.YtlobjpdkjlmglaaGreat
open Go.RowKit Go.Deep
set_option linter.unusedVariables false
attribute [local go_sem] ta_nullForm_intForm ta_intForm_intForm ta_boolForm_intForm ta_textForm_intForm
theorem implGet_v {s : ByteArray} {i k n j : Int} {x : ByteArray} (hT : getT s i = (k, n, x, j)) (w : World) (hs : s.size ≤ 1048576) :
    Calls Tryz.prog 143 #[.string s, .int .i64 i] w fun e w' => e = .returned (.tuple #[(.agg #[.int .i64 k, .int .i64 n, .string x]), .int .i64 j]) ∧ Below w.heap.size w w' := by
  have h := implGet_any s i w hs
  rw [hT] at h
  exact h
theorem specGet_v {s : ByteArray} {i k n j : Int} {x : ByteArray} (hT : getT s i = (k, n, x, j)) (w : World) (hs : s.size ≤ 1048576) :
    Calls Tryz.prog 81 #[.string s, .int .i64 i] w fun e w' => e = .returned (.tuple #[(.agg #[.int .i64 k, .int .i64 n, .string x]), .int .i64 j]) ∧ Below w.heap.size w w' := by
  have h := specGet_any s i w hs
  rw [hT] at h
  exact h
theorem getT_kind (s : ByteArray) (i : Int) : (getT s i).1 = 0 ∨ (getT s i).1 = 1 ∨ (getT s i).1 = 2 ∨ (getT s i).1 = 3 := by
  unfold getT
  split
  · unfold getN
    split
    · exact .inl rfl
    split
    · exact .inr (.inl rfl)
    split
    · exact .inr (.inr (.inl rfl))
    split
    · exact .inr (.inr (.inr rfl))
    · exact .inl rfl
  · exact .inl rfl
theorem valsJ_succ (s : ByteArray) : ∀ (q : Nat) (i : Int), valsJ s (q + 1) i = tJ s (valsJ s q i)
  | 0, _ => rfl
  | q + 1, i => by rw [valsJ, valsJ_succ s q]; rfl
theorem valsV_succ (s : ByteArray) : ∀ (q : Nat) (i : Int), valsV s (q + 1) i = valsV s q i ++ [tV s (valsJ s q i)]
  | 0, _ => rfl
  | q + 1, i => by rw [valsV, valsV_succ s q]; rfl
theorem rc_push (vs : List V3) (x : V3) : rc (vs ++ [x]) = rc vs ++ [.int .i64 x.k, .int .i64 x.n, .string x.s] := by
  unfold rc
  have hl : (vs ++ [x]).length * 3 = vs.length * 3 + 3 := by simp; omega
  rw [hl, List.range_add, List.map_append]
  congr 1
  · refine List.map_congr_left fun j hj => ?_
    have hj' := List.mem_range.1 hj
    unfold cf
    have e : (vs ++ [x]).getD (j / 3) ⟨0, 0, ⟨#[]⟩⟩ = vs.getD (j / 3) ⟨0, 0, ⟨#[]⟩⟩ := by
      rw [List.getD_eq_getElem?_getD, List.getD_eq_getElem?_getD, List.getElem?_append_left (by omega)]
    rw [e]
  · obtain ⟨h0, h1, h2⟩ := cf_at (vs := vs ++ [x]) (k := vs.length) (x := x) (by simp)
    rw [show List.range 3 = [0, 1, 2] from rfl]
    simp [h0, h1, h2]
set_option maxHeartbeats 4000000 in
set_option maxRecDepth 100000 in
theorem getCounted_no (s : ByteArray) (i : Int) (W : Nat) (w : World) (hs : s.size ≤ 1048576) (hk : (tV s i).k ≠ 1) :
    Calls Tryz.prog 134 #[.string s, .int .i64 i, .int .i64 W] w fun e w' => e = .returned (.tuple #[.agg #[.slice none 0 0, .int .i64 0], .int .i64 (-1)]) ∧ Below w.heap.size w w' := by
  obtain ⟨k, n, x, j, hT⟩ : ∃ k n x j, getT s i = (k, n, x, j) := ⟨_, _, _, _, rfl⟩
  have hkd := getT_kind s i
  have hk' : k ≠ 1 := by unfold tV at hk; rw [hT] at hk; exact hk
  rw [hT] at hkd
  dsimp only at hkd
  go_enter Tryz.func134, Tryz.ntmps134
  go_wp2_with fail
  refine Calls.mono (implGet_v hT _ hs) ?_
  rintro e w1 ⟨rfl, hb1⟩
  have hz1 := hb1.size
  simp only [World.size_alloc] at hz1
  have hf1 := (bcell hb1).2
  have hy0 : w.heap.size < w1.heap.size := by omega
  have hy1 : w.heap.size < w1.heap.size + 1 := by omega
  have hy2 : w.heap.size < w1.heap.size + 1 + 1 := by omega
  have hy3 : w.heap.size < w1.heap.size + 1 + 1 + 1 := by omega
  have hy4 : w1.heap.size < w1.heap.size + 1 + 1 := by omega
  have hy5 : w1.heap.size < w1.heap.size + 1 + 1 + 1 := by omega
  have r0 : w1.cell? ⟨w.heap.size, 0, none⟩ = some (.slice none 0 0) := cell_later hb1 (by go_simp)
  have r1 : w1.cell? ⟨w.heap.size, 1, none⟩ = some (.int .i64 0) := cell_later hb1 (by go_simp)
  have rf : ∀ o, w1.frozen? ⟨w.heap.size, o, none⟩ = false := fun o => (hf1 _ o (by simp)).trans (by go_simp)
  clear hT hk
  rcases hkd with rfl | rfl | rfl | rfl
  · go_wp2_with (first | (go_at_call 132; refine Calls.mono (formOf_0 n x _) ?_; rintro e w2 ⟨rfl, rfl⟩) | fail)
    refine bodyPost_ret (v := .tuple #[.agg #[.slice none 0 0, .int .i64 0], .int .i64 (-1)]) (by simp [results, Tryz.results134, go_sem, *]) rfl ⟨rfl, by repeat (first | (with_reducible exact Below.refl _ _) | (with_reducible refine Below.drew ?_) | (with_reducible refine Below.alloc ?_ ?hh _; case hh => first | (simp; done) | (simp; omega) | omega) | (with_reducible refine Below.setCell ?_ ?hh _; case hh => first | (simp; done) | (simp; omega) | omega) | refine bstep (by assumption) (by first | (simp; done) | (simp; omega) | omega) ?_)⟩
  · exact absurd rfl hk'
  · go_wp2_with (first | (go_at_call 132; refine Calls.mono (formOf_2 n x _) ?_; rintro e w2 ⟨rfl, rfl⟩) | fail)
    refine bodyPost_ret (v := .tuple #[.agg #[.slice none 0 0, .int .i64 0], .int .i64 (-1)]) (by simp [results, Tryz.results134, go_sem, *]) rfl ⟨rfl, by repeat (first | (with_reducible exact Below.refl _ _) | (with_reducible refine Below.drew ?_) | (with_reducible refine Below.alloc ?_ ?hh _; case hh => first | (simp; done) | (simp; omega) | omega) | (with_reducible refine Below.setCell ?_ ?hh _; case hh => first | (simp; done) | (simp; omega) | omega) | refine bstep (by assumption) (by first | (simp; done) | (simp; omega) | omega) ?_)⟩
  · go_wp2_with (first | (go_at_call 132; refine Calls.mono (formOf_3 n x _) ?_; rintro e w2 ⟨rfl, rfl⟩) | fail)
    refine bodyPost_ret (v := .tuple #[.agg #[.slice none 0 0, .int .i64 0], .int .i64 (-1)]) (by simp [results, Tryz.results134, go_sem, *]) rfl ⟨rfl, by repeat (first | (with_reducible exact Below.refl _ _) | (with_reducible refine Below.drew ?_) | (with_reducible refine Below.alloc ?_ ?hh _; case hh => first | (simp; done) | (simp; omega) | omega) | (with_reducible refine Below.setCell ?_ ?hh _; case hh => first | (simp; done) | (simp; omega) | omega) | refine bstep (by assumption) (by first | (simp; done) | (simp; omega) | omega) ?_)⟩
set_option maxHeartbeats 8000000 in
set_option maxRecDepth 100000 in
theorem getCounted_yes (s : ByteArray) (i : Int) (W : Nat) (w : World) (hs : s.size ≤ 1048576) (hW : W ≤ 255) (hk : (tV s i).k = 1) :
    Calls Tryz.prog 134 #[.string s, .int .i64 i, .int .i64 W] w fun e w' => (∃ u g, e = .returned (.tuple #[.agg #[u, .int .i64 (tV s i).n], .int .i64 (endS s W i)]) ∧ RowF w' u (valsV s W (tJ s i)) g ∧ Own w' w.heap.size g) ∧ Below w.heap.size w w' := by
  obtain ⟨i0, hi, hz0, hz1, hz2⟩ := info_parts Tryz.infoVal
  obtain ⟨k, n, x, j, hT⟩ : ∃ k n x j, getT s i = (k, n, x, j) := ⟨_, _, _, _, rfl⟩
  have hk' : k = 1 := by unfold tV at hk; rw [hT] at hk; exact hk
  have hn' : (tV s i).n = n := by unfold tV; rw [hT]
  have hj' : tJ s i = j := by unfold tJ; rw [hT]
  have he' : endS s W i = valsJ s W j := by unfold endS; rw [hj']
  rw [hn', hj', he']
  subst hk'
  clear hk hn' hj' he'
  go_enter Tryz.func134, Tryz.ntmps134
  go_wp2_with fail
  refine Calls.mono (implGet_v hT _ hs) ?_
  rintro e w1 ⟨rfl, hb1⟩
  have hzz := hb1.size
  simp only [World.size_alloc] at hzz
  have hf1 := (bcell hb1).2
  have hy0 : w.heap.size < w1.heap.size := by omega
  have hy1 : w.heap.size < w1.heap.size + 1 := by omega
  have hy2 : w.heap.size < w1.heap.size + 1 + 1 := by omega
  have hy3 : w.heap.size < w1.heap.size + 1 + 1 + 1 := by omega
  have hy4 : w1.heap.size < w1.heap.size + 1 + 1 := by omega
  have hy5 : w1.heap.size < w1.heap.size + 1 + 1 + 1 := by omega
  have r0 : w1.cell? ⟨w.heap.size, 0, none⟩ = some (.slice none 0 0) := cell_later hb1 (by go_simp)
  have r1 : w1.cell? ⟨w.heap.size, 1, none⟩ = some (.int .i64 0) := cell_later hb1 (by go_simp)
  have rf : ∀ o, w1.frozen? ⟨w.heap.size, o, none⟩ = false := fun o => (hf1 _ o (by simp)).trans (by go_simp)
  clear hT
  go_wp2_with (first | (go_at_call 132; refine Calls.mono (formOf_1 n x _) ?_; rintro e w2 ⟨rfl, rfl⟩) | fail)
  go_loopw [1, 31] (fun at' kk wr => ∃ (q : Nat) (y : Value), q ≤ W ∧ kk = .int .i64 q ∧ at' = .int .i64 (valsJ s q j) ∧ wr.ownsRow (w1.heap.size + 1 + 1 + 1 + 1) 123 3 y q (rc (valsV s q j)) ∧
      wr.cell? ⟨w1.heap.size + 1 + 1 + 1, 0, none⟩ = some y ∧ wr.cell? ⟨w1.heap.size + 1 + 1 + 1, 1, none⟩ = some (.int .i64 n) ∧ (∀ o, wr.frozen? ⟨w1.heap.size + 1 + 1 + 1, o, none⟩ = false) ∧
      (∃ v0, wr.cell? ⟨w1.heap.size, 0, none⟩ = some v0) ∧ (∃ v1, wr.cell? ⟨w1.heap.size, 1, none⟩ = some v1) ∧ (∃ v2, wr.cell? ⟨w1.heap.size, 2, none⟩ = some v2) ∧ (∀ o, wr.frozen? ⟨w1.heap.size, o, none⟩ = false) ∧
      wr.cell? ⟨w.heap.size, 0, none⟩ = some (.slice none 0 0) ∧ wr.cell? ⟨w.heap.size, 1, none⟩ = some (.int .i64 0) ∧ (∀ o, wr.frozen? ⟨w.heap.size, o, none⟩ = false) ∧ Below w.heap.size w wr ∧ w1.heap.size + 1 + 1 + 1 + 1 ≤ wr.heap.size) (fun _ kk _ => W - (intOf kk).toNat)
  case atStart =>
    refine ⟨0, .slice none 0 0, Nat.zero_le _, rfl, rfl, ⟨rfl, .inl ⟨rfl, rfl⟩⟩, by go_simp, by go_simp, fun o => by go_simp, ⟨.int .i64 1, by go_simp⟩, ⟨.int .i64 n, by go_simp⟩, ⟨.string x, by go_simp⟩, fun o => by go_simp, by go_simp, by go_simp, fun o => by go_simp, by repeat (first | (with_reducible exact Below.refl _ _) | (with_reducible refine Below.drew ?_) | (with_reducible refine Below.alloc ?_ ?hh _; case hh => first | (simp; done) | (simp; omega) | omega) | (with_reducible refine Below.setCell ?_ ?hh _; case hh => first | (simp; done) | (simp; omega) | omega) | refine bstep (by assumption) (by first | (simp; done) | (simp; omega) | omega) ?_), by simp⟩
  case round =>
    clear r0 r1 rf hf1
    obtain ⟨q, y, hq, rfl, rfl, hown, p0, p1, pf, ⟨v0, x0⟩, ⟨v1, x1⟩, ⟨v2, x2⟩, xf, r0, r1, rf, hb, hzb⟩ := hrel
    by_cases hlt : q < W
    · obtain ⟨k2, n2, s2, j2, hT2⟩ : ∃ k' n' x' j', getT s (valsJ s q j) = (k', n', x', j') := ⟨_, _, _, _, rfl⟩
      have HV : Hid (rc (valsV s (q + 1) j) = rc (valsV s q j) ++ [.int .i64 k2, .int .i64 n2, .string s2]) := by
        show rc (valsV s (q + 1) j) = _
        rw [valsV_succ, rc_push]
        unfold tV; rw [hT2]
      have HJ : Hid (valsJ s (q + 1) j = j2) := by
        show valsJ s (q + 1) j = j2
        rw [valsJ_succ]; unfold tJ; rw [hT2]
      have hol := ownsRow_lt hown
      have hv8 : y.ownBlock ≠ some w1.heap.size := fun e => by have := (hol _ e).1; omega
      have hv11 : y.ownBlock ≠ some (w1.heap.size + 1 + 1 + 1) := fun e => by have := (hol _ e).1; omega
      have hv6 : y.ownBlock ≠ some w.heap.size := fun e => by have := (hol _ e).1; omega
      go_wp2_with fail
      refine Calls.mono (implGet_v hT2 _ hs) ?_
      rintro e w2 ⟨rfl, hb2⟩
      have hzw := hb2.size
      have hfz := (bcell hb2).2
      have hcz := (bcell hb2).1
      have q0 : w2.cell? ⟨w1.heap.size + 1 + 1 + 1, 0, none⟩ = some y := (hcz _ _ (by omega)).trans p0
      have q1 : w2.cell? ⟨w1.heap.size + 1 + 1 + 1, 1, none⟩ = some (.int .i64 n) := (hcz _ _ (by omega)).trans p1
      have qf : ∀ o, w2.frozen? ⟨w1.heap.size + 1 + 1 + 1, o, none⟩ = false := fun o => (hfz _ _ (by omega)).trans (pf o)
      have y0 : w2.cell? ⟨w1.heap.size, 0, none⟩ = some v0 := (hcz _ _ (by omega)).trans x0
      have y1 : w2.cell? ⟨w1.heap.size, 1, none⟩ = some v1 := (hcz _ _ (by omega)).trans x1
      have y2 : w2.cell? ⟨w1.heap.size, 2, none⟩ = some v2 := (hcz _ _ (by omega)).trans x2
      have yf : ∀ o, w2.frozen? ⟨w1.heap.size, o, none⟩ = false := fun o => (hfz _ _ (by omega)).trans (xf o)
      have u0 : w2.cell? ⟨w.heap.size, 0, none⟩ = some (.slice none 0 0) := (hcz _ _ (by omega)).trans r0
      have u1 : w2.cell? ⟨w.heap.size, 1, none⟩ = some (.int .i64 0) := (hcz _ _ (by omega)).trans r1
      have uf : ∀ o, w2.frozen? ⟨w.heap.size, o, none⟩ = false := fun o => (hfz _ _ (by omega)).trans (rf o)
      have hown2 := ownsRow_keep hown (fun b hb' => hb2.block b (hol b hb').2)
      have hbw2 : Below w.heap.size w w2 := hb.trans (hb2.mono hb.size)
      have n1 : w1.heap.size < w2.heap.size := by omega
      have n2' : w1.heap.size + 1 + 1 + 1 < w2.heap.size := by omega
      have n3 : w.heap.size < w2.heap.size := by omega
      clear hfz hcz p0 p1 pf x0 x1 x2 xf r0 r1 rf hown
      go_wp2_with (at_builtin; refine wpList_append_own _ rfl _ _ 114 rfl (w1.heap.size + 1 + 1 + 1 + 1) 123 i0 _ 3 32 Tryz.underlying114 hi hz0 hz1 hz2 rfl (by decide) y q (rc (valsV s q j)) rfl ?hown ⟨w2.heap.size, 0, none⟩ 1 1 [.int .i64 k2, .int .i64 n2, .string s2] rfl rfl ?c1 ?c2 ?c3 ?c4 ?c5 ?_)
      case hown =>
        refine ownsRow_keep hown2 fun b hb' => ?_
        have h1 := ownsRow_lt hown2 b hb'
        rw [Below.heap_alloc _ _ _ (by simp; omega)]
        repeat rw [Below.heap_setCell _ _ _ _ (by simp; omega)]
      case c1 =>
        intro j' u hu
        match j', hu with
        | 0, hu => simp at hu; subst hu; go_simp
        | 1, hu => simp at hu; subst hu; go_simp
        | 2, hu => simp at hu; subst hu; go_simp
      case c2 => intro u hu; simp at hu; rcases hu with rfl | rfl | rfl <;> rfl
      case c3 => unfold maxLen; omega
      case c4 => omega
      case c5 => simp; omega
      intro v5 w5 hown5 hgr5 _
      have hsz5 := hgr5.size
      simp at hsz5
      have a0 : w5.cell? ⟨w1.heap.size + 1 + 1 + 1, 0, none⟩ = some y := (hgr5.cell_far _ (by simp; try omega) (fun e => hv11 e.symm)).trans (by go_simp)
      have a1 : w5.cell? ⟨w1.heap.size + 1 + 1 + 1, 1, none⟩ = some (.int .i64 n) := (hgr5.cell_far _ (by simp; try omega) (fun e => hv11 e.symm)).trans (by go_simp)
      have af : ∀ o, w5.frozen? ⟨w1.heap.size + 1 + 1 + 1, o, none⟩ = false := fun o => (hgr5.frozen_far _ (by simp; try omega) (fun e => hv11 e.symm)).trans (by go_simp)
      have b0 : w5.cell? ⟨w1.heap.size, 0, none⟩ = some (.int .i64 k2) := (hgr5.cell_far _ (by simp; try omega) (fun e => hv8 e.symm)).trans (by go_simp)
      have b1 : w5.cell? ⟨w1.heap.size, 1, none⟩ = some (.int .i64 n2) := (hgr5.cell_far _ (by simp; try omega) (fun e => hv8 e.symm)).trans (by go_simp)
      have b2 : w5.cell? ⟨w1.heap.size, 2, none⟩ = some (.string s2) := (hgr5.cell_far _ (by simp; try omega) (fun e => hv8 e.symm)).trans (by go_simp)
      have bf : ∀ o, w5.frozen? ⟨w1.heap.size, o, none⟩ = false := fun o => (hgr5.frozen_far _ (by simp; try omega) (fun e => hv8 e.symm)).trans (by go_simp)
      have d0 : w5.cell? ⟨w.heap.size, 0, none⟩ = some (.slice none 0 0) := (hgr5.cell_far _ (by simp; try omega) (fun e => hv6 e.symm)).trans (by go_simp)
      have d1 : w5.cell? ⟨w.heap.size, 1, none⟩ = some (.int .i64 0) := (hgr5.cell_far _ (by simp; try omega) (fun e => hv6 e.symm)).trans (by go_simp)
      have df : ∀ o, w5.frozen? ⟨w.heap.size, o, none⟩ = false := fun o => (hgr5.frozen_far _ (by simp; try omega) (fun e => hv6 e.symm)).trans (by go_simp)
      have hbel4 : Below w.heap.size w ((((w2.setCell ⟨w1.heap.size, 0, none⟩ (.int .i64 k2)).setCell ⟨w1.heap.size, 1, none⟩ (.int .i64 n2)).setCell ⟨w1.heap.size, 2, none⟩ (.string s2)).alloc (.cells #[.int .i64 k2, .int .i64 n2, .string s2] 123)) := by
        refine Below.alloc ?_ (by simp; omega) _
        repeat (first | (with_reducible exact hbw2) | (with_reducible refine Below.setCell ?_ ?hh _; case hh => (simp; omega)))
      have hbel5 : Below w.heap.size w w5 := hbel4.grown hgr5 (by simp; omega) (fun k' hk' => by have := (hol _ hk').1; omega)
      have hown6 : w5.ownsRow (w1.heap.size + 1 + 1 + 1 + 1) 123 3 v5 (q + 1) (rc (valsV s (q + 1) j)) := by rw [HV.out]; exact hown5
      have hol5 := ownsRow_lt hown6
      obtain ⟨g5, c5, hv5⟩ : ∃ g c, v5 = .slice (some ⟨g, 0, none⟩) (q + 1) c := by
        rcases hown6.2 with ⟨_, h0⟩ | ⟨g, cap, cur, hv, _⟩
        · omega
        · exact ⟨g, cap, hv⟩
      subst hv5
      have e5 : w1.heap.size + 1 + 1 + 1 < w5.heap.size := by omega
      have e6 : w1.heap.size < w5.heap.size := by omega
      have e7 : w.heap.size < w5.heap.size := by omega
      clear hown5 hgr5 hown2 hol hbel4 hT2 q0 q1 qf y0 y1 y2 yf u0 u1 uf
      go_wp2_with fail
      refine ⟨⟨q + 1, .slice (some ⟨g5, 0, none⟩) (q + 1) c5, hlt, by simp, by rw [HJ.out], ?_, by go_simp, by go_simp, fun o => by go_simp, ⟨.int .i64 k2, by go_simp⟩, ⟨.int .i64 n2, by go_simp⟩, ⟨.string s2, by go_simp⟩, fun o => by go_simp, by go_simp, by go_simp, fun o => by go_simp, ?_, by simp; omega⟩, by simp [intOf]; omega⟩
      · refine ownsRow_keep hown6 fun b hb' => ?_
        have h1 := hol5 b hb'
        rw [Below.heap_setCell _ _ _ _ (by simp; omega)]
      · with_reducible refine Below.setCell ?_ ?hh _
        case hh => simp; omega
        exact hbel5
    · obtain rfl : q = W := by omega
      obtain ⟨g, hRF, hOg⟩ := own_rowF (vs := valsV s q j) hown
      obtain ⟨ay, cy, hyy⟩ : ∃ a c, y = .slice a (valsV s q j).length c := by obtain ⟨a, c, h, _⟩ := hRF; exact ⟨a, c, h⟩
      subst hyy
      have e5 : w1.heap.size + 1 + 1 + 1 < wr.heap.size := by omega
      have e7 : w.heap.size < wr.heap.size := by omega
      clear hown x0 x1 x2 xf
      go_wp2_with fail
      refine bodyPost_ret (v := .tuple #[.agg #[.slice ay (valsV s q j).length cy, .int .i64 n], .int .i64 (valsJ s q j)]) (by simp [results, Tryz.results134, go_sem, *]) rfl ⟨⟨_, g, rfl, ?_, ?_⟩, ?_⟩
      · refine hRF.keep (by simp) fun b hb' => ?_
        have := hOg.2.1 b hb'
        repeat rw [Below.heap_setCell _ _ _ _ (by simp; omega)]
      · refine Own.keep (w := wr) ⟨hOg.1, fun b hb' => by have := hOg.2.1 b hb'; omega, hOg.2.2⟩ fun b hb' => ?_
        have := hOg.2.1 b hb'
        repeat rw [Below.heap_setCell _ _ _ _ (by simp; omega)]
      · repeat (first | (with_reducible exact hb) | (with_reducible refine Below.setCell ?_ ?hh _; case hh => (first | (simp; done) | (simp; omega))))
end Go.Proofs.YtlobjpdkjlmglaaGreat
/- Own text. The contract of toBag: a new bag with the same rows, all of it in memory of the call's own. -/
namespace Go.Proofs.YtlobjpdkjlmglaaGreat
open Go.RowKit Go.Deep
set_option linter.unusedVariables false
theorem Tryz.infoCnt : (Tryz.prog.info? 116).map (fun i => (i.zero, i.size, i.bytes)) = some (some (.agg #[.slice none 0 0, .int .i64 0]), 2, 32) := by kernel_rfl
/-- counted rows of the call's own: block B0 has the rows' heads, g i is row i's own block; the first k are laid. -/
structure HalfB (w : World) (B0 : Nat) (cs : List C2) (g : Nat → Nat) (k : Nat) : Prop where
  own : ∃ f, w.rowIs B0 116 (cs.length * 2) f ∧ ∀ i x, i < k → cs[i]? = some x → f (i * 2) = .slice (some ⟨g i, 0, none⟩) x.r.length x.r.length ∧ f (i * 2 + 1) = .int .i64 x.n
  row : ∀ i x, i < k → cs[i]? = some x → w.rowIs (g i) 123 (x.r.length * 3) (cf x.r)
  above : ∀ i, i < k → B0 < g i
  up : ∀ i j, i < j → j < k → g i < g j
theorem HalfB.cells {w : World} {B : Nat} {cs : List C2} {g : Nat → Nat} {k : Nat} (h : HalfB w B cs g k) (hk : k < cs.length) :
    (∃ u, w.cell? ⟨B, k * 2, none⟩ = some u) ∧ (∃ u, w.cell? ⟨B, k * 2 + 1, none⟩ = some u) ∧ (∀ i, w.frozen? ⟨B, i, none⟩ = false) ∧ B < w.heap.size := by
  obtain ⟨f, h, _⟩ := h.own
  exact ⟨⟨_, h.cell (by omega)⟩, ⟨_, h.cell (by omega)⟩, fun i => h.frozen i, h.lt⟩
theorem HalfB.lt {w : World} {B : Nat} {cs : List C2} {g : Nat → Nat} {k : Nat} (h : HalfB w B cs g k) (hk : k ≤ cs.length) {i : Nat} (hi : i < k) : g i < w.heap.size := (h.row i cs[i] hi (by simp)).lt
theorem HalfB.below {w w' : World} {B : Nat} {cs : List C2} {g : Nat → Nat} {k : Nat} (h : HalfB w B cs g k) (hk : k ≤ cs.length) (hb : Below w.heap.size w w') : HalfB w' B cs g k := by
  obtain ⟨⟨f, hf, he⟩, h1, h2, h3⟩ := h
  exact ⟨⟨f, hf.of_block (hb.block _ hf.lt), he⟩, fun i x hi hx => (h1 i x hi hx).of_block (hb.block _ (h1 i x hi hx).lt), h2, h3⟩
theorem HalfB.keep {w w' : World} {B : Nat} {cs : List C2} {g : Nat → Nat} {k : Nat} (h : HalfB w B cs g k) (hk : k ≤ cs.length) (e : ∀ b, B ≤ b → w'.heap[b]? = w.heap[b]?) : HalfB w' B cs g k := by
  obtain ⟨⟨f, hf, he⟩, h1, h2, h3⟩ := h
  exact ⟨⟨f, hf.of_block (e _ (Nat.le_refl _)), he⟩, fun i x hi hx => (h1 i x hi hx).of_block (e _ (Nat.le_of_lt (h2 i hi))), h2, h3⟩
theorem HalfB.step {w : World} {B D : Nat} {cs : List C2} {g : Nat → Nat} {k : Nat} {x : C2} (h : HalfB w B cs g k) (hx : cs[k]? = some x) (hD : w.rowIs D 123 (x.r.length * 3) (cf x.r)) (hB : B < D) (hup : ∀ i, i < k → g i < D) :
    HalfB ((w.setCell ⟨B, k * 2, none⟩ (.slice (some ⟨D, 0, none⟩) x.r.length x.r.length)).setCell ⟨B, k * 2 + 1, none⟩ (.int .i64 x.n)) B cs (fun i => if i = k then D else g i) (k + 1) := by
  obtain ⟨⟨f, hf, he⟩, h1, h2, h3⟩ := h
  refine ⟨⟨_, (hf.set _ _).set _ _, fun i y hi hy => ?_⟩, fun i y hi hy => ?_, fun i hi => ?_, fun i j hij hj => ?_⟩
  · by_cases e : i = k
    · subst e
      obtain rfl : y = x := by rw [hx] at hy; exact (Option.some.inj hy).symm
      simp
    · have e1 : i * 2 ≠ k * 2 := by omega
      have e2 : i * 2 ≠ k * 2 + 1 := by omega
      have e3 : i * 2 + 1 ≠ k * 2 := by omega
      have e4 : i * 2 + 1 ≠ k * 2 + 1 := by omega
      simp only [if_neg e1, if_neg e2, if_neg e3, if_neg e4, if_neg e]
      exact he i y (by omega) hy
  · by_cases e : i = k
    · subst e
      obtain rfl : y = x := by rw [hx] at hy; exact (Option.some.inj hy).symm
      simp only [if_true]
      exact (hD.setOther (by show D ≠ B; omega) _).setOther (by show D ≠ B; omega) _
    · simp only [if_neg e]
      have := h2 i (by omega)
      exact ((h1 i y (by omega) hy).setOther (by show g i ≠ B; omega) _).setOther (by show g i ≠ B; omega) _
  · by_cases e : i = k
    · simp only [if_pos e]; exact hB
    · simp only [if_neg e]; exact h2 i (by omega)
  · by_cases e : j = k
    · have e' : i ≠ k := by omega
      simp only [if_pos e, if_neg e']; exact hup i (by omega)
    · have e' : i ≠ k := by omega
      simp only [if_neg e, if_neg e']; exact h3 i j hij (by omega)
theorem HalfB.rows {w : World} {B : Nat} {cs : List C2} {g : Nat → Nat} (h : HalfB w B cs g cs.length) (hl : ∀ x ∈ cs, x.r.length ≤ maxLen) (hm : cs.length ≤ maxLen) : RowsIs w (.slice (some ⟨B, 0, none⟩) cs.length cs.length) cs := by
  obtain ⟨f, hf, he⟩ := h.own
  refine ⟨_, _, rfl, Nat.le_refl _, hm, fun _ => ⟨B, 0, rfl, hf.lt, fun i x hx => ?_⟩⟩
  have hi : i < cs.length := (List.getElem?_eq_some_iff.1 hx).1
  obtain ⟨e0, e1⟩ := he i x hi hx
  refine ⟨_, by rw [Nat.zero_add, hf.cell (by omega), e0], rowIs_row (h.row i x hi hx) (Nat.le_refl _) (hl x (List.mem_of_getElem? hx)), by rw [Nat.zero_add, hf.cell (by omega), e1]⟩
theorem halfB_made (w : World) (z : Array Value) (cs : List C2) (g : Nat → Nat) : HalfB (w.alloc (.cells (madeCells z (cs.length * 2)) 116)) w.heap.size cs g 0 :=
  ⟨⟨fun i => (madeCells z (cs.length * 2))[i]?.getD undef, ⟨_, blk_alloc_new _ _, size_madeCells _ _, fun i hi => by
    have : i < (madeCells z (cs.length * 2)).size := by rw [size_madeCells]; exact hi
    simp [this]⟩, fun i x hi => by omega⟩, fun i x hi => by omega, fun i hi => by omega, fun i j _ hj => by omega⟩
end Go.Proofs.YtlobjpdkjlmglaaGreat
/- Own text. A bag that is read: the contract of impl.GetBag. -/
namespace Go.Proofs.YtlobjpdkjlmglaaGreat
open Go.RowKit Go.Deep
set_option linter.unusedVariables false
/-- what GetBag answers: none of an empty text. -/
def ansB (s : ByteArray) : Option (List C2) := if s.size = 0 then none else resI s
def aW (s : ByteArray) : Int := match ansB s with | none => 0 | some _ => bAt s 0
def aC (s : ByteArray) : List C2 := match ansB s with | none => [] | some cs => cs
def aB (s : ByteArray) : Bool := match ansB s with | none => false | some _ => true
theorem ans_none {s : ByteArray} (h : ansB s = none) : aW s = 0 ∧ aC s = [] ∧ aB s = false := by unfold aW aC aB; rw [h]; exact ⟨rfl, rfl, rfl⟩
theorem ans_some {s : ByteArray} {cs : List C2} (h : ansB s = some cs) : aW s = bAt s 0 ∧ aC s = cs ∧ aB s = true := by unfold aW aC aB; rw [h]; exact ⟨rfl, rfl, rfl⟩
theorem wf_64 {n : Int} (h0 : -9223372036854775808 ≤ n) (h1 : n ≤ 9223372036854775807) : (Lit.int .i64 n).wf = true := by
  have e1 : IntKind.i64.min = -9223372036854775808 := by decide
  have e2 : IntKind.i64.max = 9223372036854775807 := by decide
  simp only [Lit.wf, Bool.and_eq_true, decide_eq_true_eq, e1, e2]
  exact ⟨h0, h1⟩
theorem tV_wf (s : ByteArray) (i : Int) : (tV s i).wf := by
  have w0 : (Lit.int .i64 0).wf = true := by decide
  have w1 : (Lit.int .i64 1).wf = true := by decide
  have w2 : (Lit.int .i64 2).wf = true := by decide
  have w3 : (Lit.int .i64 3).wf = true := by decide
  unfold tV getT
  have hnil : (⟨#[]⟩ : ByteArray).size ≤ maxLen := by decide
  split
  · unfold getN
    split
    · exact ⟨w0, w0, hnil⟩
    split
    · refine ⟨w1, wf_64 ?_ ?_, hnil⟩ <;> (dsimp only; unfold numAt wrap64; omega)
    split
    · rename_i h
      refine ⟨w2, wf_64 ?_ ?_, hnil⟩ <;> (dsimp only; omega)
    split
    · rename_i h
      refine ⟨w3, w0, ?_⟩
      dsimp only
      rw [ByteArray.size_extract]
      unfold maxLen
      omega
    · exact ⟨w0, w0, hnil⟩
  · exact ⟨w0, w0, hnil⟩
theorem runI_stop (s : ByteArray) (W : Nat) (n : Nat) (i : Int) (cs : List C2) (h : ¬ (i < s.size ∧ cs.length ≤ 400)) : runI s W n i cs = some cs := by
  cases n with
  | zero => rfl
  | succ n => rw [runI, if_neg h]
theorem valsV_wf (s : ByteArray) : ∀ (n : Nat) (i : Int), VsWf (valsV s n i)
  | 0, _ => by intro y hy; cases hy
  | n + 1, i => by
    intro y hy
    rcases List.mem_cons.1 hy with rfl | hy
    · exact tV_wf s i
    · exact valsV_wf s n _ y hy
theorem rowS_wf (s : ByteArray) (W : Nat) (i : Int) : (rowS s W i).wf := ⟨valsV_wf s W _, (tV_wf s i).2.1⟩
set_option maxHeartbeats 4000000 in
set_option maxRecDepth 100000 in
theorem implGetBag_any (s : ByteArray) (w : World) (hs : s.size ≤ 1048576) :
    Calls Tryz.prog 115 #[.string s] w fun e w' => (∃ u us G, e = .returned (.tuple #[.agg #[.int .i64 (aW s), u], .bool (aB s)]) ∧ BagOwn w' w.heap.size u (aC s) us G) ∧ Below w.heap.size w w' := by
  by_cases hz : s.size = 0
  · have hA := ans_none (s := s) (by unfold ansB; rw [if_pos hz])
    have hnil : s.toList = [] := by rw [ByteArray.toList_eq]; exact List.eq_nil_of_length_eq_zero (by simpa using hz)
    rw [hA.1, hA.2.1, hA.2.2]
    clear hA
    go_enter Tryz.func115, Tryz.ntmps115
    go_wp2_with fail
    refine bodyPost_ret (v := .tuple #[.agg #[.int .i64 0, .slice none 0 0], .bool false]) (by simp [results, Tryz.results115, go_sem, *]) rfl ⟨⟨_, [], [], rfl, BagOwn.nil _ _⟩, by repeat (first | (with_reducible exact Below.refl _ _) | (with_reducible refine Below.drew ?_) | (with_reducible refine Below.alloc ?_ ?hh _; case hh => first | (simp; done) | (simp; omega) | omega) | (with_reducible refine Below.setCell ?_ ?hh _; case hh => first | (simp; done) | (simp; omega) | omega) | refine bstep (by assumption) (by first | (simp; done) | (simp; omega) | omega) ?_)⟩
  have hpos : 0 < s.size := by omega
  have hposI : (0 : Int) < s.size := by omega
  have hne : s.toList.isEmpty = false := by
    rw [ByteArray.toList_eq]
    have : s.data.toList.length ≠ 0 := by simpa using hz
    cases h : s.data.toList with
    | nil => rw [h] at this; simp at this
    | cons a l => rfl
  have hW : bAt s 0 ≤ 255 := by have := bAt_lt s 0; omega
  have e64 : wrap64 (s[0].toNat : Int) = (bAt s 0 : Nat) := by rw [wrap64_byte, bAt_eq s 0 hpos]
  have hA : ansB s = resI s := by unfold ansB; rw [if_neg hz]
  go_enter Tryz.func115, Tryz.ntmps115
  go_wp2_with fail
  go_loopw [5] (fun at' wr => ∃ (n i : Nat) (cs : List C2) (y : Value) (us : List Value) (G : List (List Nat)), at' = .int .i64 i ∧ i ≤ s.size ∧ s.size + 1 ≤ n + i ∧ cs.length ≤ 401 ∧ runI s (bAt s 0) (s.size + 1) 1 [] = runI s (bAt s 0) n i cs ∧ CsWf cs ∧
      wr.cell? ⟨w.heap.size + 1, 0, none⟩ = some (.int .i64 (bAt s 0)) ∧ wr.cell? ⟨w.heap.size + 1, 1, none⟩ = some y ∧ (∀ o, wr.frozen? ⟨w.heap.size + 1, o, none⟩ = false) ∧
      wr.cell? ⟨w.heap.size, 0, none⟩ = some (.int .i64 0) ∧ wr.cell? ⟨w.heap.size, 1, none⟩ = some (.slice none 0 0) ∧ (∀ o, wr.frozen? ⟨w.heap.size, o, none⟩ = false) ∧
      BagOwn wr (w.heap.size + 1 + 1) y cs us G ∧ Below w.heap.size w wr ∧ w.heap.size + 1 + 1 ≤ wr.heap.size) (fun at' _ => s.size + 1 - (intOf at').toNat)
  case atStart =>
    refine ⟨s.size + 1, 1, [], .slice none 0 0, [], [], rfl, by omega, by omega, by simp, rfl, by simp [CsWf], by go_simp, by go_simp, fun o => by go_simp, by go_simp, by go_simp, fun o => by go_simp, BagOwn.nil _ _, by repeat (first | (with_reducible exact Below.refl _ _) | (with_reducible refine Below.drew ?_) | (with_reducible refine Below.alloc ?_ ?hh _; case hh => first | (simp; done) | (simp; omega) | omega) | (with_reducible refine Below.setCell ?_ ?hh _; case hh => first | (simp; done) | (simp; omega) | omega) | refine bstep (by assumption) (by first | (simp; done) | (simp; omega) | omega) ?_), by simp⟩
  case round =>
    clear e64 hne
    obtain ⟨n, i, cs, y, us, G, rfl, hi, hf, hcl, hrun0, hcw, p0, p1, pf, r0, r1, rf, hB, hb, hzb⟩ := hrel
    have HR : Hid (runI s (bAt s 0) (s.size + 1) 1 [] = runI s (bAt s 0) n i cs) := hrun0
    clear hrun0
    obtain ⟨ay, cy, rfl⟩ := hB.shape
    have e0 : w.heap.size + 1 < wr.heap.size := by omega
    have e1 : w.heap.size < wr.heap.size := by omega
    have hcI : (cs.length : Int) ≤ 401 := by omega
    by_cases hlt : i < s.size
    · have hltI : (i : Int) < s.size := by omega
      by_cases h400 : cs.length ≤ 400
      · have h400I : decide ((cs.length : Int) ≤ 400) = true := by simp; omega
        obtain ⟨n, rfl⟩ : ∃ n', n = n' + 1 := ⟨n - 1, by omega⟩
        by_cases hk : (tV s i).k = 1
        · by_cases he : endS s (bAt s 0) i < 0
          · have HN : Hid (ansB s = none) := by
              show ansB s = none
              rw [hA]; unfold resI
              rw [HR.out, runI, if_pos ⟨hltI, h400⟩, if_pos (.inr he)]
            go_wp2_with fail
            refine Calls.mono (getCounted_yes s i (bAt s 0) wr hs hW hk) ?_
            rintro e w2 ⟨⟨u, g, rfl, hRF, hOg⟩, hb2⟩
            obtain ⟨au, cu, hu⟩ : ∃ a c, u = .slice a (valsV s (bAt s 0) (tJ s i)).length c := by obtain ⟨a, c, h, _⟩ := hRF; exact ⟨a, c, h⟩
            subst hu
            have hzw := hb2.size
            have hfz := (bcell hb2).2
            have hcz := (bcell hb2).1
            have u0 : w2.cell? ⟨w.heap.size, 0, none⟩ = some (.int .i64 0) := (hcz _ _ (by omega)).trans r0
            have u1 : w2.cell? ⟨w.heap.size, 1, none⟩ = some (.slice none 0 0) := (hcz _ _ (by omega)).trans r1
            have uf : ∀ o, w2.frozen? ⟨w.heap.size, o, none⟩ = false := fun o => (hfz _ _ (by omega)).trans (rf o)
            have q0 : w2.cell? ⟨w.heap.size + 1, 0, none⟩ = some (.int .i64 (bAt s 0)) := (hcz _ _ (by omega)).trans p0
            have q1 : w2.cell? ⟨w.heap.size + 1, 1, none⟩ = some (.slice ay cs.length cy) := (hcz _ _ (by omega)).trans p1
            have qf : ∀ o, w2.frozen? ⟨w.heap.size + 1, o, none⟩ = false := fun o => (hfz _ _ (by omega)).trans (pf o)
            have hbw2 : Below w.heap.size w w2 := hb.trans (hb2.mono hb.size)
            have n3 : w.heap.size < w2.heap.size := by omega
            have n4 : w.heap.size < w2.heap.size + 1 := by omega
            have n5 : w.heap.size + 1 < w2.heap.size := by omega
            have n6 : w.heap.size + 1 < w2.heap.size + 1 := by omega
            clear hfz hcz p0 p1 pf r0 r1 rf
            clear hB hRF hOg
            go_wp2_with fail
            refine bodyPost_ret (v := .tuple #[.agg #[.int .i64 0, .slice none 0 0], .bool false]) (by simp [results, Tryz.results115, go_sem, *]) rfl ⟨⟨_, [], [], by rw [(ans_none HN.out).1, (ans_none HN.out).2.2], by rw [(ans_none HN.out).2.1]; exact BagOwn.nil _ _⟩, by repeat (first | (with_reducible exact Below.refl _ _) | (with_reducible refine Below.drew ?_) | (with_reducible refine Below.alloc ?_ ?hh _; case hh => first | (simp; done) | (simp; omega) | omega) | (with_reducible refine Below.setCell ?_ ?hh _; case hh => first | (simp; done) | (simp; omega) | omega) | refine bstep (by assumption) (by first | (simp; done) | (simp; omega) | omega) ?_)⟩
          · obtain ⟨e, hee⟩ : ∃ e : Nat, endS s (bAt s 0) i = e := ⟨(endS s (bAt s 0) i).toNat, by omega⟩
            obtain ⟨a', b', ea, eb, hab, hbs, _⟩ := end_round s (bAt s 0) i (by omega)
            have hei : i < e := by omega
            have hes : e ≤ s.size := by omega
            have HS : Hid (runI s (bAt s 0) (n + 1) i cs = runI s (bAt s 0) n e (cs ++ [rowS s (bAt s 0) i])) := by
              show runI s (bAt s 0) (n + 1) i cs = _
              rw [runI, if_pos ⟨hltI, h400⟩, if_neg (by omega), hee]
            have hgc := getCounted_yes s i (bAt s 0) wr hs hW hk
            rw [hee] at hgc
            have HROW : Hid (rowS s (bAt s 0) i = ⟨valsV s (bAt s 0) (tJ s i), (tV s i).n⟩) := rfl
            have hrw := rowS_wf s (bAt s 0) i
            clear ea eb hee he hk
            generalize valsV s (bAt s 0) (tJ s i) = row at *
            generalize (tV s i).n = rn at *
            go_wp2_with fail
            refine Calls.mono (hgc) ?_
            rintro e w2 ⟨⟨u, g, rfl, hRF, hOg⟩, hb2⟩
            obtain ⟨au, cu, hu⟩ : ∃ a c, u = .slice a row.length c := by obtain ⟨a, c, h, _⟩ := hRF; exact ⟨a, c, h⟩
            subst hu
            have hzw := hb2.size
            have hfz := (bcell hb2).2
            have hcz := (bcell hb2).1
            have u0 : w2.cell? ⟨w.heap.size, 0, none⟩ = some (.int .i64 0) := (hcz _ _ (by omega)).trans r0
            have u1 : w2.cell? ⟨w.heap.size, 1, none⟩ = some (.slice none 0 0) := (hcz _ _ (by omega)).trans r1
            have uf : ∀ o, w2.frozen? ⟨w.heap.size, o, none⟩ = false := fun o => (hfz _ _ (by omega)).trans (rf o)
            have q0 : w2.cell? ⟨w.heap.size + 1, 0, none⟩ = some (.int .i64 (bAt s 0)) := (hcz _ _ (by omega)).trans p0
            have q1 : w2.cell? ⟨w.heap.size + 1, 1, none⟩ = some (.slice ay cs.length cy) := (hcz _ _ (by omega)).trans p1
            have qf : ∀ o, w2.frozen? ⟨w.heap.size + 1, o, none⟩ = false := fun o => (hfz _ _ (by omega)).trans (pf o)
            have hbw2 : Below w.heap.size w w2 := hb.trans (hb2.mono hb.size)
            have n3 : w.heap.size < w2.heap.size := by omega
            have n4 : w.heap.size < w2.heap.size + 1 := by omega
            have n5 : w.heap.size + 1 < w2.heap.size := by omega
            have n6 : w.heap.size + 1 < w2.heap.size + 1 := by omega
            clear hfz hcz p0 p1 pf r0 r1 rf
            clear hgc
            obtain ⟨i0, hi0, hz0, hz1, hz2⟩ := info_parts Tryz.infoCnt
            have hol := ownsRow_lt hB.own
            have hGl := hB.lt
            have hv4 : Value.ownBlock (.slice ay cs.length cy) ≠ some (w.heap.size + 1) := fun e => by have := (hol _ e).1; omega
            have hv2 : Value.ownBlock (.slice ay cs.length cy) ≠ some w.heap.size := fun e => by have := (hol _ e).1; omega
            have hb4 : Below wr.heap.size wr ((w2.alloc (.cells #[.slice au row.length cu, .int .i64 rn] 116)).alloc (.cells #[.slice au row.length cu, .int .i64 rn] 116)) := by (repeat (first | (with_reducible exact Below.refl _ _) | (with_reducible refine Below.drew ?_) | (with_reducible refine Below.alloc ?_ ?hh _; case hh => first | (simp; done) | (simp; omega) | omega) | (with_reducible refine Below.setCell ?_ ?hh _; case hh => first | (simp; done) | (simp; omega) | omega) | refine bstep (by assumption) (by first | (simp; done) | (simp; omega) | omega) ?_)); try exact hb2
            have hB4 := hB.below hb4
            have hb24 : Below w2.heap.size w2 ((w2.alloc (.cells #[.slice au row.length cu, .int .i64 rn] 116)).alloc (.cells #[.slice au row.length cu, .int .i64 rn] 116)) := by repeat (first | (with_reducible exact Below.refl _ _) | (with_reducible refine Below.drew ?_) | (with_reducible refine Below.alloc ?_ ?hh _; case hh => first | (simp; done) | (simp; omega) | omega) | (with_reducible refine Below.setCell ?_ ?hh _; case hh => first | (simp; done) | (simp; omega) | omega) | refine bstep (by assumption) (by first | (simp; done) | (simp; omega) | omega) ?_)
            have hR4 : RowF ((w2.alloc (.cells #[.slice au row.length cu, .int .i64 rn] 116)).alloc (.cells #[.slice au row.length cu, .int .i64 rn] 116)) (.slice au row.length cu) row g := hRF.keep hb24.size fun c hc => hb24.block c (hRF.lt c hc)
            have hO4 : Own ((w2.alloc (.cells #[.slice au row.length cu, .int .i64 rn] 116)).alloc (.cells #[.slice au row.length cu, .int .i64 rn] 116)) (w.heap.size + 1 + 1) g := Own.keep (w := w2) ⟨hOg.1, fun b hb' => by have := hOg.2.1 b hb'; omega, hOg.2.2⟩ fun c hc => hb24.block c (hRF.lt c hc)
            have hnew : ∀ j' u, [Value.slice au row.length cu, Value.int .i64 rn][j']? = some u → ((w2.alloc (.cells #[.slice au row.length cu, .int .i64 rn] 116)).alloc (.cells #[.slice au row.length cu, .int .i64 rn] 116)).cell? ((⟨w2.heap.size + 1, 0, none⟩ : Addr).add j') = some u := by
              intro j' u hu
              match j', hu with
              | 0, hu => simp at hu; subst hu; go_simp
              | 1, hu => simp at hu; subst hu; go_simp
            go_wp2_with (at_builtin; refine wpList_append_own_at _ rfl _ _ 71 rfl (w.heap.size + 1 + 1) 116 i0 _ 2 32 Tryz.underlying71 hi0 hz0 hz1 hz2 rfl (by decide) (.slice ay cs.length cy) cs.length (cc us cs) rfl hB4.own ⟨w2.heap.size + 1, 0, none⟩ 1 1 [.slice au row.length cu, .int .i64 rn] rfl rfl hnew (by simp [Value.oneCell']) ?c3 ?c4 ?c5 ?_)
            case c3 => unfold maxLen; omega
            case c4 => omega
            case c5 => simp; omega
            intro v5 w5 hown5 hgr5 _ hat5
            have hB5 : BagOwn w5 (w.heap.size + 1 + 1) v5 (cs ++ [⟨row, rn⟩]) (us ++ [.slice au row.length cu]) (G ++ [g]) := hB4.push hR4 hO4 (fun b hb1 hb2' => by have := hGl b hb1; have := hOg.2.1 b hb2'; omega) (fun b hb1 hb2' => by have := (hol b hb1).2; have := hOg.2.1 b hb2'; omega) hown5 hgr5 (fun b hb1 => by
              rcases hat5 with e | e
              · left; rw [← e]; exact hb1
              · right; rw [e] at hb1; cases hb1; first | exact Nat.le_refl _ | simp | (simp; omega))
            have hsz5 := hgr5.size
            simp at hsz5
            have A0 : w5.cell? ⟨w.heap.size + 1, 0, none⟩ = some (.int .i64 (bAt s 0)) := (hgr5.cell_far _ (by simp; try omega) (fun e => hv4 e.symm)).trans (by go_simp)
            have A1 : w5.cell? ⟨w.heap.size + 1, 1, none⟩ = some (.slice ay cs.length cy) := (hgr5.cell_far _ (by simp; try omega) (fun e => hv4 e.symm)).trans (by go_simp)
            have Af : ∀ o, w5.frozen? ⟨w.heap.size + 1, o, none⟩ = false := fun o => (hgr5.frozen_far _ (by simp; try omega) (fun e => hv4 e.symm)).trans (by go_simp)
            have D0 : w5.cell? ⟨w.heap.size, 0, none⟩ = some (.int .i64 0) := (hgr5.cell_far _ (by simp; try omega) (fun e => hv2 e.symm)).trans (by go_simp)
            have D1 : w5.cell? ⟨w.heap.size, 1, none⟩ = some (.slice none 0 0) := (hgr5.cell_far _ (by simp; try omega) (fun e => hv2 e.symm)).trans (by go_simp)
            have Df : ∀ o, w5.frozen? ⟨w.heap.size, o, none⟩ = false := fun o => (hgr5.frozen_far _ (by simp; try omega) (fun e => hv2 e.symm)).trans (by go_simp)
            have hbel5 : Below w.heap.size w w5 := (hbw2.trans (hb24.mono (by omega))).grown hgr5 (by simp; omega) (fun k' hk' => by have := (hol _ hk').1; omega)
            obtain ⟨a5, c5, hv5⟩ := hB5.shape
            have hv5' : v5 = .slice a5 (cs.length + 1) c5 := by rw [hv5]; simp
            clear hv5
            subst hv5'
            have m1 : w.heap.size + 1 < w5.heap.size := by omega
            have m2 : w.heap.size < w5.heap.size := by omega
            have hB6 : BagOwn (w5.setCell ⟨w.heap.size + 1, 1, none⟩ (.slice a5 (cs.length + 1) c5)) (w.heap.size + 1 + 1) (.slice a5 (cs.length + 1) c5) (cs ++ [⟨row, rn⟩]) (us ++ [.slice au row.length cu]) (G ++ [g]) := hB5.keep (by simp) fun b hb1 _ => Below.heap_setCell _ _ _ _ (by show b ≠ w.heap.size + 1; omega)
            have hbel6 : Below w.heap.size w (w5.setCell ⟨w.heap.size + 1, 1, none⟩ (.slice a5 (cs.length + 1) c5)) := hbel5.setCell (by show w.heap.size ≤ w.heap.size + 1; omega) _
            clear hown5 hgr5 hB4 hR4 hO4 hB5 hB hRF hOg hat5 hol hGl q0 q1 qf u0 u1 uf hb24 hb4 hnew
            go_wp2_with fail
            refine ⟨⟨n, e, cs ++ [⟨row, rn⟩], .slice a5 (cs.length + 1) c5, us ++ [.slice au row.length cu], G ++ [g], rfl, hes, by omega, by simp; omega, by rw [HR.out, HS.out, HROW.out], ?_, by go_simp, by go_simp, fun o => by go_simp, by go_simp, by go_simp, fun o => by go_simp, hB6, hbel6, by simp; omega⟩, by simp [intOf]; omega⟩
            intro z hz
            rcases List.mem_append.1 hz with hz | hz
            · exact hcw z hz
            · rcases List.mem_singleton.1 hz with rfl
              rw [HROW.out] at hrw
              exact hrw
        · have HN : Hid (ansB s = none) := by
            show ansB s = none
            rw [hA]; unfold resI
            rw [HR.out, runI, if_pos ⟨hltI, h400⟩, if_pos (.inl hk)]
          have hno := getCounted_no s i (bAt s 0) wr hs hk
          go_wp2_with fail
          refine Calls.mono hno ?_
          rintro e w2 ⟨rfl, hb2⟩
          have hzw := hb2.size
          have hfz := (bcell hb2).2
          have hcz := (bcell hb2).1
          have u0 : w2.cell? ⟨w.heap.size, 0, none⟩ = some (.int .i64 0) := (hcz _ _ (by omega)).trans r0
          have u1 : w2.cell? ⟨w.heap.size, 1, none⟩ = some (.slice none 0 0) := (hcz _ _ (by omega)).trans r1
          have uf : ∀ o, w2.frozen? ⟨w.heap.size, o, none⟩ = false := fun o => (hfz _ _ (by omega)).trans (rf o)
          have hbw2 : Below w.heap.size w w2 := hb.trans (hb2.mono hb.size)
          have n3 : w.heap.size < w2.heap.size := by omega
          have n4 : w.heap.size < w2.heap.size + 1 := by omega
          clear hfz hcz hB
          go_wp2_with fail
          refine bodyPost_ret (v := .tuple #[.agg #[.int .i64 0, .slice none 0 0], .bool false]) (by simp [results, Tryz.results115, go_sem, *]) rfl ⟨⟨_, [], [], by rw [(ans_none HN.out).1, (ans_none HN.out).2.2], by rw [(ans_none HN.out).2.1]; exact BagOwn.nil _ _⟩, by repeat (first | (with_reducible exact Below.refl _ _) | (with_reducible refine Below.drew ?_) | (with_reducible refine Below.alloc ?_ ?hh _; case hh => first | (simp; done) | (simp; omega) | omega) | (with_reducible refine Below.setCell ?_ ?hh _; case hh => first | (simp; done) | (simp; omega) | omega) | refine bstep (by assumption) (by first | (simp; done) | (simp; omega) | omega) ?_)⟩
      · have h400I : decide ((cs.length : Int) ≤ 400) = false := by simp; omega
        have HE : Hid (ansB s = if okBag (bAt s 0) cs = true then some cs else none) := by
          show ansB s = _
          rw [hA]; unfold resI
          rw [HR.out, runI_stop _ _ _ _ _ (by omega)]
        obtain ⟨F, hRs, hOs⟩ := hB.rowsF
        go_wp2_with fail
        refine Calls.mono (implBagOk_any (bAt s 0) (.slice ay cs.length cy) cs wr hcw hRs.is) ?_
        rintro e w2 ⟨rfl, hb2⟩
        have hzw := hb2.size
        have hfz := (bcell hb2).2
        have hcz := (bcell hb2).1
        have u0 : w2.cell? ⟨w.heap.size, 0, none⟩ = some (.int .i64 0) := (hcz _ _ (by omega)).trans r0
        have u1 : w2.cell? ⟨w.heap.size, 1, none⟩ = some (.slice none 0 0) := (hcz _ _ (by omega)).trans r1
        have uf : ∀ o, w2.frozen? ⟨w.heap.size, o, none⟩ = false := fun o => (hfz _ _ (by omega)).trans (rf o)
        have q0 : w2.cell? ⟨w.heap.size + 1, 0, none⟩ = some (.int .i64 (bAt s 0)) := (hcz _ _ (by omega)).trans p0
        have q1 : w2.cell? ⟨w.heap.size + 1, 1, none⟩ = some (.slice ay cs.length cy) := (hcz _ _ (by omega)).trans p1
        have hbw2 : Below w.heap.size w w2 := hb.trans (hb2.mono hb.size)
        have n3 : w.heap.size < w2.heap.size := by omega
        have n5 : w.heap.size + 1 < w2.heap.size := by omega
        have hB2 := hB.below hb2
        clear hfz hcz p0 p1 pf r0 r1 rf hB hRs hOs
        by_cases hok : okBag (bAt s 0) cs = true
        · have HN : Hid (ansB s = some cs) := by show ansB s = some cs; rw [HE.out, if_pos hok]
          go_wp2_with fail
          refine bodyPost_ret (v := .tuple #[.agg #[.int .i64 (bAt s 0), .slice ay cs.length cy], .bool true]) (by simp [results, Tryz.results115, go_sem, *]) rfl ⟨⟨_, us, G, by rw [(ans_some HN.out).1, (ans_some HN.out).2.2], ?_⟩, ?_⟩
          · rw [(ans_some HN.out).2.1]
            refine BagOwn.weak (N := w.heap.size + 1 + 1) (hB2.keep (by simp) fun b hb1 _ => ?_) (by omega)
            repeat rw [Below.heap_setCell _ _ _ _ (by show b ≠ w.heap.size; omega)]
          · repeat (first | (with_reducible exact hbw2) | (with_reducible refine Below.setCell ?_ ?hh _; case hh => (first | (simp; done) | (simp; omega))))
        · have HN : Hid (ansB s = none) := by show ansB s = none; rw [HE.out, if_neg hok]
          replace hok : okBag (bAt s 0) cs = false := by simpa using hok
          clear hB2
          go_wp2_with fail
          refine bodyPost_ret (v := .tuple #[.agg #[.int .i64 0, .slice none 0 0], .bool false]) (by simp [results, Tryz.results115, go_sem, *]) rfl ⟨⟨_, [], [], by rw [(ans_none HN.out).1, (ans_none HN.out).2.2], by rw [(ans_none HN.out).2.1]; exact BagOwn.nil _ _⟩, ?_⟩
          repeat (first | (with_reducible exact hbw2) | (with_reducible refine Below.setCell ?_ ?hh _; case hh => (first | (simp; done) | (simp; omega))))
    · have hltI : decide ((i : Int) < s.size) = false := by simp; omega
      have HE : Hid (ansB s = if okBag (bAt s 0) cs = true then some cs else none) := by
        show ansB s = _
        rw [hA]; unfold resI
        rw [HR.out, runI_stop _ _ _ _ _ (by omega)]
      obtain ⟨F, hRs, hOs⟩ := hB.rowsF
      go_wp2_with fail
      refine Calls.mono (implBagOk_any (bAt s 0) (.slice ay cs.length cy) cs wr hcw hRs.is) ?_
      rintro e w2 ⟨rfl, hb2⟩
      have hzw := hb2.size
      have hfz := (bcell hb2).2
      have hcz := (bcell hb2).1
      have u0 : w2.cell? ⟨w.heap.size, 0, none⟩ = some (.int .i64 0) := (hcz _ _ (by omega)).trans r0
      have u1 : w2.cell? ⟨w.heap.size, 1, none⟩ = some (.slice none 0 0) := (hcz _ _ (by omega)).trans r1
      have uf : ∀ o, w2.frozen? ⟨w.heap.size, o, none⟩ = false := fun o => (hfz _ _ (by omega)).trans (rf o)
      have q0 : w2.cell? ⟨w.heap.size + 1, 0, none⟩ = some (.int .i64 (bAt s 0)) := (hcz _ _ (by omega)).trans p0
      have q1 : w2.cell? ⟨w.heap.size + 1, 1, none⟩ = some (.slice ay cs.length cy) := (hcz _ _ (by omega)).trans p1
      have hbw2 : Below w.heap.size w w2 := hb.trans (hb2.mono hb.size)
      have n3 : w.heap.size < w2.heap.size := by omega
      have n5 : w.heap.size + 1 < w2.heap.size := by omega
      have hB2 := hB.below hb2
      clear hfz hcz p0 p1 pf r0 r1 rf hB hRs hOs
      by_cases hok : okBag (bAt s 0) cs = true
      · have HN : Hid (ansB s = some cs) := by show ansB s = some cs; rw [HE.out, if_pos hok]
        go_wp2_with fail
        refine bodyPost_ret (v := .tuple #[.agg #[.int .i64 (bAt s 0), .slice ay cs.length cy], .bool true]) (by simp [results, Tryz.results115, go_sem, *]) rfl ⟨⟨_, us, G, by rw [(ans_some HN.out).1, (ans_some HN.out).2.2], ?_⟩, ?_⟩
        · rw [(ans_some HN.out).2.1]
          refine BagOwn.weak (N := w.heap.size + 1 + 1) (hB2.keep (by simp) fun b hb1 _ => ?_) (by omega)
          repeat rw [Below.heap_setCell _ _ _ _ (by show b ≠ w.heap.size; omega)]
        · repeat (first | (with_reducible exact hbw2) | (with_reducible refine Below.setCell ?_ ?hh _; case hh => (first | (simp; done) | (simp; omega))))
      · have HN : Hid (ansB s = none) := by show ansB s = none; rw [HE.out, if_neg hok]
        replace hok : okBag (bAt s 0) cs = false := by simpa using hok
        clear hB2
        go_wp2_with fail
        refine bodyPost_ret (v := .tuple #[.agg #[.int .i64 0, .slice none 0 0], .bool false]) (by simp [results, Tryz.results115, go_sem, *]) rfl ⟨⟨_, [], [], by rw [(ans_none HN.out).1, (ans_none HN.out).2.2], by rw [(ans_none HN.out).2.1]; exact BagOwn.nil _ _⟩, ?_⟩
        repeat (first | (with_reducible exact hbw2) | (with_reducible refine Below.setCell ?_ ?hh _; case hh => (first | (simp; done) | (simp; omega))))
end Go.Proofs.YtlobjpdkjlmglaaGreat
/- Own text. A text taken apart by sizes, as the cutter does it; what is read is what stands there; program and model read the same step. -/
namespace Go.Proofs.YtlobjpdkjlmglaaGreat
open Go.RowKit
set_option linter.unusedVariables false
/-- the number that a text's bytes make. -/
def beT (t : ByteArray) : Int := be t.data.toList
/-- n bytes of s at a place, ahead of the end e; the place behind, and whether it is torn. -/
def tk (s : ByteArray) (e n : Nat) (q : Nat × Bool) : ByteArray × (Nat × Bool) := if q.1 + n ≤ e then (s.extract q.1 (q.1 + n), (q.1 + n, q.2)) else (⟨#[]⟩, (q.1, true))
def nm (s : ByteArray) (e k : Nat) (q : Nat × Bool) : Int × (Nat × Bool) := (beT (tk s e k q).1, (tk s e k q).2)
def tx (s : ByteArray) (e k : Nat) (q : Nat × Bool) : ByteArray × (Nat × Bool) := tk s e (nm s e k q).1.toNat (nm s e k q).2
/-- a relation. -/
def rlB (s : ByteArray) (e : Nat) (q : Nat × Bool) : ByteArray × (Nat × Bool) := tx s e 4 (tx s e 2 q).2
def rl (s : ByteArray) (e : Nat) (q : Nat × Bool) : R3 × (Nat × Bool) := (⟨(tx s e 2 q).1, aW (rlB s e q).1, aC (rlB s e q).1⟩, ((rlB s e q).2.1, (rlB s e q).2.2 || !aB (rlB s e q).1))
/-- so many texts, so many relations. -/
def csn (s : ByteArray) (e : Nat) (q : Nat × Bool) : Nat → List ByteArray × (Nat × Bool)
  | 0 => ([], q)
  | k + 1 => ((csn s e q k).1 ++ [(tx s e 2 (csn s e q k).2).1], (tx s e 2 (csn s e q k).2).2)
def rln (s : ByteArray) (e : Nat) (q : Nat × Bool) : Nat → List R3 × (Nat × Bool)
  | 0 => ([], q)
  | k + 1 => ((rln s e q k).1 ++ [(rl s e (rln s e q k).2).1], (rl s e (rln s e q k).2).2)
/-- the parts of a step, one behind the other: a kind, a name, columns, a question, a change. -/
def sA (s : ByteArray) (e : Nat) (q : Nat × Bool) : Int × (Nat × Bool) := nm s e 1 q
def sB (s : ByteArray) (e : Nat) (q : Nat × Bool) : ByteArray × (Nat × Bool) := tx s e 2 (sA s e q).2
def sN (s : ByteArray) (e : Nat) (q : Nat × Bool) : Int × (Nat × Bool) := nm s e 1 (sB s e q).2
def sC' (s : ByteArray) (e : Nat) (q : Nat × Bool) : List ByteArray × (Nat × Bool) := csn s e (sN s e q).2 (sN s e q).1.toNat
def sD (s : ByteArray) (e : Nat) (q : Nat × Bool) : ByteArray × (Nat × Bool) := tx s e 2 (sC' s e q).2
def sM (s : ByteArray) (e : Nat) (q : Nat × Bool) : Int × (Nat × Bool) := nm s e 1 (sD s e q).2
def sE (s : ByteArray) (e : Nat) (q : Nat × Bool) : List R3 × (Nat × Bool) := rln s e (sM s e q).2 (sM s e q).1.toNat
/-- the step, and whether all of the part was read as one. -/
def sX (s : ByteArray) (e : Nat) (q : Nat × Bool) : T5 := ⟨(sA s e q).1, (sB s e q).1, (sC' s e q).1, (sD s e q).1, (sE s e q).1⟩
def sT (s : ByteArray) (e : Nat) (q : Nat × Bool) : Bool := (sE s e q).2.2 || !((sE s e q).2.1 == e)
def sO (s : ByteArray) (e : Nat) (q : Nat × Bool) : Bool := !sT s e q && okStep (sX s e q)
def zT : T5 := ⟨0, ⟨#[]⟩, [], ⟨#[]⟩, []⟩
/-- what both GetStep answer. -/
def gT (s : ByteArray) : T5 := if sO s s.size (0, false) = true then sX s s.size (0, false) else zT
def gO (s : ByteArray) : Bool := sO s s.size (0, false)
/-- bytes as numbers, from a place on. -/
def dr (s : ByteArray) (a : Nat) : List Int := (txN s).drop a
section
variable {s : ByteArray} {e n k : Nat} {q : Nat × Bool}
theorem tk_at (h : q.1 ≤ e) : (tk s e n q).2.1 ≤ e := by unfold tk; split <;> simp_all
theorem nm_at (h : q.1 ≤ e) : (nm s e k q).2.1 ≤ e := tk_at h
theorem tx_at (h : q.1 ≤ e) : (tx s e k q).2.1 ≤ e := tk_at (nm_at h)
theorem rlB_at (h : q.1 ≤ e) : (rlB s e q).2.1 ≤ e := tx_at (tx_at h)
theorem rl_at (h : q.1 ≤ e) : (rl s e q).2.1 ≤ e := rlB_at h
theorem csn_at (h : q.1 ≤ e) : ∀ n, (csn s e q n).2.1 ≤ e
  | 0 => h
  | n + 1 => tx_at (csn_at h n)
theorem rln_at (h : q.1 ≤ e) : ∀ n, (rln s e q n).2.1 ≤ e
  | 0 => h
  | n + 1 => rl_at (rln_at h n)
theorem csn_len : ∀ n, (csn s e q n).1.length = n
  | 0 => rfl
  | n + 1 => by rw [csn, List.length_append, csn_len n]; rfl
theorem rln_len : ∀ n, (rln s e q n).1.length = n
  | 0 => rfl
  | n + 1 => by rw [rln, List.length_append, rln_len n]; rfl
theorem tk_size (he : e ≤ s.size) (h : q.1 ≤ e) : (tk s e n q).1.size ≤ s.size := by
  unfold tk
  split
  · simp only [ByteArray.size_extract]; omega
  · exact Nat.zero_le _
theorem tk_le (he : e ≤ s.size) (h : q.1 ≤ e) : (tk s e n q).1.size ≤ n := by
  unfold tk
  split
  · simp only [ByteArray.size_extract]; omega
  · exact Nat.zero_le _
theorem nm_bd (he : e ≤ s.size) (h : q.1 ≤ e) (hk : k ≤ 4) : 0 ≤ (nm s e k q).1 ∧ (nm s e k q).1 < 4294967296 := by
  have h1 := tk_le (s := s) (n := k) he h
  have h2 := be_bd_aux _ (tk s e k q).1.data.toList rfl
  have h3 : (tk s e k q).1.data.toList.length ≤ 4 := by simp; exact Nat.le_trans h1 hk
  have h4 : (256 : Int) ^ (tk s e k q).1.data.toList.length ≤ 256 ^ 4 := by
    generalize (tk s e k q).1.data.toList.length = m at *
    match m, h3 with
    | 0, _ => decide
    | 1, _ => decide
    | 2, _ => decide
    | 3, _ => decide
    | 4, _ => decide
  have h5 : (256 : Int) ^ 4 = 4294967296 := by decide
  unfold nm beT
  dsimp only
  omega
theorem nm_bd1 (he : e ≤ s.size) (h : q.1 ≤ e) : (nm s e 1 q).1 ≤ 255 := by
  have h1 := tk_le (s := s) (n := 1) he h
  have h2 := be_bd_aux _ (tk s e 1 q).1.data.toList rfl
  have h3 : (tk s e 1 q).1.data.toList.length ≤ 1 := by simpa using h1
  have h4 : (256 : Int) ^ (tk s e 1 q).1.data.toList.length ≤ 256 := by
    generalize (tk s e 1 q).1.data.toList.length = m at *
    match m, h3 with
    | 0, _ => decide
    | 1, _ => decide
  unfold nm beT
  dsimp only
  omega
/-- what is torn stays so. -/
theorem tk_torn (h : (tk s e n q).2.2 = false) : q.2 = false ∧ q.1 + n ≤ e := by
  unfold tk at h
  split at h
  · exact ⟨h, by assumption⟩
  · cases h
theorem nm_torn (h : (nm s e k q).2.2 = false) : q.2 = false := (tk_torn h).1
theorem tx_torn (h : (tx s e k q).2.2 = false) : (nm s e k q).2.2 = false ∧ q.2 = false := ⟨(tk_torn h).1, nm_torn (tk_torn h).1⟩
theorem rl_torn (h : (rl s e q).2.2 = false) : (rlB s e q).2.2 = false ∧ (tx s e 2 q).2.2 = false ∧ q.2 = false ∧ aB (rlB s e q).1 = true := by
  unfold rl at h
  simp only [Bool.or_eq_false_iff, Bool.not_eq_false'] at h
  have h2 := (tx_torn (q := (tx s e 2 q).2) h.1).2
  exact ⟨h.1, h2, (tx_torn h2).2, h.2⟩
theorem csn_torn : ∀ n, (csn s e q n).2.2 = false → q.2 = false
  | 0, h => h
  | n + 1, h => csn_torn n (tx_torn (q := (csn s e q n).2) h).2
theorem rln_torn : ∀ n, (rln s e q n).2.2 = false → q.2 = false
  | 0, h => h
  | n + 1, h => rln_torn n (rl_torn (q := (rln s e q n).2) h).2.2.1
/-- what is read is what stands there. -/
theorem txN_extract (a b : Nat) (h : a ≤ b) (hb : b ≤ s.size) : dr s a = txN (s.extract a b) ++ dr s b := by
  have e1 : (s.extract a b).data.toList = (s.data.toList.drop a).take (b - a) := extract_list s a b
  unfold dr txN nb
  rw [e1, ← List.map_drop, ← List.map_drop, ← List.map_append]
  congr 1
  have := List.take_append_drop (b - a) (s.data.toList.drop a)
  rw [List.drop_drop, show a + (b - a) = b by omega] at this
  exact this.symm
theorem szN_be (l : List UInt8) : szN (be l) l.length = nb l := by
  have key : ∀ (n : Nat) (l : List UInt8), l.length = n → ∀ c : Int, 0 ≤ c → szN (c * 256 ^ n + be l) n = nb l := by
    intro n
    induction n with
    | zero => intro l hl c hc; rw [List.eq_nil_of_length_eq_zero hl]; rfl
    | succ n ih =>
      intro l hl c hc
      match l, hl with
      | x :: r, hl =>
        have hr : r.length = n := by simpa using hl
        have hb := be_bd_aux n r hr
        have hx := x.toNat_lt
        have e1 : be (x :: r) = (x.toNat : Int) * 256 ^ n + be r := by
          have gen : ∀ (r : List UInt8) (a : Int), List.foldl (fun a c => 256 * a + (c.toNat : Int)) a r = a * 256 ^ r.length + be r := by
            intro r
            induction r with
            | nil => intro a; simp [be]
            | cons y t iht =>
              intro a
              rw [List.foldl_cons, iht, List.length_cons, Int.pow_succ]
              have e2 : be (y :: t) = (y.toNat : Int) * 256 ^ t.length + be t := by
                unfold be
                rw [List.foldl_cons, iht]
                simp [be]
              rw [e2, Int.add_mul, Int.mul_comm 256 a, Int.mul_assoc, Int.mul_comm 256 (256 ^ t.length), Int.add_assoc]
          unfold be
          rw [List.foldl_cons, gen, hr]
          simp [be]
        have e3 : c * 256 ^ (n + 1) + be (x :: r) = (c * 256 + x.toNat) * 256 ^ n + be r := by
          rw [e1, Int.pow_succ, Int.add_mul, Int.mul_assoc, Int.mul_comm 256 (256 ^ n), Int.add_assoc]
        rw [e3]
        unfold szN
        rw [ih r hr (c * 256 + x.toNat) (by omega)]
        have e4 : ((c * 256 + (x.toNat : Int)) * 256 ^ n + be r) / 256 ^ n % 256 = x.toNat := num_part _ _ _ c _ (Int.pow_pos (by decide)) hb.1 hb.2 rfl (by omega) (by omega)
        rw [e4]
        rfl
  have := key l.length l rfl 0 (by omega)
  simpa using this
theorem tk_read (he : e ≤ s.size) (h : (tk s e n q).2.2 = false) : dr s q.1 = txN (tk s e n q).1 ++ dr s (tk s e n q).2.1 ∧ (tk s e n q).1.size = n := by
  have h2 := (tk_torn h).2
  unfold tk
  rw [if_pos h2]
  dsimp only
  exact ⟨txN_extract _ _ (by omega) (by omega), by rw [ByteArray.size_extract]; omega⟩
theorem nm_read (he : e ≤ s.size) (h : (nm s e k q).2.2 = false) : dr s q.1 = szN (nm s e k q).1 k ++ dr s (nm s e k q).2.1 := by
  obtain ⟨h1, h2⟩ := tk_read (q := q) (n := k) he h
  rw [h1]
  have h3 : (tk s e k q).1.data.toList.length = k := by simpa using h2
  have := szN_be (tk s e k q).1.data.toList
  rw [h3] at this
  unfold nm beT
  dsimp only
  rw [this]
  rfl
theorem tx_read (he : e ≤ s.size) (h : (tx s e k q).2.2 = false) : dr s q.1 = tN (tx s e k q).1 k ++ dr s (tx s e k q).2.1 := by
  have ht := tk_torn h
  obtain ⟨h1, h2⟩ := tk_read (q := (nm s e k q).2) (n := (nm s e k q).1.toNat) he h
  have h3 := nm_read (q := q) he ht.1
  have h5 : 0 ≤ (nm s e k q).1 := (be_bd_aux _ _ rfl).1
  rw [h3, h1]
  unfold tN
  have h4 : ((tx s e k q).1.size : Int) = (nm s e k q).1 := by
    unfold tx
    rw [h2]
    omega
  rw [h4, List.append_assoc]
  rfl
theorem csn_read (he : e ≤ s.size) : ∀ n, (csn s e q n).2.2 = false → dr s q.1 = csL (csn s e q n).1 ++ dr s (csn s e q n).2.1
  | 0, h => rfl
  | n + 1, h => by
    have h0 := (tx_torn (q := (csn s e q n).2) h).2
    rw [csn_read he n h0, tx_read (q := (csn s e q n).2) he h, csn]
    unfold csL
    rw [List.flatMap_append, List.flatMap_singleton, List.append_assoc]
theorem aB_put {t : ByteArray} (h : aB t = true) : putB (aW t) (aC t) = t := by
  unfold aB at h
  cases hA : ansB t with
  | none => rw [hA] at h; cases h
  | some cs =>
    obtain ⟨e1, e2, _⟩ := ans_some hA
    rw [e1, e2]
    unfold ansB at hA
    split at hA
    · cases hA
    · rename_i hz
      rw [← res_same t (by omega)] at hA
      unfold resS at hA
      split at hA
      · split at hA
        · cases hA
        · split at hA
          · cases hA; assumption
          · cases hA
      · cases hA
theorem rln_read (he : e ≤ s.size) : ∀ n, (rln s e q n).2.2 = false → dr s q.1 = rlsL (rln s e q n).1 ++ dr s (rln s e q n).2.1
  | 0, h => rfl
  | n + 1, h => by
    obtain ⟨h0, h1, h2, h3⟩ := rl_torn (q := (rln s e q n).2) h
    rw [rln_read he n h2, tx_read (q := (rln s e q n).2) he h1, tx_read (q := (tx s e 2 (rln s e q n).2).2) he h0, rln]
    have h4 := aB_put h3
    unfold rlsL
    rw [List.flatMap_append, List.flatMap_singleton]
    unfold rl rlL
    dsimp only
    rw [h4]
    simp only [List.append_assoc]
    rfl
theorem step_read (he : e ≤ s.size) (h : (sE s e q).2.2 = false) (hc : (sN s e q).1 ≤ 255) (hm : (sM s e q).1 ≤ 255) : dr s q.1 = stepL (sX s e q) ++ dr s (sE s e q).2.1 := by
  have h6 := rln_torn (q := (sM s e q).2) _ h
  have h5 := nm_torn (q := (sD s e q).2) h6
  have h4 := (tx_torn (q := (sC' s e q).2) h5).2
  have h3 := csn_torn (q := (sN s e q).2) _ h4
  have h2 := nm_torn (q := (sB s e q).2) h3
  have h1 := (tx_torn (q := (sA s e q).2) h2).2
  have n0 : 0 ≤ (sN s e q).1 := (be_bd_aux _ _ rfl).1
  have m0 : 0 ≤ (sM s e q).1 := (be_bd_aux _ _ rfl).1
  have e1 : ((sC' s e q).1.length : Int) = (sN s e q).1 := by unfold sC'; rw [csn_len]; omega
  have e2 : ((sE s e q).1.length : Int) = (sM s e q).1 := by unfold sE; rw [rln_len]; omega
  have r1 : dr s q.1 = szN (sA s e q).1 1 ++ dr s (sA s e q).2.1 := nm_read (q := q) he h1
  have r2 : dr s (sA s e q).2.1 = tN (sB s e q).1 2 ++ dr s (sB s e q).2.1 := tx_read (q := (sA s e q).2) he h2
  have r3 : dr s (sB s e q).2.1 = szN (sN s e q).1 1 ++ dr s (sN s e q).2.1 := nm_read (q := (sB s e q).2) he h3
  have r4 : dr s (sN s e q).2.1 = csL (sC' s e q).1 ++ dr s (sC' s e q).2.1 := csn_read (q := (sN s e q).2) he _ h4
  have r5 : dr s (sC' s e q).2.1 = tN (sD s e q).1 2 ++ dr s (sD s e q).2.1 := tx_read (q := (sC' s e q).2) he h5
  have r6 : dr s (sD s e q).2.1 = szN (sM s e q).1 1 ++ dr s (sM s e q).2.1 := nm_read (q := (sD s e q).2) he h6
  have r7 : dr s (sM s e q).2.1 = rlsL (sE s e q).1 ++ dr s (sE s e q).2.1 := rln_read (q := (sM s e q).2) he _ h
  rw [r1, r2, r3, r4, r5, r6, r7]
  unfold stepL mdL hdL sX
  dsimp only
  rw [e1, e2]
  simp only [List.append_assoc]
end
theorem dr_len (s : ByteArray) (a : Nat) : (dr s a).length = s.size - a := by unfold dr; rw [List.length_drop, txN_len]
theorem sE_at (s : ByteArray) : (sE s s.size (0, false)).2.1 ≤ s.size := rln_at (nm_at (tx_at (csn_at (nm_at (tx_at (nm_at (by simp)))) _))) _
theorem cut_bd (s : ByteArray) : (sN s s.size (0, false)).1 ≤ 255 ∧ (sM s s.size (0, false)).1 ≤ 255 := ⟨nm_bd1 (Nat.le_refl _) (tx_at (nm_at (by simp))), nm_bd1 (Nat.le_refl _) (tx_at (csn_at (nm_at (tx_at (nm_at (by simp)))) _))⟩
/-- a step that was read to the end is right just where its bytes are the text. -/
theorem step_same (s : ByteArray) (h : (sE s s.size (0, false)).2.2 = false) : (s.size ≠ 0 ∧ putT (sX s s.size (0, false)) = s) ↔ gO s = true := by
  obtain ⟨b1, b2⟩ := cut_bd s
  have hr := step_read (q := (0, false)) (Nat.le_refl _) h b1 b2
  have ha := sE_at s
  have hl := congrArg List.length hr
  rw [List.length_append, dr_len, dr_len] at hl
  dsimp only at hl
  unfold gO sO sT
  rw [h]
  constructor
  · rintro ⟨hz, hp⟩
    have ok : okStep (sX s s.size (0, false)) = true := by
      cases hk : okStep (sX s s.size (0, false)) with
      | true => rfl
      | false =>
        unfold putT at hp
        rw [hk] at hp
        rw [← hp] at hz
        exact absurd rfl hz
    have h2 : (stepL (sX s s.size (0, false))).length = s.size := by
      have := congrArg ByteArray.size hp
      unfold putT at this
      rw [if_pos ok, nums_size] at this
      exact this
    have : (sE s s.size (0, false)).2.1 = s.size := by omega
    rw [this, ok]
    simp
  · intro hk
    simp only [Bool.false_or, Bool.not_not, Bool.and_eq_true, beq_iff_eq] at hk
    obtain ⟨h1, ok⟩ := hk
    have h3 : dr s (sE s s.size (0, false)).2.1 = [] := List.eq_nil_of_length_eq_zero (by rw [dr_len]; omega)
    rw [h3, List.append_nil] at hr
    have h4 : txN s = stepL (sX s s.size (0, false)) := hr
    have h5 : putT (sX s s.size (0, false)) = s := by
      unfold putT
      rw [if_pos ok, ← h4, nums_txN]
    refine ⟨fun hz => ?_, h5⟩
    have := mdL_ne (sX s s.size (0, false))
    rw [← h4] at this
    exact this (List.eq_nil_of_length_eq_zero (by rw [txN_len]; exact hz))
end Go.Proofs.YtlobjpdkjlmglaaGreat
/- Own text. A part of a text, read by itself, is read as where it stands. -/
namespace Go.Proofs.YtlobjpdkjlmglaaGreat
open Go.RowKit
set_option linter.unusedVariables false
/-- a place, from a on. -/
def sh (a : Nat) (q : Nat × Bool) : Nat × Bool := (q.1 + a, q.2)
theorem ext_ext (s : ByteArray) {a e i j : Nat} (he : e ≤ s.size) (hj : j + a ≤ e) : (s.extract a e).extract i j = s.extract (i + a) (j + a) := by
  apply ByteArray.ext; apply Array.ext'
  show ((s.extract a e).extract i j).data.toList = (s.extract (i + a) (j + a)).data.toList
  rw [extract_list, extract_list, extract_list, List.drop_take, List.take_take, List.drop_drop, Nat.add_comm a i]
  congr 1
  omega
section
variable {s : ByteArray} {a e : Nat}
theorem tk_sh {n : Nat} {q : Nat × Bool} (he : e ≤ s.size) (ha : a ≤ e) : tk s e n (sh a q) = ((tk (s.extract a e) (e - a) n q).1, sh a (tk (s.extract a e) (e - a) n q).2) := by
  unfold tk sh
  dsimp only
  by_cases h : q.1 + n ≤ e - a
  · rw [if_pos h, if_pos (show q.1 + a + n ≤ e by omega)]
    dsimp only
    rw [ext_ext s he (by omega), show q.1 + a + n = q.1 + n + a by omega]
  · rw [if_neg h, if_neg (show ¬ q.1 + a + n ≤ e by omega)]
theorem nm_sh {k : Nat} {q : Nat × Bool} (he : e ≤ s.size) (ha : a ≤ e) : nm s e k (sh a q) = ((nm (s.extract a e) (e - a) k q).1, sh a (nm (s.extract a e) (e - a) k q).2) := by
  unfold nm; rw [tk_sh he ha]
theorem tx_sh {k : Nat} {q : Nat × Bool} (he : e ≤ s.size) (ha : a ≤ e) : tx s e k (sh a q) = ((tx (s.extract a e) (e - a) k q).1, sh a (tx (s.extract a e) (e - a) k q).2) := by
  unfold tx; rw [nm_sh he ha]; dsimp only; rw [tk_sh he ha]
theorem rlB_sh {q : Nat × Bool} (he : e ≤ s.size) (ha : a ≤ e) : rlB s e (sh a q) = ((rlB (s.extract a e) (e - a) q).1, sh a (rlB (s.extract a e) (e - a) q).2) := by
  unfold rlB; rw [tx_sh he ha]; dsimp only; rw [tx_sh he ha]
theorem rl_sh {q : Nat × Bool} (he : e ≤ s.size) (ha : a ≤ e) : rl s e (sh a q) = ((rl (s.extract a e) (e - a) q).1, sh a (rl (s.extract a e) (e - a) q).2) := by
  unfold rl; rw [tx_sh he ha, rlB_sh he ha]; rfl
theorem csn_sh {q : Nat × Bool} (he : e ≤ s.size) (ha : a ≤ e) : ∀ n, csn s e (sh a q) n = ((csn (s.extract a e) (e - a) q n).1, sh a (csn (s.extract a e) (e - a) q n).2)
  | 0 => rfl
  | n + 1 => by rw [csn, csn_sh he ha n]; dsimp only; rw [tx_sh he ha]; rfl
theorem rln_sh {q : Nat × Bool} (he : e ≤ s.size) (ha : a ≤ e) : ∀ n, rln s e (sh a q) n = ((rln (s.extract a e) (e - a) q n).1, sh a (rln (s.extract a e) (e - a) q n).2)
  | 0 => rfl
  | n + 1 => by rw [rln, rln_sh he ha n]; dsimp only; rw [rl_sh he ha]; rfl
theorem step_sh {q : Nat × Bool} (he : e ≤ s.size) (ha : a ≤ e) : sX s e (sh a q) = sX (s.extract a e) (e - a) q ∧ (sE s e (sh a q)).2 = sh a (sE (s.extract a e) (e - a) q).2 := by
  have eA : sA s e (sh a q) = ((sA (s.extract a e) (e - a) q).1, sh a (sA (s.extract a e) (e - a) q).2) := nm_sh he ha
  have eB : sB s e (sh a q) = ((sB (s.extract a e) (e - a) q).1, sh a (sB (s.extract a e) (e - a) q).2) := by unfold sB; rw [eA]; exact tx_sh he ha
  have eN : sN s e (sh a q) = ((sN (s.extract a e) (e - a) q).1, sh a (sN (s.extract a e) (e - a) q).2) := by unfold sN; rw [eB]; exact nm_sh he ha
  have eC : sC' s e (sh a q) = ((sC' (s.extract a e) (e - a) q).1, sh a (sC' (s.extract a e) (e - a) q).2) := by unfold sC'; rw [eN]; exact csn_sh he ha _
  have eD : sD s e (sh a q) = ((sD (s.extract a e) (e - a) q).1, sh a (sD (s.extract a e) (e - a) q).2) := by unfold sD; rw [eC]; exact tx_sh he ha
  have eM : sM s e (sh a q) = ((sM (s.extract a e) (e - a) q).1, sh a (sM (s.extract a e) (e - a) q).2) := by unfold sM; rw [eD]; exact nm_sh he ha
  have eE : sE s e (sh a q) = ((sE (s.extract a e) (e - a) q).1, sh a (sE (s.extract a e) (e - a) q).2) := by unfold sE; rw [eM]; exact rln_sh he ha _
  refine ⟨?_, by rw [eE]⟩
  unfold sX
  rw [eA, eB, eC, eD, eE]
/-- a step of a part, where the part stands, is the part's own. -/
theorem part_sh (he : e ≤ s.size) (ha : a ≤ e) : sX s e (a, false) = sX (s.extract a e) (s.extract a e).size (0, false) ∧ sO s e (a, false) = gO (s.extract a e) := by
  have hz : (s.extract a e).size = e - a := by rw [ByteArray.size_extract]; omega
  have h0 : ((a, false) : Nat × Bool) = sh a (0, false) := by simp [sh]
  obtain ⟨h1, h2⟩ := step_sh (s := s) (a := a) (e := e) (q := (0, false)) he ha
  rw [h0, h1, hz]
  refine ⟨rfl, ?_⟩
  unfold gO sO sT
  rw [h1, h2, hz]
  have : ((sh a (sE (s.extract a e) (e - a) (0, false)).2).1 == e) = ((sE (s.extract a e) (e - a) (0, false)).2.1 == e - a) := by
    unfold sh
    rw [Bool.eq_iff_iff]
    simp only [beq_iff_eq]
    omega
  rw [this]; rfl
/-- what is torn ahead is no step. -/
theorem torn_no {q : Nat × Bool} (h : q.2 = true) : sO s e q = false := by
  have hE : (sE s e q).2.2 = true := by
    cases hx : (sE s e q).2.2 with
    | true => rfl
    | false =>
      have h6 := rln_torn (q := (sM s e q).2) _ hx
      have h5 := nm_torn (q := (sD s e q).2) h6
      have h4 := (tx_torn (q := (sC' s e q).2) h5).2
      have h3 := csn_torn (q := (sN s e q).2) _ h4
      have h2 := nm_torn (q := (sB s e q).2) h3
      have h1 := (tx_torn (q := (sA s e q).2) h2).2
      have h0 := nm_torn (q := q) h1
      rw [h] at h0; cases h0
  unfold sO sT
  rw [hE]; rfl
end
end Go.Proofs.YtlobjpdkjlmglaaGreat
/- Own text. The cutter: a block of four cells, and a stack of ends in a block of its own; the contracts of its small methods. -/
namespace Go.Proofs.YtlobjpdkjlmglaaGreat
open Go.RowKit Go.Deep
set_option linter.unusedVariables false
/-- block C is a cutter of s at q.1, torn by q.2, whose ends xs lie in block E. -/
structure Ct (w : World) (C E cap : Nat) (s : ByteArray) (q : Nat × Bool) (xs : List Int) : Prop where
  blk : w.heap[C]? = some (.cells #[.string s, .int .i64 q.1, .slice (some ⟨E, 0, none⟩) xs.length cap, .bool q.2] 62 (0, 0))
  own : w.ownsRow 0 3 1 (.slice (some ⟨E, 0, none⟩) xs.length cap) xs.length (xs.map (Value.int .i64))
section
variable {w w' : World} {C E cap : Nat} {s : ByteArray} {q : Nat × Bool} {xs : List Int}
theorem heap_lt {b : Nat} {o : Obj} (h : w.heap[b]? = some o) : b < w.heap.size := by
  rcases Nat.lt_or_ge b w.heap.size with h' | h'
  · exact h'
  · simp [Array.getElem?_eq_none h'] at h
theorem Ct.ltC (h : Ct w C E cap s q xs) : C < w.heap.size := heap_lt h.blk
theorem Ct.ltE (h : Ct w C E cap s q xs) : E < w.heap.size := (ownsRow_lt h.own E rfl).2
theorem Ct.ne (h : Ct w C E cap s q xs) : C ≠ E := by
  rintro rfl
  rcases h.own.2 with ⟨h1, _⟩ | ⟨g, c, cur, h1, _, hc, _⟩
  · cases h1
  · injection h1 with e1 _ _
    injection e1 with e1
    injection e1 with e1
    subst e1
    have h2 := h.blk
    rw [hc] at h2
    simp at h2
theorem Ct.keep (h : Ct w C E cap s q xs) (hC : w'.heap[C]? = w.heap[C]?) (hE : w'.heap[E]? = w.heap[E]?) : Ct w' C E cap s q xs :=
  ⟨hC.trans h.blk, ownsRow_keep h.own fun b hv => by cases hv; exact hE⟩
theorem Ct.below (h : Ct w C E cap s q xs) (hb : Below w.heap.size w w') : Ct w' C E cap s q xs := h.keep (hb.block _ h.ltC) (hb.block _ h.ltE)
theorem Ct.cells (h : Ct w C E cap s q xs) : w.cell? ⟨C, 0, none⟩ = some (.string s) ∧ w.cell? ⟨C, 1, none⟩ = some (.int .i64 q.1) ∧ w.cell? ⟨C, 2, none⟩ = some (.slice (some ⟨E, 0, none⟩) xs.length cap) ∧ w.cell? ⟨C, 3, none⟩ = some (.bool q.2) ∧ ∀ i, w.frozen? ⟨C, i, none⟩ = false := by
  refine ⟨?_, ?_, ?_, ?_, fun i => Lib.frozen_of_heap h.blk i⟩ <;> (rw [Lib.cell_of_heap h.blk]; rfl)
theorem Ct.end (h : Ct w C E cap s q xs) {i : Nat} {x : Int} (hx : xs[i]? = some x) : w.cell? ⟨E, i, none⟩ = some (.int .i64 x) := by
  have := World.ownsRow.cells h.own (g := E) rfl i (.int .i64 x) (by simp [hx])
  have e : ((⟨E, 0, none⟩ : Addr).add i) = ⟨E, i, none⟩ := by unfold Addr.add; split <;> simp_all
  rwa [e] at this
theorem Ct.room (h : Ct w C E cap s q xs) : xs.length ≤ cap ∧ cap ≤ maxLen := by
  rcases h.own.2 with ⟨h1, _⟩ | ⟨g, c, cur, h1, _, hc, h2, h3, _⟩
  · cases h1
  · injection h1 with e1 _ e3
    subst e3
    exact ⟨h2, h3⟩
theorem set_blk {P i : Nat} {cs : Array Value} {v : Value} {t : TypeId} (h : w.heap[P]? = some (.cells cs t (0, 0))) : (w.setCell ⟨P, i, none⟩ v).heap[P]? = some (.cells (cs.setIfInBounds i v) t (0, 0)) := by
  simp [World.setCell, Array.getElem?_modify, h]
theorem Ct.setE (h : Ct w C E cap s q xs) (i : Nat) (v : Value) : (w.setCell ⟨C, i, none⟩ v).heap[E]? = w.heap[E]? := Below.heap_setCell _ _ _ _ (fun e => h.ne e.symm)
theorem Ct.at (h : Ct w C E cap s q xs) (a : Nat) : Ct (w.setCell ⟨C, 1, none⟩ (.int .i64 a)) C E cap s (a, q.2) xs :=
  ⟨by rw [set_blk h.blk]; rfl, ownsRow_keep h.own fun b hv => by cases hv; exact h.setE _ _⟩
theorem Ct.torn (h : Ct w C E cap s q xs) (b : Bool) : Ct (w.setCell ⟨C, 3, none⟩ (.bool b)) C E cap s (q.1, b) xs :=
  ⟨by rw [set_blk h.blk]; rfl, ownsRow_keep h.own fun b hv => by cases hv; exact h.setE _ _⟩
theorem Ct.pop {x : Int} (h : Ct w C E cap s q (xs ++ [x])) : Ct (w.setCell ⟨C, 2, none⟩ (.slice (some ⟨E, 0, none⟩) xs.length cap)) C E cap s q xs := by
  refine ⟨by rw [set_blk h.blk]; rfl, ?_⟩
  have h0 := h.own
  have hE := h.setE 2 (.slice (some ⟨E, 0, none⟩) xs.length cap)
  refine ⟨by simp, .inr ?_⟩
  rcases h0.2 with ⟨h1, _⟩ | ⟨g, c, cur, h1, hg, hc, h2, h3, h4, h5⟩
  · cases h1
  · injection h1 with e1 _ e3
    injection e1 with e1
    injection e1 with e1
    subst e1 e3
    refine ⟨E, cap, cur, rfl, hg, hE.trans hc, by simp at h2; omega, h3, h4, ?_⟩
    have h6 := congrArg (List.take (xs.length * 1)) h5
    rw [List.take_take] at h6
    rw [show min (xs.length * 1) ((xs ++ [x]).length * 1) = xs.length * 1 by simp] at h6
    rw [h6]
    simp
theorem Ct.eqQ {q' : Nat × Bool} (h : Ct w C E cap s q xs) (e : q = q') : Ct w C E cap s q' xs := e ▸ h
theorem Ct.eqX {ys : List Int} (h : Ct w C E cap s q xs) (e : xs = ys) : Ct w C E cap s q ys := e ▸ h
end
/-- what was there is as it was, the blocks C and E aside. -/
structure Kc (C E : Nat) (w w' : World) : Prop where
  os : w'.os = w.os
  tape : w'.tape = w.tape
  output : w'.output = w.output
  size : w.heap.size ≤ w'.heap.size
  block : ∀ k, k < w.heap.size → k ≠ C → k ≠ E → w'.heap[k]? = w.heap[k]?
section
variable {w w' w1 w2 : World} {C E E' : Nat}
theorem Kc.refl (C E : Nat) (w : World) : Kc C E w w := ⟨rfl, rfl, rfl, Nat.le_refl _, fun _ _ _ _ => rfl⟩
theorem Kc.of_below (h : Below w.heap.size w w') : Kc C E w w' := ⟨h.os, h.tape, h.output, h.size, fun k hk _ _ => h.block k hk⟩
theorem Kc.trans (h : Kc C E w w1) (k : Kc C E' w1 w2) (he : E' = E ∨ w.heap.size ≤ E') : Kc C E w w2 :=
  ⟨k.os.trans h.os, k.tape.trans h.tape, k.output.trans h.output, Nat.le_trans h.size k.size, fun i hi h1 h2 => (k.block i (Nat.lt_of_lt_of_le hi h.size) h1 (by rcases he with rfl | he; exact h2; omega)).trans (h.block i hi h1 h2)⟩
theorem Kc.setCell (h : Kc C E w w') (i : Nat) (u : Value) : Kc C E w (w'.setCell ⟨C, i, none⟩ u) :=
  ⟨h.os, h.tape, h.output, by simpa using h.size, fun k hk h1 h2 => (Below.heap_setCell _ _ _ _ h1).trans (h.block k hk h1 h2)⟩
theorem Kc.below {N : Nat} (h : Kc C E w w') (hC : N ≤ C) (hE : N ≤ E) (hN : N ≤ w.heap.size) : Below N w w' :=
  ⟨h.os, h.tape, h.output, h.size, fun k hk => h.block k (by omega) (by omega) (by omega)⟩
theorem Kc.drewN (h : Kc C E w w') (n : Nat) : Kc C E w (w'.drewN n) := ⟨h.os, h.tape, h.output, h.size, h.block⟩
theorem Kc.cell (h : Kc C E w w') {b i : Nat} (hb : b < w.heap.size) (h1 : b ≠ C) (h2 : b ≠ E) : w'.cell? ⟨b, i, none⟩ = w.cell? ⟨b, i, none⟩ := cell_blk (h.block b hb h1 h2)
theorem Kc.frozen (h : Kc C E w w') {b i : Nat} (hb : b < w.heap.size) (h1 : b ≠ C) (h2 : b ≠ E) : w'.frozen? ⟨b, i, none⟩ = w.frozen? ⟨b, i, none⟩ := frozen_blk (h.block b hb h1 h2)
end
theorem Ct.drewN {w : World} {C E cap : Nat} {s : ByteArray} {q : Nat × Bool} {xs : List Int} (h : Ct w C E cap s q xs) (n : Nat) : Ct (w.drewN n) C E cap s q xs := h.keep rfl rfl
set_option maxHeartbeats 2000000 in
set_option maxRecDepth 100000 in
theorem top_any (C E cap : Nat) (s : ByteArray) (q : Nat × Bool) (xs : List Int) (x : Int) (w : World) (h : Ct w C E cap s q (xs ++ [x])) :
    Calls Tryz.prog 103 #[.pointer (some ⟨C, 2, none⟩)] w fun e w' => e = .returned (.int .i64 x) ∧ ∃ m, w' = w.drewN m := by
  obtain ⟨_, _, c2, _, _⟩ := h.cells
  have cE := h.end (i := xs.length) (x := x) (by simp)
  have hcap := h.room
  unfold maxLen at hcap
  simp only [List.length_append, List.length_cons, List.length_nil, Nat.zero_add] at c2 hcap
  generalize xs.length = n at *
  clear h
  go_enter Tryz.func103, Tryz.ntmps103
  go_wp2_with fail
  go_quiet (fail)
  all_goals go_wp2
  all_goals go_returns
  all_goals exact ⟨rfl, _, rfl⟩
set_option maxHeartbeats 2000000 in
set_option maxRecDepth 100000 in
theorem left_any (C E cap : Nat) (s : ByteArray) (q : Nat × Bool) (xs : List Int) (e : Nat) (w : World) (h : Ct w C E cap s q (xs ++ [(e : Int)])) (hq : q.1 ≤ e) (he : e ≤ s.size) :
    Calls Tryz.prog 70 #[.pointer (some ⟨C, 0, none⟩)] w fun r w' => r = .returned (.string (s.extract q.1 e)) ∧ ∃ m, w' = w.drewN m := by
  obtain ⟨c0, c1, _, _, _⟩ := h.cells
  have hqI : (q.1 : Int) ≤ (e : Int) := by omega
  have heI : (e : Int) ≤ (s.size : Int) := by omega
  go_enter Tryz.func70, Tryz.ntmps70
  go_wp2_with fail
  go_quiet (first | (go_at_call 103; refine Calls.quiet_of (top_any C E cap s q xs e _ (h.drewN _))) | fail)
  all_goals go_wp2
  all_goals go_returns
  all_goals exact ⟨rfl, _, rfl⟩
/-- append where there is room: the slice stays in its block. -/
theorem run_append_in {P : Program} {w : World} {t ty e : TypeId} {i : TypeInfo} (ht : P.underlying t = some (.slice e)) (hi : P.info? e = some i) (hs : i.size = 1) {g n cap : Nat} {xs : List Value} (hown : w.ownsRow 0 e 1 (.slice (some ⟨g, 0, none⟩) n cap) n xs)
    (a : Addr) (c : Nat) (x : Value) (hx : w.cell? a = some x) (h1 : x.oneCell' = true) (hroom : n + 1 ≤ cap) :
    ∃ w', (Builtin.append_ #[t, t] ty #[.slice (some ⟨g, 0, none⟩) n cap, .slice (some a) 1 c]).run P w = .ok (.slice (some ⟨g, 0, none⟩) (n + 1) cap) w' ∧ w'.ownsRow 0 e 1 (.slice (some ⟨g, 0, none⟩) (n + 1) cap) (n + 1) (xs ++ [x]) ∧ w.grownBy w' (some g) := by
  have hl0 := hown.1
  rcases hown.2 with ⟨h0, _⟩ | ⟨g', cap', cur, hv, hbg, hg, hnc, hcm, hcs, htake⟩
  · cases h0
  injection hv with e1 _ e3
  injection e1 with e1
  injection e1 with e1
  subst e1 e3
  have hfit : n * i.size + [x].length ≤ cur.size := by rw [hs, hcs]; simp; omega
  have hr := run_append_room (P := P) w t ty e i ht hi g n cap cur hg a 1 c [x] (by rw [hs]; rfl) (by
    intro j u hj
    match j, hj with
    | 0, hj =>
      simp at hj
      subst hj
      have e0 : a.add 0 = a := by unfold Addr.add; split <;> simp_all
      rw [e0]; exact hx) (by intro u hu; rcases List.mem_singleton.1 hu with rfl; exact h1) hroom hfit
  refine ⟨_, hr, ⟨by simp [hl0], .inr ⟨g, cap, _, rfl, hbg, setRow_heap w g cur _ e _ hg, hroom, hcm, ?_, ?_⟩⟩, ⟨rfl, rfl, rfl, by simp, fun k _ hk => setRow_other w g k _ (fun e => hk (by simp [e]))⟩⟩
  · simp only [List.size_toArray, List.length_append, List.length_take, List.length_drop, Array.length_toList, hs]
    simp only [List.length_cons, List.length_nil]
    omega
  · have hlen : (xs ++ [x]).length = (n + 1) * 1 := by simp [hl0]
    rw [hs, htake, ← hlen]
    exact List.take_left
theorem wpList_append_in {P : Program} {w : World} {ops : Array Oper} {rest : List Oper} {o : Oper} {a : Act} {Q : Exit → Act → World → Prop} (hgd : o.guard = none) (s x : Operand) (t : TypeId)
    (ho : o.op = .call { callee := .builtin .append, args := #[s, x], argTypes := #[t, t] }) {e : TypeId} {i : TypeInfo} (ht : P.underlying t = some (.slice e)) (hi : P.info? e = some i) (hsz : i.size = 1)
    {g n cap : Nat} {xs : List Value} (hs : a.eval s = .slice (some ⟨g, 0, none⟩) n cap) (hown : w.ownsRow 0 e 1 (.slice (some ⟨g, 0, none⟩) n cap) n xs) (ad : Addr) (c : Nat) (y : Value) (hx : a.eval x = .slice (some ad) 1 c) (hy : w.cell? ad = some y) (h1 : y.oneCell' = true) (hroom : n + 1 ≤ cap)
    (h : ∀ w', w'.ownsRow 0 e 1 (.slice (some ⟨g, 0, none⟩) (n + 1) cap) (n + 1) (xs ++ [y]) → w.grownBy w' (some g) → wpList P ops Q rest (a.put o.dst (.slice (some ⟨g, 0, none⟩) (n + 1) cap)) w') :
    wpList P ops Q (o :: rest) a w := by
  refine wpList_plain hgd fun K hK => ?_
  obtain ⟨w', hr, h2, h3⟩ := run_append_in (P := P) (ty := o.type) ht hi hsz hown ad c y hy h1 hroom
  unfold Oper.wp execOp
  simp only [ho, resolve, invoke, builtin, Sem.run_bind, Sem.run_pure, Result.andThen_ok, List.map_toArray, List.map_cons, List.map_nil, hs, hx, hr]
  exact hK _ _ (h w' h2 h3)
theorem Tryz.infoInt : (Tryz.prog.info? 3).map (fun i => (i.zero, i.size, i.bytes)) = some (some (.int .i64 0), 1, 8) := by kernel_rfl
/-- what a push leaves. -/
def Pushed (w w' : World) (C E cap : Nat) (s : ByteArray) (q : Nat × Bool) (xs : List Int) (n : Nat) : Prop := ∃ E' cap', Ct w' C E' cap' s q xs ∧ Kc C E w w' ∧ (n + 1 ≤ cap → E' = E ∧ cap' = cap) ∧ (E' = E ∨ w.heap.size ≤ E') ∧ n + 1 ≤ cap'
set_option maxHeartbeats 2000000 in
set_option maxRecDepth 100000 in
theorem push_any (C E cap : Nat) (s : ByteArray) (q : Nat × Bool) (xs : List Int) (x : Int) (w : World) (h : Ct w C E cap s q xs) (hl : xs.length ≤ 100000) :
    Calls Tryz.prog 67 #[.pointer (some ⟨C, 2, none⟩), .int .i64 x] w fun e w' => e = .returned (.tuple #[]) ∧ Pushed w w' C E cap s q (xs ++ [x]) xs.length := by
  obtain ⟨i0, hi, hz0, hz1, hz2⟩ := info_parts Tryz.infoInt
  obtain ⟨_, _, c2, _, hf⟩ := h.cells
  have hltC := h.ltC
  have hltE := h.ltE
  have hne := h.ne
  have hbk := h.blk
  have hown := h.own
  have HO : Hid (w.ownsRow 0 3 1 (.slice (some ⟨E, 0, none⟩) xs.length cap) xs.length (xs.map (Value.int .i64))) := hown
  have hownA : (w.alloc (.cells #[.int .i64 x] 3)).ownsRow 0 3 1 (.slice (some ⟨E, 0, none⟩) xs.length cap) xs.length (xs.map (Value.int .i64)) := hown.alloc _
  have cnew : (w.alloc (.cells #[.int .i64 x] 3)).cell? ⟨w.heap.size, 0, none⟩ = some (.int .i64 x) := by rw [Lib.cell_of_heap (heap_alloc_new w _)]; rfl
  clear h hown
  have fin : ∀ (E' cap' : Nat) (w2 : World), w2.ownsRow 0 3 1 (.slice (some ⟨E', 0, none⟩) (xs.length + 1) cap') (xs.length + 1) (xs.map (Value.int .i64) ++ [.int .i64 x]) → (w.alloc (.cells #[.int .i64 x] 3)).grownBy w2 (some E) → (xs.length + 1 ≤ cap → E' = E ∧ cap' = cap) → (E' = E ∨ w.heap.size ≤ E') →
      w2.cell? ⟨C, 2, none⟩ = some (.slice (some ⟨E, 0, none⟩) xs.length cap) ∧ w2.frozen? ⟨C, 2, none⟩ = false ∧ Pushed w (w2.setCell ⟨C, 2, none⟩ (.slice (some ⟨E', 0, none⟩) (xs.length + 1) cap')) C E cap s q (xs ++ [x]) xs.length := by
    intro E' cap' w2 ho hg hr he
    have hbC : w2.heap[C]? = some (.cells #[.string s, .int .i64 q.1, .slice (some ⟨E, 0, none⟩) xs.length cap, .bool q.2] 62 (0, 0)) := by
      refine (hg.block C (by simp; omega) (fun e => hne (Option.some.inj e))).trans ?_
      rw [heap_alloc_old w _ hltC]; exact hbk
    have hCE' : E' ≠ C := by
      rintro rfl
      rcases he with e | e
      · exact hne e
      · omega
    refine ⟨by rw [Lib.cell_of_heap hbC]; rfl, Lib.frozen_of_heap hbC 2, E', cap', ⟨by rw [set_blk hbC]; simp, ?_⟩, ?_, hr, he, ?_⟩
    · have e1 : (xs ++ [x]).length = xs.length + 1 := by simp
      rw [e1, List.map_append]
      exact ownsRow_keep ho fun b hv => by cases hv; exact Below.heap_setCell _ _ _ _ hCE'
    · have hz := hg.size
      simp at hz
      refine Kc.setCell (show Kc C E w w2 from ⟨hg.os, hg.tape, hg.output, by omega, fun k hk h1 h2 => ?_⟩) 2 _
      exact (hg.block k (by simp; omega) (fun e => h2 (Option.some.inj e))).trans (heap_alloc_old w _ hk)
    · rcases ho.2 with ⟨h0, _⟩ | ⟨g, c, cur, hv, _, hc, h2, _⟩
      · cases h0
      · injection hv with _ _ e3
        subst e3
        exact h2
  have HF : Hid (∀ (E' cap' : Nat) (w2 : World), w2.ownsRow 0 3 1 (.slice (some ⟨E', 0, none⟩) (xs.length + 1) cap') (xs.length + 1) (xs.map (Value.int .i64) ++ [.int .i64 x]) → (w.alloc (.cells #[.int .i64 x] 3)).grownBy w2 (some E) → (xs.length + 1 ≤ cap → E' = E ∧ cap' = cap) → (E' = E ∨ w.heap.size ≤ E') →
      w2.cell? ⟨C, 2, none⟩ = some (.slice (some ⟨E, 0, none⟩) xs.length cap) ∧ w2.frozen? ⟨C, 2, none⟩ = false ∧ Pushed w (w2.setCell ⟨C, 2, none⟩ (.slice (some ⟨E', 0, none⟩) (xs.length + 1) cap')) C E cap s q (xs ++ [x]) xs.length) := fin
  clear fin hbk
  by_cases hroom : xs.length + 1 ≤ cap
  · go_enter Tryz.func67, Tryz.ntmps67
    go_wp2_with (at_builtin; refine wpList_append_in rfl _ _ 58 rfl Tryz.underlying58 hi hz1 rfl hownA ⟨w.heap.size, 0, none⟩ 1 (.int .i64 x) rfl cnew rfl hroom ?_)
    intro w2 ho2 hg2
    obtain ⟨d2, f2, hP⟩ := HF.out E cap w2 ho2 hg2 (fun _ => ⟨rfl, rfl⟩) (.inl rfl)
    have HP : Hid (Pushed w (w2.setCell ⟨C, 2, none⟩ (.slice (some ⟨E, 0, none⟩) (xs.length + 1) cap)) C E cap s q (xs ++ [x]) xs.length) := hP
    clear hP ho2 hg2 hownA cnew
    go_wp2
    go_end0
    exact ⟨rfl, HP.out⟩
  · go_enter Tryz.func67, Tryz.ntmps67
    go_wp2_with (at_builtin; refine wpList_append_own_at _ rfl _ _ 58 rfl 0 3 i0 (.int .i64 0) 1 8 Tryz.underlying58 hi hz0 hz1 hz2 rfl (by decide) _ _ _ rfl hownA ⟨w.heap.size, 0, none⟩ 1 1 [.int .i64 x] rfl (by simp) (cell_one_new _ _ _) ?c2 ?c3 ?c4 ?c5 ?_)
    case c2 => intro y hy; rcases List.mem_singleton.1 hy with rfl; rfl
    case c3 => unfold maxLen; omega
    case c4 => omega
    case c5 => omega
    intro v' w2 hown' hgrow _ hat
    have hs : ∃ E' cap', v' = .slice (some ⟨E', 0, none⟩) (xs.length + 1) cap' := by
      rcases hown'.2 with ⟨_, h0⟩ | ⟨g, cap', cur, hv, _⟩
      · omega
      · exact ⟨g, cap', hv⟩
    obtain ⟨E', cap', rfl⟩ := hs
    obtain ⟨d2, f2, hP⟩ := HF.out E' cap' w2 hown' hgrow (fun hh => absurd hh hroom) (by
      rcases hat with e | e
      · left; simpa [Value.ownBlock] using e
      · right; have := Option.some.inj e; simp at this; omega)
    have HP : Hid (Pushed w (w2.setCell ⟨C, 2, none⟩ (.slice (some ⟨E', 0, none⟩) (xs.length + 1) cap')) C E cap s q (xs ++ [x]) xs.length) := hP
    clear hP hown' hgrow hownA cnew hat
    go_wp2
    go_end0
    exact ⟨rfl, HP.out⟩
end Go.Proofs.YtlobjpdkjlmglaaGreat
/- Own text. The contract of numberOf at few bytes. -/
namespace Go.Proofs.YtlobjpdkjlmglaaGreat
open Go.RowKit
set_option linter.unusedVariables false
set_option maxHeartbeats 1000000 in
theorem numberOf_le (s : ByteArray) (w : World) (hl1 : s.size ≤ 7) :
    Calls Tryz.prog 101 #[.string s] w fun e w' => e = .returned (.int .i64 (be s.data.toList)) ∧ w' = w := by
  have hbd : Hid (wrap64 (be s.data.toList) = be s.data.toList) := by
    have := be_bd7 s.data.toList (by simpa using hl1)
    show _ = _
    unfold wrap64; omega
  go_enter Tryz.func101, Tryz.ntmps101
  go_wp2
  go_loop [3, 4] (fun u i => ∃ k : Nat, k ≤ s.size ∧ i = .int .i64 k ∧ u = .int .u64 (be (s.data.toList.take k))) (fun _ i => s.size - (intOf i).toNat)
  case atStart => exact ⟨0, Nat.zero_le _, rfl, rfl⟩
  case round =>
    obtain ⟨k, hk, rfl, rfl⟩ := hrel
    by_cases hlt : k < s.size
    · have hb : Hid (bits BinOp.or IntKind.u64 (IntKind.u64.wrap (be (s.data.toList.take k) * 256)) (IntKind.u64.wrap s[k].toNat) = be (s.data.toList.take (k + 1))) := by
        have hb := be_bd7 (s.data.toList.take k) (by rw [List.length_take]; omega)
        show _ = _
        rw [or_byte _ _ hb.1 hb.2, take_snoc s k hlt, be_snoc]
      go_wp2
      exact ⟨⟨k + 1, by omega, by go_num, by rw [hb.out]⟩, by simp [intOf]; omega⟩
    · have hfin : Hid (s.data.toList.take k = s.data.toList) := List.take_of_length_le (by simp; omega)
      go_wp2
      go_returns
      exact ⟨ret_int (by rw [hfin.out]; exact hbd.out), rfl⟩
end Go.Proofs.YtlobjpdkjlmglaaGreat
/- Own text. The cutter's methods: pop, leave, enter, take, number, text. -/
namespace Go.Proofs.YtlobjpdkjlmglaaGreat
open Go.RowKit Go.Deep
set_option linter.unusedVariables false
set_option maxHeartbeats 2000000 in
set_option maxRecDepth 100000 in
theorem pop_any (C E cap : Nat) (s : ByteArray) (q : Nat × Bool) (xs : List Int) (x : Int) (w : World) (h : Ct w C E cap s q (xs ++ [x])) :
    Calls Tryz.prog 116 #[.pointer (some ⟨C, 2, none⟩)] w fun e w' => e = .returned (.int .i64 x) ∧ Ct w' C E cap s q xs ∧ Kc C E w w' := by
  go_enter Tryz.func116, Tryz.ntmps116
  go_wp2_with fail
  refine Calls.mono (top_any C E cap s q xs x w h) ?_
  rintro e w1 ⟨rfl, m, rfl⟩
  have hA := h.drewN m
  have hK : Kc C E w (w.drewN m) := (Kc.refl C E w).drewN m
  have hcap := h.room
  generalize w.drewN m = w1 at *
  obtain ⟨_, _, c2, _, hf⟩ := hA.cells
  have f2 := hf 2
  unfold maxLen at hcap
  simp only [List.length_append, List.length_cons, List.length_nil, Nat.zero_add] at c2 hcap
  have HC : Hid (∀ k : Nat, Ct ((w1.drewN k).setCell ⟨C, 2, none⟩ (.slice (some ⟨E, 0, none⟩) xs.length cap)) C E cap s q xs ∧ Kc C E w ((w1.drewN k).setCell ⟨C, 2, none⟩ (.slice (some ⟨E, 0, none⟩) xs.length cap))) := fun k =>
    ⟨(hA.drewN k).pop, (hK.drewN k).setCell 2 _⟩
  clear hA h hf
  generalize xs.length = n at *
  go_wp2_with fail
  go_region
  all_goals go_wp2
  all_goals go_returns
  all_goals exact ⟨rfl, HC.out _⟩
set_option maxHeartbeats 2000000 in
set_option maxRecDepth 100000 in
theorem leave_any (C E cap : Nat) (s : ByteArray) (q : Nat × Bool) (xs : List Int) (x : Nat) (w : World) (h : Ct w C E cap s q (xs ++ [(x : Int)])) :
    Calls Tryz.prog 80 #[.pointer (some ⟨C, 0, none⟩)] w fun e w' => e = .returned (.tuple #[]) ∧ Ct w' C E cap s (q.1, q.2 || !(q.1 == x)) xs ∧ Kc C E w w' := by
  go_enter Tryz.func80, Tryz.ntmps80
  go_wp2_with fail
  refine Calls.mono (pop_any C E cap s q xs x w h) ?_
  rintro e w1 ⟨rfl, hA, hK⟩
  obtain ⟨_, c1, _, c3, hf⟩ := hA.cells
  have f3 := hf 3
  have HC : Hid (∀ b : Bool, Ct (w1.setCell ⟨C, 3, none⟩ (.bool b)) C E cap s (q.1, b) xs ∧ Kc C E w (w1.setCell ⟨C, 3, none⟩ (.bool b))) := fun b => ⟨hA.torn b, hK.setCell 3 _⟩
  clear hA hK h hf
  obtain ⟨a, t⟩ := q
  dsimp only at c1 c3 HC ⊢
  cases t
  · by_cases hx : a = x
    · have hb : (((a : Nat) : Int) == ((x : Nat) : Int)) = true := by simp [hx]
      have hb2 : (((a : Nat) : Int) != ((x : Nat) : Int)) = false := by simp [hx]
      have e0 : Hid ((false || !(a == x)) = false) := by simp [Hid, hx]
      clear hx
      go_wp2
      go_end0
      exact ⟨rfl, by have e1 := e0.out; rw [Bool.false_or] at e1; rw [e1]; exact HC.out false⟩
    · have hb : (((a : Nat) : Int) == ((x : Nat) : Int)) = false := by simp; omega
      have hb2 : (((a : Nat) : Int) != ((x : Nat) : Int)) = true := by simp; omega
      have e0 : Hid ((false || !(a == x)) = true) := by simp [Hid, hx]
      clear hx
      go_wp2
      go_end0
      exact ⟨rfl, by have e1 := e0.out; rw [Bool.false_or] at e1; rw [e1]; exact HC.out true⟩
  · have e0 : Hid ((true || !(a == x)) = true) := Bool.true_or _
    go_wp2
    go_end0
    exact ⟨rfl, HC.out true⟩
end Go.Proofs.YtlobjpdkjlmglaaGreat
/- Own text. The cutter's method enter. -/
namespace Go.Proofs.YtlobjpdkjlmglaaGreat
open Go.RowKit Go.Deep
set_option linter.unusedVariables false
theorem Pushed.c1 {w w' : World} {C E cap n : Nat} {s : ByteArray} {q : Nat × Bool} {xs : List Int} (h : Pushed w w' C E cap s q xs n) : w'.cell? ⟨C, 1, none⟩ = some (.int .i64 q.1) := by
  obtain ⟨_, _, h, _⟩ := h
  exact h.cells.2.1
/-- what enter makes of the cutter's state, and the end that it lays on top. -/
def enQ (e : Nat) (n : Nat) (q : Nat × Bool) : Nat × Bool := if q.1 + n ≤ e then q else (q.1, true)
def enX (e : Nat) (n : Nat) (q : Nat × Bool) : Nat := if q.1 + n ≤ e then q.1 + n else q.1
set_option maxHeartbeats 2000000 in
set_option maxRecDepth 100000 in
theorem enter_any (C E cap : Nat) (s : ByteArray) (q : Nat × Bool) (xs : List Int) (e n : Nat) (w : World) (h : Ct w C E cap s q (xs ++ [(e : Int)])) (hq : q.1 ≤ e) (he : e ≤ s.size) (hn : n ≤ 4294967296) (hs : s.size ≤ 1048576) (hl : xs.length ≤ 10000) :
    Calls Tryz.prog 69 #[.pointer (some ⟨C, 0, none⟩), .int .i64 n] w fun r w' => r = .returned (.tuple #[]) ∧ Pushed w w' C E cap s (enQ e n q) (xs ++ [(e : Int)] ++ [(enX e n q : Int)]) (xs.length + 1) := by
  go_enter Tryz.func69, Tryz.ntmps69
  go_wp2_with fail
  refine Calls.mono (left_any C E cap s q xs e w h hq he) ?_
  rintro r w1 ⟨rfl, m, rfl⟩
  have hsz : ((s.extract q.1 e).size : Int) = (e : Int) - (q.1 : Int) := by rw [ByteArray.size_extract]; omega
  have hln : (xs ++ [(e : Int)]).length = xs.length + 1 := by simp
  have hA := h.drewN m
  have hK : Kc C E w (w.drewN m) := (Kc.refl C E w).drewN m
  generalize w.drewN m = w1 at *
  by_cases hle : q.1 + n ≤ e
  · have hcmp : ¬ ((e : Int) - (q.1 : Int) < (n : Int)) := by omega
    obtain ⟨y, HY⟩ : ∃ y : Int, Hid (y = ((q.1 + n : Nat) : Int)) := ⟨_, rfl⟩
    have hw : IntKind.i64.wrap ((q.1 : Int) + (n : Int)) = y := by rw [HY.out, IntKind.wrap_i64]; omega
    have hQ : Hid (enQ e n q = q) := by show _ = _; unfold enQ; rw [if_pos hle]
    have hX : Hid (enX e n q = q.1 + n) := by show _ = _; unfold enX; rw [if_pos hle]
    obtain ⟨_, c1, _, _, _⟩ := hA.cells
    have HP : Hid (∀ wz : World, Ct wz C E cap s q (xs ++ [(e : Int)]) → Kc C E w wz → Calls Tryz.prog 67 #[.pointer (some ⟨C, 2, none⟩), .int .i64 y] wz fun r w' => r = .returned (.tuple #[]) ∧ Pushed w w' C E cap s q (xs ++ [(e : Int)] ++ [y]) (xs.length + 1)) := by
      intro wz hz hkz
      refine Calls.mono (push_any C E cap s q (xs ++ [(e : Int)]) _ wz hz (by rw [hln]; omega)) ?_
      rintro r w' ⟨rfl, E', cap', hC, hk2, hr, hE, hn⟩
      rw [hln] at hr hn
      exact ⟨rfl, E', cap', hC, hkz.trans hk2 (.inl rfl), hr, hE.elim .inl (fun hh => .inr (Nat.le_trans hkz.size hh)), hn⟩
    have HA : Hid (Ct w1 C E cap s q (xs ++ [(e : Int)])) := hA
    have HK : Hid (Kc C E w w1) := hK
    clear hA hK h hle hln
    obtain ⟨a, t⟩ := q
    dsimp only at hsz c1 HP HA hw hcmp hQ hX HY
    go_wp2_with fail
    go_region_held3 (fun w' => w'.cell? ⟨C, 1, none⟩ = some (.int .i64 a)) (first | (with_reducible assumption) | (go_simp; done)) (first | (go_at_call 67; (try rw [hw]); with_reducible refine Calls.mono (HP.out _ (HA.out.below (by repeat (first | (with_reducible exact Below.refl _ _) | (with_reducible refine Below.drew ?_) | (with_reducible refine Below.alloc ?_ ?hh _; case hh => first | (simp; done) | (simp; omega) | omega) | (with_reducible refine Below.setCell ?_ ?hh _; case hh => first | (simp; done) | (simp; omega) | omega) | refine bstep (by assumption) (by first | (simp; done) | (simp; omega) | omega) ?_))) (HK.out.trans (Kc.of_below (by repeat (first | (with_reducible exact Below.refl _ _) | (with_reducible refine Below.drew ?_) | (with_reducible refine Below.alloc ?_ ?hh _; case hh => first | (simp; done) | (simp; omega) | omega) | (with_reducible refine Below.setCell ?_ ?hh _; case hh => first | (simp; done) | (simp; omega) | omega) | refine bstep (by assumption) (by first | (simp; done) | (simp; omega) | omega) ?_))) (.inl rfl))) ?_; rintro r w2 ⟨rfl, hPu⟩; have s1 := hPu.c1; dsimp only at s1) | fail)
    all_goals go_wp2
    all_goals go_end0
    all_goals exact ⟨rfl, by rw [hQ.out, hX.out, ← HY.out]; exact hPu⟩
  · have hcmp : ((e : Int) - (q.1 : Int) < (n : Int)) := by omega
    have hw : IntKind.i64.wrap ((q.1 : Int) + 0) = (q.1 : Int) := by rw [IntKind.wrap_i64]; omega
    have hw' : IntKind.i64.wrap (q.1 : Int) = (q.1 : Int) := by rw [IntKind.wrap_i64]; omega
    have hQ : Hid (enQ e n q = (q.1, true)) := by show _ = _; unfold enQ; rw [if_neg hle]
    have hX : Hid (enX e n q = q.1) := by show _ = _; unfold enX; rw [if_neg hle]
    obtain ⟨_, _, _, c3, hf⟩ := hA.cells
    have f3 := hf 3
    have hB := hA.torn true
    obtain ⟨_, c1, _, _, _⟩ := hB.cells
    have HP : Hid (∀ wz : World, Ct wz C E cap s (q.1, true) (xs ++ [(e : Int)]) → Kc C E w wz → Calls Tryz.prog 67 #[.pointer (some ⟨C, 2, none⟩), .int .i64 (q.1 : Int)] wz fun r w' => r = .returned (.tuple #[]) ∧ Pushed w w' C E cap s (q.1, true) (xs ++ [(e : Int)] ++ [(q.1 : Int)]) (xs.length + 1)) := by
      intro wz hz hkz
      refine Calls.mono (push_any C E cap s (q.1, true) (xs ++ [(e : Int)]) _ wz hz (by rw [hln]; omega)) ?_
      rintro r w' ⟨rfl, E', cap', hC, hk2, hr, hE, hn⟩
      rw [hln] at hr hn
      exact ⟨rfl, E', cap', hC, hkz.trans hk2 (.inl rfl), hr, hE.elim .inl (fun hh => .inr (Nat.le_trans hkz.size hh)), hn⟩
    have HA : Hid (Ct (w1.setCell ⟨C, 3, none⟩ (.bool true)) C E cap s (q.1, true) (xs ++ [(e : Int)])) := hB
    have HK : Hid (Kc C E w (w1.setCell ⟨C, 3, none⟩ (.bool true))) := hK.setCell 3 _
    clear hA hK h hle hln hB hf
    obtain ⟨a, t⟩ := q
    dsimp only at hsz c1 HP HA hw hw' hcmp hQ hX
    go_upto_region 3 with fail
    generalize w1.setCell ⟨C, 3, none⟩ (.bool true) = w2 at *
    go_region_held3 (fun w' => w'.cell? ⟨C, 1, none⟩ = some (.int .i64 a)) (first | (with_reducible assumption) | (go_simp; done)) (first | (go_at_call 67; (try rw [hw]); with_reducible refine Calls.mono (HP.out _ (HA.out.below (by repeat (first | (with_reducible exact Below.refl _ _) | (with_reducible refine Below.drew ?_) | (with_reducible refine Below.alloc ?_ ?hh _; case hh => first | (simp; done) | (simp; omega) | omega) | (with_reducible refine Below.setCell ?_ ?hh _; case hh => first | (simp; done) | (simp; omega) | omega) | refine bstep (by assumption) (by first | (simp; done) | (simp; omega) | omega) ?_))) (HK.out.trans (Kc.of_below (by repeat (first | (with_reducible exact Below.refl _ _) | (with_reducible refine Below.drew ?_) | (with_reducible refine Below.alloc ?_ ?hh _; case hh => first | (simp; done) | (simp; omega) | omega) | (with_reducible refine Below.setCell ?_ ?hh _; case hh => first | (simp; done) | (simp; omega) | omega) | refine bstep (by assumption) (by first | (simp; done) | (simp; omega) | omega) ?_))) (.inl rfl))) ?_; rintro r w2 ⟨rfl, hPu⟩; have s1 := hPu.c1; dsimp only at s1) | fail)
    all_goals go_wp2
    all_goals go_end0
    all_goals exact ⟨rfl, by rw [hQ.out, hX.out]; exact hPu⟩
end Go.Proofs.YtlobjpdkjlmglaaGreat
/- Own text. The cutter's methods take, number and text: they answer tk, nm and tx. -/
namespace Go.Proofs.YtlobjpdkjlmglaaGreat
open Go.RowKit Go.Deep
set_option linter.unusedVariables false
/-- what a method that reads leaves: the ends stay, with room for one more. -/
def Took (w w' : World) (C E cap : Nat) (s : ByteArray) (q : Nat × Bool) (xs : List Int) : Prop := ∃ E' cap', Ct w' C E' cap' s q xs ∧ Kc C E w w' ∧ (xs.length + 1 ≤ cap → E' = E ∧ cap' = cap) ∧ (E' = E ∨ w.heap.size ≤ E') ∧ xs.length + 1 ≤ cap'
theorem Took.room {w w' : World} {C E cap : Nat} {s : ByteArray} {q : Nat × Bool} {xs : List Int} (h : Took w w' C E cap s q xs) (hr : xs.length + 1 ≤ cap) : Ct w' C E cap s q xs ∧ Kc C E w w' := by
  obtain ⟨E', cap', h1, h2, h3, _⟩ := h
  obtain ⟨rfl, rfl⟩ := h3 hr
  exact ⟨h1, h2⟩
theorem tk_en {s : ByteArray} {e n : Nat} {q : Nat × Bool} : (s.extract (enQ e n q).1 (enX e n q)) = (tk s e n q).1 ∧ (tk s e n q).2 = (enX e n q, (enQ e n q).2) ∧ (enQ e n q).1 = q.1 := by
  unfold enQ enX tk
  split
  · exact ⟨rfl, rfl, rfl⟩
  · refine ⟨?_, rfl, rfl⟩
    apply ByteArray.ext
    simp [ByteArray.extract, ByteArray.copySlice]
    omega
set_option maxHeartbeats 4000000 in
set_option maxRecDepth 100000 in
theorem take_any (C E cap : Nat) (s : ByteArray) (q : Nat × Bool) (xs : List Int) (e n : Nat) (w : World) (h : Ct w C E cap s q (xs ++ [(e : Int)])) (hq : q.1 ≤ e) (he : e ≤ s.size) (hn : n ≤ 4294967296) (hs : s.size ≤ 1048576) (hl : xs.length ≤ 10000) :
    Calls Tryz.prog 102 #[.pointer (some ⟨C, 0, none⟩), .int .i64 n] w fun r w' => r = .returned (.string (tk s e n q).1) ∧ Took w w' C E cap s (tk s e n q).2 (xs ++ [(e : Int)]) := by
  obtain ⟨t1, t2, t3⟩ := tk_en (s := s) (e := e) (n := n) (q := q)
  have hXe : enX e n q ≤ e := by unfold enX; split <;> omega
  have hqX : q.1 ≤ enX e n q := by unfold enX; split <;> omega
  have hln : (xs ++ [(e : Int)]).length = xs.length + 1 := by simp
  have hsz : ((tk s e n q).1.size : Int) = (enX e n q : Int) - (q.1 : Int) := by rw [← t1, ByteArray.size_extract, t3]; omega
  have hqs : q.1 ≤ 1048576 := by omega
  have hw : IntKind.i64.wrap ((q.1 : Int) + ((tk s e n q).1.size : Int)) = (enX e n q : Int) := by rw [hsz, IntKind.wrap_i64]; omega
  rw [t2]
  go_enter Tryz.func102, Tryz.ntmps102
  go_wp2_with fail
  refine Calls.mono (enter_any C E cap s q xs e n w h hq he hn hs hl) ?_
  rintro r w1 ⟨rfl, E', cap', hC1, hK1, hr, hE, hn1⟩
  go_wp2_with fail
  refine Calls.mono (left_any C E' cap' s (enQ e n q) (xs ++ [(e : Int)]) (enX e n q) w1 hC1 (by rw [t3]; exact hqX) (by omega)) ?_
  rintro r w2 ⟨rfl, m, rfl⟩
  rw [t1]
  have hC2 := hC1.drewN m
  have hK2 := hK1.drewN m
  generalize w1.drewN m = w2 at *
  obtain ⟨_, c1, _, _, hf⟩ := hC2.cells
  rw [t3] at c1
  have f1 := hf 1
  have hC3 := hC2.at (enX e n q)
  have hK3 := hK2.setCell 1 (.int .i64 (enX e n q))
  have HL : Hid (∀ wz : World, wz = w2.setCell ⟨C, 1, none⟩ (.int .i64 (enX e n q)) → Calls Tryz.prog 80 #[.pointer (some ⟨C, 0, none⟩)] wz fun r w' => r = .returned (.tuple #[]) ∧ Took w w' C E cap s (enX e n q, (enQ e n q).2) (xs ++ [(e : Int)])) := by
    rintro wz rfl
    refine Calls.mono (leave_any C E' cap' s _ (xs ++ [(e : Int)]) (enX e n q) _ hC3) ?_
    rintro r w' ⟨rfl, hC4, hK4⟩
    refine ⟨rfl, E', cap', hC4.eqQ (by simp), hK3.trans hK4 hE, ?_, hE, ?_⟩
    · rw [hln]; exact hr
    · rw [hln]; exact hn1
  generalize hx : enX e n q = X at *
  generalize ht : (tk s e n q).1 = T at *
  clear hC1 hK1 hC2 hK2 hC3 hK3 hf h t1 t2
  generalize hq1 : q.1 = a at *
  go_wp2_with fail
  (try rw [hw])
  refine Calls.mono (HL.out _ (by congr 2; omega)) ?_
  rintro r w3 ⟨rfl, hT⟩
  go_wp2
  go_returns
  subst hx ht
  exact ⟨rfl, hT⟩
set_option maxHeartbeats 4000000 in
set_option maxRecDepth 100000 in
theorem cnum_any (C E cap : Nat) (s : ByteArray) (q : Nat × Bool) (xs : List Int) (e k : Nat) (w : World) (h : Ct w C E cap s q (xs ++ [(e : Int)])) (hq : q.1 ≤ e) (he : e ≤ s.size) (hk : k ≤ 4) (hs : s.size ≤ 1048576) (hl : xs.length ≤ 10000) :
    Calls Tryz.prog 68 #[.pointer (some ⟨C, 0, none⟩), .int .i64 k] w fun r w' => r = .returned (.int .i64 (nm s e k q).1) ∧ Took w w' C E cap s (nm s e k q).2 (xs ++ [(e : Int)]) := by
  have hsz : (tk s e k q).1.size ≤ 7 := Nat.le_trans (tk_le he hq) (by omega)
  go_enter Tryz.func68, Tryz.ntmps68
  go_wp2_with fail
  refine Calls.mono (take_any C E cap s q xs e k w h hq he (by omega) hs hl) ?_
  rintro r w1 ⟨rfl, hT⟩
  have HT : Hid (Took w w1 C E cap s (tk s e k q).2 (xs ++ [(e : Int)])) := hT
  clear hT h
  go_wp2_with fail
  refine Calls.mono (numberOf_le _ w1 hsz) ?_
  rintro r w2 ⟨rfl, hw2⟩
  obtain rfl : w1 = w2 := hw2.symm
  go_wp2
  go_returns
  exact ⟨rfl, HT.out⟩
set_option maxHeartbeats 4000000 in
set_option maxRecDepth 100000 in
theorem ctext_any (C E cap : Nat) (s : ByteArray) (q : Nat × Bool) (xs : List Int) (e : Nat) (w : World) (h : Ct w C E cap s q (xs ++ [(e : Int)])) (hr : xs.length + 2 ≤ cap) (hq : q.1 ≤ e) (he : e ≤ s.size) (hs : s.size ≤ 1048576) (hl : xs.length ≤ 10000) :
    Calls Tryz.prog 76 #[.pointer (some ⟨C, 0, none⟩)] w fun r w' => r = .returned (.string (tx s e 2 q).1) ∧ Ct w' C E cap s (tx s e 2 q).2 (xs ++ [(e : Int)]) ∧ Kc C E w w' := by
  have hln : (xs ++ [(e : Int)]).length + 1 ≤ cap := by simp; omega
  have hbd := nm_bd (s := s) (k := 2) he hq (by omega)
  have hn : (nm s e 2 q).1 = ((nm s e 2 q).1.toNat : Int) := by omega
  have hsz : (tx s e 2 q).1.size ≤ 1048576 := Nat.le_trans (tk_size he (nm_at hq)) hs
  have HX : Hid (tk s e (nm s e 2 q).1.toNat (nm s e 2 q).2 = tx s e 2 q) := rfl
  go_enter Tryz.func76, Tryz.ntmps76
  go_wp2_with fail
  refine Calls.mono (cnum_any C E cap s q xs e 2 w h hq he (by omega) hs hl) ?_
  rintro r w1 ⟨rfl, hT⟩
  obtain ⟨hC1, hK1⟩ := hT.room hln
  rw [hn]
  have hq1 : (nm s e 2 q).2.1 ≤ e := nm_at hq
  have hm : (nm s e 2 q).1.toNat ≤ 4294967296 := by omega
  clear hn
  generalize hN : (nm s e 2 q).1.toNat = n at *
  generalize hQ : (nm s e 2 q).2 = q1 at *
  go_wp2_with fail
  refine Calls.mono (take_any C E cap s q1 xs e n w1 hC1 hq1 he hm hs hl) ?_
  rintro r w2 ⟨rfl, hT2⟩
  obtain ⟨hC2, hK2⟩ := hT2.room hln
  rw [HX.out] at hC2 ⊢
  have HC : Hid (Ct w2 C E cap s (tx s e 2 q).2 (xs ++ [(e : Int)])) := hC2
  have HK : Hid (Kc C E w w2) := hK1.trans hK2 (.inl rfl)
  clear hT hT2 hC1 hC2 hK1 hK2 h
  generalize hT : (tx s e 2 q).1 = T at *
  go_wp2_with fail
  refine Calls.mono (clone_any T w2 (by omega)) ?_
  rintro r w3 ⟨rfl, hb3⟩
  have HC3 : Hid (Ct w3 C E cap s (tx s e 2 q).2 (xs ++ [(e : Int)])) := HC.out.below hb3
  have HK3 : Hid (Kc C E w w3) := HK.out.trans (Kc.of_below hb3) (.inl rfl)
  clear hb3
  go_wp2
  go_returns
  subst hT
  exact ⟨rfl, HC3.out, HK3.out⟩
end Go.Proofs.YtlobjpdkjlmglaaGreat
/- Own text. The model's l10Num and l10Get: they read what the cutter reads, where it is not torn. -/
namespace Go.Proofs.YtlobjpdkjlmglaaGreat
open Go.RowKit Go.Deep
set_option linter.unusedVariables false
/-- a place of the model: -1 where it is torn. -/
def ps (q : Nat × Bool) : Int := if q.2 = true then -1 else q.1
def gnV (s : ByteArray) (k : Nat) (q : Nat × Bool) : Int := if (nm s s.size k q).2.2 = true then 0 else (nm s s.size k q).1
def gtV (s : ByteArray) (k : Nat) (q : Nat × Bool) : ByteArray := if (tx s s.size k q).2.2 = true then ⟨#[]⟩ else (tx s s.size k q).1
theorem ps_lt {q : Nat × Bool} (h : q.2 = true) : ps q = -1 := by unfold ps; rw [if_pos h]
theorem ps_ge {q : Nat × Bool} (h : q.2 = false) : ps q = q.1 := by unfold ps; rw [if_neg (by rw [h]; decide)]
theorem nm_torn' {s : ByteArray} {e k : Nat} {q : Nat × Bool} (h : q.2 = true) : (nm s e k q).2.2 = true := by
  cases hx : (nm s e k q).2.2 with
  | true => rfl
  | false => have := nm_torn hx; rw [h] at this; cases this
theorem tx_torn' {s : ByteArray} {e k : Nat} {q : Nat × Bool} (h : q.2 = true) : (tx s e k q).2.2 = true := by
  cases hx : (tx s e k q).2.2 with
  | true => rfl
  | false => have := (tx_torn hx).2; rw [h] at this; cases this
theorem be_take {s : ByteArray} {a n : Nat} (h : a + n ≤ s.size) : be (s.extract a (a + n)).data.toList = be ((s.data.toList.drop a).take n) := by
  rw [extract_list, show a + n - a = n by omega]
set_option maxHeartbeats 1000000 in
set_option maxRecDepth 100000 in
theorem l10Num_any (s : ByteArray) (q : Nat × Bool) (k : Nat) (w : World) (hq : q.1 ≤ s.size) (hs : s.size ≤ 1048576) (hk : k ≤ 4) :
    Calls Tryz.prog 33 #[.string s, .int .i64 (ps q), .int .i64 k] w fun e w' => e = .returned (.tuple #[.int .i64 (gnV s k q), .int .i64 (ps (nm s s.size k q).2)]) ∧ w' = w := by
  cases ht : q.2
  · rw [ps_ge ht]
    by_cases hle : q.1 + k ≤ s.size
    · have hT : (tk s s.size k q).2 = (q.1 + k, false) := by unfold tk; rw [if_pos hle, ht]
      have hV : (tk s s.size k q).1 = s.extract q.1 (q.1 + k) := by unfold tk; rw [if_pos hle]
      have e1 : gnV s k q = be ((s.data.toList.drop q.1).take k) := by unfold gnV nm beT; dsimp only; rw [hT, hV, be_take hle]; rfl
      have e2 : ps (nm s s.size k q).2 = ((q.1 + k : Nat) : Int) := by unfold nm; dsimp only; rw [hT]; rfl
      rw [e1, e2]
      generalize q.1 = a at *
      clear e1 e2 hT hV
      have hcmp : ¬ ((s.size : Int) - (a : Int) < (k : Int)) := by omega
      have hneg : ¬ ((a : Int) < 0) := by omega
      have hw2 : wrap64 ((a : Int) + (k : Int)) = ((a + k : Nat) : Int) := by unfold wrap64; omega
      have hk7 : k ≤ 7 := by omega
      go_enter Tryz.func33, Tryz.ntmps33
      go_wp2_with fail
      go_loop [8, 9] (fun x i => ∃ j : Nat, j ≤ k ∧ i = .int .i64 j ∧ x = .int .i64 (be ((s.data.toList.drop a).take j))) (fun _ i => k - (intOf i).toNat)
      case atStart => exact ⟨0, Nat.zero_le _, rfl, rfl⟩
      case round =>
        obtain ⟨j, hj, rfl, rfl⟩ := hrel
        by_cases hlt : j < k
        · have hb := be_bd7 ((s.data.toList.drop a).take j) (by rw [List.length_take]; omega)
          have hb6 := be_bd_aux _ ((s.data.toList.drop a).take j) rfl
          have hsm : be ((s.data.toList.drop a).take j) < 16777216 := by
            have hl3 : ((s.data.toList.drop a).take j).length ≤ 3 := by rw [List.length_take]; omega
            have h4 : (256 : Int) ^ ((s.data.toList.drop a).take j).length ≤ 16777216 := by
              generalize ((s.data.toList.drop a).take j).length = m at *
              match m, hl3 with
              | 0, _ => decide
              | 1, _ => decide
              | 2, _ => decide
              | 3, _ => decide
            omega
          have hi : a + j < s.size := by omega
          have hstep : Hid (256 * be ((s.data.toList.drop a).take j) + (s[a + j].toNat : Int) = be ((s.data.toList.drop a).take (j + 1))) := by
            show _ = _
            rw [List.take_succ_eq_append_getElem (by simp; omega), be_snoc, List.getElem_drop]
            rfl
          have hbt := s[a + j].toNat_lt
          generalize be ((s.data.toList.drop a).take j) = B at *
          have hw3 : wrap64 (256 * B) = 256 * B := by unfold wrap64; omega
          have hw4 : wrap64 ((a : Int) + (j : Int)) = ((a + j : Nat) : Int) := by unfold wrap64; omega
          go_wp2
          exact ⟨⟨j + 1, by omega, by go_num, by rw [← hstep.out]⟩, by simp [intOf]; omega⟩
        · obtain rfl : j = k := by omega
          go_wp2
          go_returns
          exact ⟨by congr 3, rfl⟩
    · have hT : (nm s s.size k q).2.2 = true := by unfold nm tk; rw [if_neg hle]
      have e1 : gnV s k q = 0 := by unfold gnV; rw [if_pos hT]
      have e2 : ps (nm s s.size k q).2 = -1 := ps_lt hT
      rw [e1, e2]
      generalize q.1 = a at *
      clear e1 e2 hT
      have hcmp : ((s.size : Int) - (a : Int) < (k : Int)) := by omega
      have hneg : ¬ ((a : Int) < 0) := by omega
      go_enter Tryz.func33, Tryz.ntmps33
      go_wp2
      go_returns
      exact ⟨rfl, rfl⟩
  · have hT : (nm s s.size k q).2.2 = true := nm_torn' ht
    have e1 : gnV s k q = 0 := by unfold gnV; rw [if_pos hT]
    have e2 : ps (nm s s.size k q).2 = -1 := ps_lt hT
    rw [e1, e2, ps_lt ht]
    clear e1 e2 hT
    go_enter Tryz.func33, Tryz.ntmps33
    go_wp2
    go_returns
    exact ⟨rfl, rfl⟩
theorem gnV_bd (s : ByteArray) (q : Nat × Bool) (k : Nat) (hq : q.1 ≤ s.size) (hk : k ≤ 4) : 0 ≤ gnV s k q ∧ gnV s k q < 4294967296 := by
  unfold gnV
  split
  · omega
  · exact nm_bd (Nat.le_refl _) hq hk
set_option maxHeartbeats 1000000 in
set_option maxRecDepth 100000 in
theorem l10Get_any (s : ByteArray) (q : Nat × Bool) (k : Nat) (w : World) (hq : q.1 ≤ s.size) (hs : s.size ≤ 1048576) (hk : k ≤ 4) :
    Calls Tryz.prog 40 #[.string s, .int .i64 (ps q), .int .i64 k] w fun e w' => e = .returned (.tuple #[.string (gtV s k q), .int .i64 (ps (tx s s.size k q).2)]) ∧ w' = w := by
  have hbd := gnV_bd s q k hq hk
  have hq1 : (nm s s.size k q).2.1 ≤ s.size := nm_at hq
  cases ht : (nm s s.size k q).2.2
  · have hp : ps (nm s s.size k q).2 = ((nm s s.size k q).2.1 : Int) := ps_ge ht
    have hv : gnV s k q = (nm s s.size k q).1 := by unfold gnV; rw [if_neg (by rw [ht]; decide)]
    by_cases hle : (nm s s.size k q).2.1 + (nm s s.size k q).1.toNat ≤ s.size
    · have e1 : tx s s.size k q = (s.extract (nm s s.size k q).2.1 ((nm s s.size k q).2.1 + (nm s s.size k q).1.toNat), ((nm s s.size k q).2.1 + (nm s s.size k q).1.toNat, false)) := by unfold tx tk; rw [if_pos hle, ht]
      have e2 : gtV s k q = s.extract (nm s s.size k q).2.1 ((nm s s.size k q).2.1 + (nm s s.size k q).1.toNat) := by unfold gtV; rw [e1]; rfl
      have e3 : ps (tx s s.size k q).2 = (((nm s s.size k q).2.1 + (nm s s.size k q).1.toNat : Nat) : Int) := by rw [e1]; rfl
      rw [e2, e3]
      have hn : gnV s k q = ((nm s s.size k q).1.toNat : Int) := by omega
      have hC := l10Num_any s q k w hq hs hk
      rw [hn, hp] at hC
      clear e1 e2 e3 hp hv hn hbd
      generalize (nm s s.size k q).1.toNat = n at *
      generalize (nm s s.size k q).2.1 = a at *
      have hcmp : ¬ ((s.size : Int) - (a : Int) < (n : Int)) := by omega
      have hneg : ¬ ((a : Int) < 0) := by omega
      have hw2 : wrap64 ((a : Int) + (n : Int)) = ((a + n : Nat) : Int) := by unfold wrap64; omega
      go_enter Tryz.func40, Tryz.ntmps40
      go_wp2_with fail
      refine Calls.mono hC ?_
      rintro e w1 ⟨rfl, hw1⟩
      obtain rfl : w = w1 := hw1.symm
      clear hC
      go_wp2
      go_returns
      first | exact ⟨rfl, rfl⟩ | exact ⟨by congr 3, rfl⟩
    · have hT : (tx s s.size k q).2.2 = true := by unfold tx tk; rw [if_neg hle]
      have e2 : gtV s k q = ⟨#[]⟩ := by unfold gtV; rw [if_pos hT]
      rw [e2, ps_lt hT]
      have hn : gnV s k q = ((nm s s.size k q).1.toNat : Int) := by omega
      have hC := l10Num_any s q k w hq hs hk
      rw [hn, hp] at hC
      clear e2 hp hv hn hbd hT
      generalize (nm s s.size k q).1.toNat = n at *
      generalize (nm s s.size k q).2.1 = a at *
      have hcmp : ((s.size : Int) - (a : Int) < (n : Int)) := by omega
      have hneg : ¬ ((a : Int) < 0) := by omega
      go_enter Tryz.func40, Tryz.ntmps40
      go_wp2_with fail
      refine Calls.mono hC ?_
      rintro e w1 ⟨rfl, hw1⟩
      obtain rfl : w = w1 := hw1.symm
      clear hC
      go_wp2
      go_returns
      exact ⟨rfl, rfl⟩
  · have hT : (tx s s.size k q).2.2 = true := by
      cases hx : (tx s s.size k q).2.2 with
      | true => rfl
      | false => have := (tx_torn hx).1; rw [ht] at this; cases this
    have e2 : gtV s k q = ⟨#[]⟩ := by unfold gtV; rw [if_pos hT]
    rw [e2, ps_lt hT]
    have hn : gnV s k q = 0 := by unfold gnV; rw [if_pos ht]
    have hC := l10Num_any s q k w hq hs hk
    rw [hn, ps_lt ht] at hC
    clear e2 hn hbd hT
    go_enter Tryz.func40, Tryz.ntmps40
    go_wp2_with fail
    refine Calls.mono hC ?_
    rintro e w1 ⟨rfl, hw1⟩
    obtain rfl : w = w1 := hw1.symm
    clear hC
    go_wp2
    go_returns
    exact ⟨rfl, rfl⟩
end Go.Proofs.YtlobjpdkjlmglaaGreat
/- Own text. The contracts of both Sum: they answer sumB, and turn nothing. -/
namespace Go.Proofs.YtlobjpdkjlmglaaGreat
open Go.RowKit
set_option linter.unusedVariables false
/-- a sum, and one byte more. -/
def smix (x c : Int) : Int := bits .xor .u32 x c * 16777619 % 4294967296
theorem smix_bd (x c : Int) : 0 ≤ smix x c ∧ smix x c < 4294967296 := by unfold smix; omega
/-- the sum of the first n bytes. -/
def sumN (s : ByteArray) : Nat → Int
  | 0 => 2166136261
  | n + 1 => smix (sumN s n) (if h : n < s.size then s[n].toNat else 0)
theorem sumN_bd (s : ByteArray) (n : Nat) : 0 ≤ sumN s n ∧ sumN s n < 4294967296 := by
  cases n with
  | zero => unfold sumN; omega
  | succ n => exact smix_bd _ _
theorem sumN_step (s : ByteArray) (n : Nat) (h : n < s.size) : sumN s (n + 1) = smix (sumN s n) s[n].toNat := by show smix _ _ = _; rw [dif_pos h]
/-- the sum of a text. -/
def sumB (s : ByteArray) : Int := sumN s s.size
theorem sumB_bd (s : ByteArray) : 0 ≤ sumB s ∧ sumB s < 4294967296 := sumN_bd _ _
theorem ret_u32 {a b : Int} (h : a = b) : Ending.returned (.int .u32 a) = .returned (.int .u32 b) := by rw [h]
set_option maxHeartbeats 400000 in
theorem with_any (x c : Int) (w : World) (h0 : 0 ≤ x) (h1 : x < 4294967296) (hc0 : 0 ≤ c) (hc1 : c ≤ 255) :
    Calls Tryz.prog 48 #[.int .u32 x, .int .u8 c] w fun e w' => e = .returned (.int .u32 (smix x c)) ∧ w' = w := by
  go_enter Tryz.func48, Tryz.ntmps48
  go_wp2
  go_returns
  exact ⟨rfl, rfl⟩
set_option maxHeartbeats 1000000 in
set_option maxRecDepth 100000 in
theorem over_any (s : ByteArray) (w : World) (hs : s.size ≤ maxLen) :
    Calls Tryz.prog 47 #[.string s, .int .u32 2166136261, .func (.func 48) #[] #[]] w fun e w' => e = .returned (.int .u32 (sumB s)) ∧ w' = w := by
  unfold maxLen at hs
  go_enter Tryz.func47, Tryz.ntmps47
  go_wp2_with fail
  go_loop [1, 10] (fun x i => ∃ k : Nat, k ≤ s.size ∧ i = .int .i64 k ∧ x = .int .u32 (sumN s k)) (fun _ i => s.size - (intOf i).toNat)
  case atStart => exact ⟨0, Nat.zero_le _, rfl, rfl⟩
  case round =>
    obtain ⟨k, hk, rfl, rfl⟩ := hrel
    have hb := sumN_bd s k
    by_cases hlt : k < s.size
    · have hc := s[k].toNat_lt
      have hst : Hid (sumN s (k + 1) = smix (sumN s k) s[k].toNat) := sumN_step s k hlt
      go_wp2_with (go_at_call 48; refine (with_any _ _ _ hb.1 hb.2 (by omega) (by omega)).mono ?_; rintro e w' ⟨rfl, rfl⟩)
      exact ⟨⟨k + 1, by omega, by go_num, by rw [hst.out]⟩, by simp [intOf]; omega⟩
    · obtain rfl : k = s.size := by omega
      go_wp2_with fail
      go_returns
      exact ⟨rfl, rfl⟩
set_option maxHeartbeats 1000000 in
set_option maxRecDepth 100000 in
theorem implSum_any (s : ByteArray) (w : World) (hs : s.size ≤ maxLen) :
    Calls Tryz.prog 18 #[.string s] w fun e w' => e = .returned (.int .u32 (sumB s)) ∧ w' = w := by
  go_enter Tryz.func18, Tryz.ntmps18
  go_wp2_with (go_at_call 47; refine (over_any s _ hs).mono ?_; rintro e w' ⟨rfl, rfl⟩)
  go_returns
  exact ⟨rfl, rfl⟩
set_option maxHeartbeats 1000000 in
set_option maxRecDepth 100000 in
theorem specSum_any (s : ByteArray) (w : World) (hs : s.size ≤ maxLen) :
    Calls Tryz.prog 19 #[.string s] w fun e w' => e = .returned (.int .u32 (sumB s)) ∧ w' = w := by
  unfold maxLen at hs
  go_enter Tryz.func19, Tryz.ntmps19
  go_wp2_with fail
  go_loop [3, 4] (fun x i => ∃ k : Nat, k ≤ s.size ∧ i = .int .i64 k ∧ x = .int .u32 (sumN s k)) (fun _ i => s.size - (intOf i).toNat)
  case atStart => exact ⟨0, Nat.zero_le _, rfl, rfl⟩
  case round =>
    obtain ⟨k, hk, rfl, rfl⟩ := hrel
    have hb := sumN_bd s k
    by_cases hlt : k < s.size
    · have hc := s[k].toNat_lt
      have hst : Hid (sumN s (k + 1) = smix (sumN s k) s[k].toNat) := sumN_step s k hlt
      go_wp2_with fail
      exact ⟨⟨k + 1, by omega, by go_num, by rw [hst.out]; try rfl⟩, by simp [intOf]; omega⟩
    · obtain rfl : k = s.size := by omega
      go_wp2_with fail
      go_returns
      exact ⟨rfl, rfl⟩
end Go.Proofs.YtlobjpdkjlmglaaGreat
/- Own text. What ReadLog reads, in plain words; program and model read the same. -/
namespace Go.Proofs.YtlobjpdkjlmglaaGreat
open Go.RowKit
set_option linter.unusedVariables false
section
variable (s : ByteArray) (a : Nat)
/-- a whole one at a place: its size, its sum, the place behind these. -/
def lA : Int × (Nat × Bool) := nm s s.size 4 (a, false)
def lB : Int × (Nat × Bool) := nm s s.size 4 (lA s a).2
/-- the part that is entered: the cutter's state, its end. -/
def lQ : Nat × Bool := enQ s.size (lA s a).1.toNat (lB s a).2
def lE : Nat := enX s.size (lA s a).1.toNat (lB s a).2
def lT : ByteArray := s.extract (lQ s a).1 (lE s a)
/-- whether there is a whole one, as the program and as the model ask it. -/
def okI : Bool := ((sumB (lT s a) : Int) == (lB s a).1) && sO s (lE s a) (lQ s a)
def okM : Bool := !(lB s a).2.2 && decide ((lB s a).2.1 + (lA s a).1.toNat ≤ s.size) && ((sumB (s.extract (lB s a).2.1 ((lB s a).2.1 + (lA s a).1.toNat)) : Int) == (lB s a).1) && gO (s.extract (lB s a).2.1 ((lB s a).2.1 + (lA s a).1.toNat))
end
theorem lB_at {s : ByteArray} {a : Nat} (h : a ≤ s.size) : (lB s a).2.1 ≤ s.size := nm_at (nm_at h)
theorem lA_bd {s : ByteArray} {a : Nat} (h : a ≤ s.size) : 0 ≤ (lA s a).1 ∧ (lA s a).1 < 4294967296 := nm_bd (Nat.le_refl _) h (by omega)
theorem lB_bd {s : ByteArray} {a : Nat} (h : a ≤ s.size) : 0 ≤ (lB s a).1 ∧ (lB s a).1 < 4294967296 := nm_bd (Nat.le_refl _) (nm_at h) (by omega)
theorem lE_at {s : ByteArray} {a : Nat} (h : a ≤ s.size) : (lQ s a).1 = (lB s a).2.1 ∧ (lQ s a).1 ≤ lE s a ∧ lE s a ≤ s.size := by
  have := lB_at h
  unfold lQ lE enQ enX
  split <;> refine ⟨rfl, ?_, ?_⟩ <;> (try dsimp only) <;> omega
/-- they ask the same, and read the same step. -/
theorem ok_same {s : ByteArray} {a : Nat} (h : a ≤ s.size) : okI s a = okM s a ∧ (okM s a = true → sX s (lE s a) (lQ s a) = gT (s.extract (lB s a).2.1 ((lB s a).2.1 + (lA s a).1.toNat)) ∧ lE s a = (lB s a).2.1 + (lA s a).1.toNat) := by
  have hb := lB_at h
  unfold okI okM lT
  by_cases hle : (lB s a).2.1 + (lA s a).1.toNat ≤ s.size
  · have eQ : lQ s a = (lB s a).2 := by unfold lQ enQ; rw [if_pos hle]
    have eE : lE s a = (lB s a).2.1 + (lA s a).1.toNat := by unfold lE enX; rw [if_pos hle]
    rw [eQ, eE, decide_eq_true hle]
    cases ht : (lB s a).2.2 with
    | true =>
      rw [torn_no ht]
      simp
    | false =>
      have e2 : (lB s a).2 = ((lB s a).2.1, false) := by rw [← ht]
      obtain ⟨h1, h2⟩ := part_sh (s := s) (a := (lB s a).2.1) (e := (lB s a).2.1 + (lA s a).1.toNat) hle (by omega)
      rw [e2]
      dsimp only
      rw [h2]
      refine ⟨by simp, fun hk => ⟨?_, rfl⟩⟩
      rw [h1]
      have hg : gO (s.extract (lB s a).2.1 ((lB s a).2.1 + (lA s a).1.toNat)) = true := by
        simp only [Bool.and_eq_true] at hk; exact hk.2
      exact (if_pos (show sO _ _ _ = true from hg)).symm
  · have eQ : (lQ s a).2 = true := by unfold lQ enQ; rw [if_neg hle]
    rw [torn_no eQ, decide_eq_false hle]
    simp
/-- all whole ones from a place on, and the place behind the last. -/
def rdL (s : ByteArray) : Nat → Nat → List T5 × Nat
  | 0, a => ([], a)
  | k + 1, a => if okM s a = true then (gT (s.extract (lB s a).2.1 ((lB s a).2.1 + (lA s a).1.toNat)) :: (rdL s k ((lB s a).2.1 + (lA s a).1.toNat)).1, (rdL s k ((lB s a).2.1 + (lA s a).1.toNat)).2) else ([], a)
end Go.Proofs.YtlobjpdkjlmglaaGreat
/- Own text. What the loops of ReadLog keep: the steps read, the place, and that the rest is read from there. -/
namespace Go.Proofs.YtlobjpdkjlmglaaGreat
open Go.RowKit
set_option linter.unusedVariables false
theorem hidL {α : Type} (a : α) : ∃ x, Hid (a = x) := ⟨a, show a = a from rfl⟩
/-- the place behind a whole one, and the step. -/
def lN (s : ByteArray) (a : Nat) : Nat := (lB s a).2.1 + (lA s a).1.toNat
def lX (s : ByteArray) (a : Nat) : T5 := gT (s.extract (lB s a).2.1 (lN s a))
theorem tk_ge {s : ByteArray} {e n : Nat} {q : Nat × Bool} : q.1 ≤ (tk s e n q).2.1 := by
  unfold tk
  split <;> simp
theorem okM_at {s : ByteArray} {a : Nat} (h : okM s a = true) : a < lN s a ∧ lN s a ≤ s.size ∧ (lB s a).2.2 = false := by
  unfold okM at h
  simp only [Bool.and_eq_true, Bool.not_eq_true', decide_eq_true_eq] at h
  refine ⟨?_, h.1.1.2, h.1.1.1⟩
  have h1 : a ≤ (lA s a).2.1 := tk_ge (s := s) (e := s.size) (n := 4) (q := (a, false))
  have h2 := h.1.1.1
  unfold lN
  unfold lB nm tk at h2 ⊢
  split at h2
  · rename_i hle
    rw [if_pos hle]
    dsimp only
    omega
  · cases h2
theorem rdL_no {s : ByteArray} {a : Nat} (h : okM s a = false) (k : Nat) : rdL s k a = ([], a) := by
  cases k with
  | zero => rfl
  | succ k => rw [rdL, if_neg (by rw [h]; decide)]
theorem rdL_yes {s : ByteArray} {a : Nat} (h : okM s a = true) (k : Nat) : rdL s (k + 1) a = (lX s a :: (rdL s k (lN s a)).1, (rdL s k (lN s a)).2) := by
  rw [rdL, if_pos h]
  rfl
/-- what ReadLog answers. -/
def rlT (s : ByteArray) : List T5 := if s.size ≤ 100000 then (rdL s s.size 0).1 else []
def rlE (s : ByteArray) : Nat := if s.size ≤ 100000 then (rdL s s.size 0).2 else 0
structure RlInv (s : ByteArray) (k a : Nat) (ts : List T5) : Prop where
  all : ts ++ (rdL s k a).1 = (rdL s s.size 0).1
  fin : (rdL s k a).2 = (rdL s s.size 0).2
  le : s.size ≤ a + k
  at' : a ≤ s.size
  len : ts.length ≤ a
theorem RlInv.start (s : ByteArray) : RlInv s s.size 0 [] := ⟨rfl, rfl, by omega, by omega, by simp⟩
theorem RlInv.next {s : ByteArray} {k a : Nat} {ts : List T5} (h : RlInv s k a ts) (ho : okM s a = true) : ∃ k', RlInv s k' (lN s a) (ts ++ [lX s a]) := by
  obtain ⟨h1, h2, h3⟩ := okM_at ho
  have hl := h.le
  have hn := h.len
  cases k with
  | zero => omega
  | succ k =>
    have e := rdL_yes ho k
    have ha := h.all
    have hf := h.fin
    rw [e] at ha hf
    exact ⟨k, by rw [← ha]; simp, hf, by omega, h2, by simp; omega⟩
theorem RlInv.stop {s : ByteArray} {k a : Nat} {ts : List T5} (h : RlInv s k a ts) (ho : okM s a = false) : ts = (rdL s s.size 0).1 ∧ a = (rdL s s.size 0).2 := by
  have ha := h.all
  have hf := h.fin
  rw [rdL_no ho] at ha hf
  exact ⟨by rw [← ha]; simp, hf⟩
theorem sO_at {s : ByteArray} {e : Nat} {q : Nat × Bool} (h : sO s e q = true) : sT s e q = false ∧ (sE s e q).2.1 = e := by
  unfold sO at h
  rw [Bool.and_eq_true] at h
  have h1 : sT s e q = false := by simpa using h.1
  refine ⟨h1, ?_⟩
  unfold sT at h1
  simp at h1
  exact h1.2
end Go.Proofs.YtlobjpdkjlmglaaGreat
/- Own text. The cutter's list of texts: several, by the bound method text. -/
namespace Go.Proofs.YtlobjpdkjlmglaaGreat
open Go.RowKit Go.Deep
set_option linter.unusedVariables false
/-- block P is a list of texts in memory of its own from N on. -/
structure Ls (w : World) (N P : Nat) (u : Value) (cs : List ByteArray) : Prop where
  le : N ≤ P
  blk : w.heap[P]? = some (.cells #[u] 156 (0, 0))
  own : w.ownsRow N 9 1 u cs.length (cs.map Value.string)
theorem Kc.above {w w1 w2 : World} {C E : Nat} (h : Kc C E w w1) (k : Below w.heap.size w1 w2) : Kc C E w w2 :=
  ⟨k.os.trans h.os, k.tape.trans h.tape, k.output.trans h.output, Nat.le_trans h.size k.size, fun b hb h1 h2 => (k.block b hb).trans (h.block b hb h1 h2)⟩
theorem own_typ {w : World} {N n e s g : Nat} {v : Value} {xs : List Value} {c : Array Value} {t : TypeId} {l : Nat × Nat} (h : w.ownsRow N e s v n xs) (hb : w.heap[g]? = some (.cells c t l)) (ht : t ≠ e) : v.ownBlock ≠ some g := by
  intro e'
  rcases h.2 with ⟨rfl, _⟩ | ⟨g', cap, cur, rfl, _, hc, _⟩
  · simp [Value.ownBlock] at e'
  · simp [Value.ownBlock] at e'
    subst e'
    rw [hb] at hc
    simp at hc
    exact ht hc.2.1
section
variable {w w' : World} {N P : Nat} {u : Value} {cs : List ByteArray}
theorem Ls.lt (h : Ls w N P u cs) : P < w.heap.size := heap_lt h.blk
theorem Ls.keep (h : Ls w N P u cs) (hb : ∀ b, N ≤ b → b < w.heap.size → w'.heap[b]? = w.heap[b]?) : Ls w' N P u cs :=
  ⟨h.le, (hb P h.le h.lt).trans h.blk, ownsRow_keep h.own fun b hv => hb b (ownsRow_lt h.own b hv).1 (ownsRow_lt h.own b hv).2⟩
theorem Ls.kc {C E : Nat} (h : Ls w N P u cs) (hk : Kc C E w w') (hC : C < N) (hE : E < N) : Ls w' N P u cs := h.keep fun b h1 h2 => hk.block b h2 (by omega) (by omega)
theorem Ls.below (h : Ls w N P u cs) (hb : Below w.heap.size w w') : Ls w' N P u cs := h.keep fun b _ h2 => hb.block b h2
end
theorem infoS5 : (Tryz.prog.info? 9).map (fun i => (i.zero, i.size, i.bytes)) = some (some (.string ⟨#[]⟩), 1, 16) := by kernel_rfl
set_option maxHeartbeats 2000000 in
set_option maxRecDepth 100000 in
theorem sadd_any (N P : Nat) (u : Value) (cs : List ByteArray) (x : ByteArray) (ad : Addr) (w : World) (h : Ls w N P u cs) (hx : w.cell? ad = some (.string x)) (hlen : cs.length ≤ 100000) :
    Calls Tryz.prog 111 #[.pointer (some ⟨P, 0, none⟩), .slice (some ad) 1 1] w fun e w' => e = .returned (.tuple #[]) ∧ (∃ u', Ls w' N P u' (cs ++ [x])) ∧ Below N w w' := by
  obtain ⟨i0, hi, hz0, hz1, hz2⟩ := info_parts infoS5
  have hlt := h.lt
  obtain ⟨hle, hbk, hown⟩ := h
  have hne := own_typ hown hbk (by decide)
  have c0 : w.cell? ⟨P, 0, none⟩ = some u := by rw [Lib.cell_of_heap hbk]; rfl
  go_enter Tryz.func111, Tryz.ntmps111
  go_wp2_with (at_builtin; refine wpList_append_own _ rfl _ _ 24 rfl N 9 i0 (.string ⟨#[]⟩) 1 16 Tryz.underlying24 hi hz0 hz1 hz2 rfl (by decide) _ _ _ rfl hown ad 1 1 [.string x] rfl (by simp) ?c1 ?c2 ?c3 ?c4 ?c5 ?_)
  case c1 =>
    intro j y hj
    match j, hj with
    | 0, hj =>
      simp at hj
      subst hj
      have e0 : ad.add 0 = ad := by unfold Addr.add; split <;> simp_all
      rw [e0]; exact hx
  case c2 => intro y hy; rcases List.mem_singleton.1 hy with rfl; rfl
  case c3 => unfold maxLen; omega
  case c4 => omega
  case c5 => omega
  intro v' w2 hown' hgrow _
  have hbP : w2.heap[P]? = some (.cells #[u] 156 (0, 0)) := (hgrow.block P hlt (fun e => hne e.symm)).trans hbk
  have d0 : w2.cell? ⟨P, 0, none⟩ = some u := by rw [Lib.cell_of_heap hbP]; rfl
  have f0 : w2.frozen? ⟨P, 0, none⟩ = false := Lib.frozen_of_heap hbP 0
  have hne' := own_typ hown' hbP (by decide)
  have HB : Hid (Below N w w2) := (Below.refl N w).grown hgrow (by omega) (fun k hk => (hown.lt k hk).1)
  have hs : ∃ ao n' cap, v' = .slice ao n' cap := by
    rcases hown'.2 with ⟨hv, _⟩ | ⟨g, cap, cur, hv, _⟩ <;> exact ⟨_, _, _, hv⟩
  obtain ⟨ao, n', cap, rfl⟩ := hs
  clear hgrow hown
  go_wp2
  go_end0
  refine ⟨rfl, ⟨_, hle, by rw [set_blk hbP]; rfl, ?_⟩, HB.out.setCell (p := ⟨P, 0, none⟩) hle _⟩
  rw [List.map_append, List.length_append]
  exact ownsRow_keep hown' fun b hv => Below.heap_setCell _ _ _ _ (by rintro rfl; exact hne' hv)
set_option maxHeartbeats 2000000 in
set_option maxRecDepth 100000 in
theorem sall_any (N P : Nat) (u : Value) (cs : List ByteArray) (w : World) (h : Ls w N P u cs) :
    Calls Tryz.prog 112 #[.pointer (some ⟨P, 0, none⟩)] w fun e w' => e = .returned u ∧ w' = w := by
  have c0 : w.cell? ⟨P, 0, none⟩ = some u := by rw [Lib.cell_of_heap h.blk]; rfl
  have hs : ∃ ao n' cap, u = .slice ao n' cap := by
    rcases h.own.2 with ⟨hv, _⟩ | ⟨g, cap, cur, hv, _⟩ <;> exact ⟨_, _, _, hv⟩
  obtain ⟨ao, n', cap, rfl⟩ := hs
  go_enter Tryz.func112, Tryz.ntmps112
  go_wp2
  go_returns
  exact ⟨rfl, rfl⟩
set_option maxHeartbeats 4000000 in
set_option maxRecDepth 100000 in
theorem sev_any (C E cap : Nat) (s : ByteArray) (q : Nat × Bool) (xs : List Int) (e : Nat) (w : World) (h : Ct w C E cap s q (xs ++ [(e : Int)])) (hr : xs.length + 2 ≤ cap) (hq : q.1 ≤ e) (he : e ≤ s.size) (hs : s.size ≤ 1048576) (hl : xs.length ≤ 10000) :
    Calls Tryz.prog 77 #[.pointer (some ⟨C, 0, none⟩), .func (.func 76) #[.pointer (some ⟨C, 0, none⟩)] #[]] w fun r w' => ∃ u, r = .returned u ∧ w'.ownsRow w.heap.size 9 1 u (nm s e 1 q).1.toNat ((csn s e (nm s e 1 q).2 (nm s e 1 q).1.toNat).1.map Value.string) ∧ Ct w' C E cap s (csn s e (nm s e 1 q).2 (nm s e 1 q).1.toNat).2 (xs ++ [(e : Int)]) ∧ Kc C E w w' := by
  have hln : (xs ++ [(e : Int)]).length + 1 ≤ cap := by simp; omega
  have hbd := nm_bd (s := s) (k := 1) he hq (by omega)
  have hb1 := nm_bd1 (s := s) he hq
  have hn : (nm s e 1 q).1 = ((nm s e 1 q).1.toNat : Int) := by omega
  have hCl := h.ltC
  have hEl := h.ltE
  go_enter Tryz.func77, Tryz.ntmps77
  go_wp2_with fail
  refine Calls.mono (cnum_any C E cap s q xs e 1 _ (h.below (by repeat (first | (with_reducible exact Below.refl _ _) | (with_reducible refine Below.drew ?_) | (with_reducible refine Below.alloc ?_ ?hh _; case hh => first | (simp; done) | (simp; omega) | omega) | (with_reducible refine Below.setCell ?_ ?hh _; case hh => first | (simp; done) | (simp; omega) | omega) | refine bstep (by assumption) (by first | (simp; done) | (simp; omega) | omega) ?_))) hq he (by omega) hs hl) ?_
  rintro r w1 ⟨rfl, hT⟩
  obtain ⟨hC1, hK1⟩ := hT.room hln
  rw [hn]
  have hq1 : (nm s e 1 q).2.1 ≤ e := nm_at hq
  have hm : (nm s e 1 q).1.toNat ≤ 255 := by omega
  have hL1 : Ls w1 w.heap.size w.heap.size (.slice none 0 0) [] := by
    refine ⟨Nat.le_refl _, ?_, ⟨rfl, .inl ⟨rfl, rfl⟩⟩⟩
    refine (hK1.block _ (by simp) (by omega) (by omega)).trans ?_
    exact heap_alloc_new w _
  have hKw : Kc C E w w1 := (Kc.of_below (by repeat (first | (with_reducible exact Below.refl _ _) | (with_reducible refine Below.drew ?_) | (with_reducible refine Below.alloc ?_ ?hh _; case hh => first | (simp; done) | (simp; omega) | omega) | (with_reducible refine Below.setCell ?_ ?hh _; case hh => first | (simp; done) | (simp; omega) | omega) | refine bstep (by assumption) (by first | (simp; done) | (simp; omega) | omega) ?_))).trans hK1 (.inl rfl)
  clear hn hT hK1 h
  generalize hN : (nm s e 1 q).1.toNat = n at *
  generalize hQ : (nm s e 1 q).2 = q1 at *
  go_wp2_with fail
  go_loopw [9] (fun i wr => ∃ (k : Nat) (u : Value), k ≤ n ∧ i = .int .i64 k ∧ Ct wr C E cap s (csn s e q1 k).2 (xs ++ [(e : Int)]) ∧ Ls wr w.heap.size w.heap.size u (csn s e q1 k).1 ∧ Kc C E w wr) (fun i _ => n - (intOf i).toNat)
  case atStart => exact ⟨0, _, Nat.zero_le _, rfl, hC1, hL1, hKw⟩
  case round =>
    clear hC1 hL1 hKw
    obtain ⟨k, u, hk, rfl, hC, hL, hK⟩ := hrel
    by_cases hlt : k < n
    · have hqk : (csn s e q1 k).2.1 ≤ e := csn_at hq1 k
      have hcl : (csn s e q1 k).1.length = k := csn_len k
      have HN : Hid (csn s e q1 (k + 1) = ((csn s e q1 k).1 ++ [(tx s e 2 (csn s e q1 k).2).1], (tx s e 2 (csn s e q1 k).2).2)) := rfl
      go_wp2_with (first | (go_at_call 76; with_reducible refine Calls.mono (ctext_any C E cap s _ xs e _ hC hr hqk he hs hl) ?_) | fail)
      rintro r w2 ⟨rfl, hC2, hK2⟩
      have hL2 := hL.kc hK2 hCl hEl
      have hK3 := hK.trans hK2 (.inl rfl)
      have hPlt := hL2.lt
      clear hC hL hK hK2
      generalize (tx s e 2 (csn s e q1 k).2).1 = T at *
      go_wp2_with (first | (go_at_call 111; with_reducible refine Calls.mono (sadd_any w.heap.size w.heap.size u _ T ⟨w2.heap.size, 0, none⟩ _ (hL2.below (by repeat (first | (with_reducible exact Below.refl _ _) | (with_reducible refine Below.drew ?_) | (with_reducible refine Below.alloc ?_ ?hh _; case hh => first | (simp; done) | (simp; omega) | omega) | (with_reducible refine Below.setCell ?_ ?hh _; case hh => first | (simp; done) | (simp; omega) | omega) | refine bstep (by assumption) (by first | (simp; done) | (simp; omega) | omega) ?_))) ?cx ?cl) ?_) | fail)
      case cx => rw [Lib.cell_of_heap (heap_alloc_new w2 _)]; rfl
      case cl => omega
      rintro r w3 ⟨rfl, ⟨u3, hL3⟩, hb3⟩
      have hbA : Below w2.heap.size w2 (w2.alloc (.cells #[.string T] 9)) := by repeat (first | (with_reducible exact Below.refl _ _) | (with_reducible refine Below.drew ?_) | (with_reducible refine Below.alloc ?_ ?hh _; case hh => first | (simp; done) | (simp; omega) | omega) | (with_reducible refine Below.setCell ?_ ?hh _; case hh => first | (simp; done) | (simp; omega) | omega) | refine bstep (by assumption) (by first | (simp; done) | (simp; omega) | omega) ?_)
      have hC3 : Ct w3 C E cap s (csn s e q1 (k + 1)).2 (xs ++ [(e : Int)]) := by
        have h1 := hC2.below hbA
        rw [HN.out]
        exact h1.keep (hb3.block C hCl) (hb3.block E hEl)
      have hK4 : Kc C E w w3 := (hK3.trans (Kc.of_below hbA) (.inl rfl)).above hb3
      have hL4 : Ls w3 w.heap.size w.heap.size u3 (csn s e q1 (k + 1)).1 := by rw [HN.out]; exact hL3
      clear hC2 hL2 hL3 hb3 hbA hK3 HN
      go_wp2_with fail
      exact ⟨⟨k + 1, u3, hlt, by simp, hC3, hL4, hK4⟩, by simp [intOf]; omega⟩
    · obtain rfl : k = n := by omega
      go_wp2_with (first | (go_at_call 112; with_reducible refine Calls.mono (sall_any w.heap.size w.heap.size u _ _ hL) ?_) | fail)
      rintro r w2 ⟨rfl, hw2⟩
      obtain rfl : wr = w2 := hw2.symm
      go_wp2
      go_returns
      have ho := hL.own
      rw [csn_len] at ho
      subst hQ hN
      exact ⟨u, rfl, ho, hC, hK⟩
end Go.Proofs.YtlobjpdkjlmglaaGreat
/- Own text. The cutter's method rel: it answers rl, the bag in memory of its own. -/
namespace Go.Proofs.YtlobjpdkjlmglaaGreat
open Go.RowKit Go.Deep
set_option linter.unusedVariables false
theorem Ct.far {w : World} {C E cap : Nat} {s : ByteArray} {q : Nat × Bool} {xs : List Int} (h : Ct w C E cap s q xs) {b : Nat} (h1 : b ≠ C) (h2 : b ≠ E) (i : Nat) (v : Value) : Ct (w.setCell ⟨b, i, none⟩ v) C E cap s q xs :=
  h.keep (Below.heap_setCell _ _ _ _ (Ne.symm h1)) (Below.heap_setCell _ _ _ _ (Ne.symm h2))
theorem Kc.far {w w' : World} {C E : Nat} (h : Kc C E w w') {b : Nat} (hb : w.heap.size ≤ b) (i : Nat) (u : Value) : Kc C E w (w'.setCell ⟨b, i, none⟩ u) :=
  ⟨h.os, h.tape, h.output, by simpa using h.size, fun k hk h1 h2 => (Below.heap_setCell _ _ _ _ (by intro e; dsimp only at e; omega)).trans (h.block k hk h1 h2)⟩
theorem BagOwn.far {w : World} {N : Nat} {v : Value} {cs : List C2} {us : List Value} {G : List (List Nat)} (h : BagOwn w N v cs us G) {b : Nat} (hb : b < N) (i : Nat) (u : Value) : BagOwn (w.setCell ⟨b, i, none⟩ u) N v cs us G :=
  h.keep (by simp) fun k hk _ => Below.heap_setCell _ _ _ _ (by intro e; dsimp only at e; omega)
set_option maxHeartbeats 4000000 in
set_option maxRecDepth 100000 in
theorem crel_any (C E cap : Nat) (s : ByteArray) (q : Nat × Bool) (xs : List Int) (e : Nat) (w : World) (h : Ct w C E cap s q (xs ++ [(e : Int)])) (hr : xs.length + 2 ≤ cap) (hq : q.1 ≤ e) (he : e ≤ s.size) (hs : s.size ≤ 1048576) (hl : xs.length ≤ 10000) :
    Calls Tryz.prog 79 #[.pointer (some ⟨C, 0, none⟩)] w fun r w' => ∃ u us G, r = .returned (.agg #[.string (rl s e q).1.s, .int .i64 (rl s e q).1.W, u]) ∧ BagOwn w' w.heap.size u (rl s e q).1.cs us G ∧ Ct w' C E cap s (rl s e q).2 (xs ++ [(e : Int)]) ∧ Kc C E w w' := by
  have hln : (xs ++ [(e : Int)]).length + 1 ≤ cap := by simp; omega
  have hCl := h.ltC
  have hEl := h.ltE
  have hq1 : (tx s e 2 q).2.1 ≤ e := tx_at hq
  have hbd := nm_bd (s := s) (k := 4) he hq1 (by omega)
  have hn : (nm s e 4 (tx s e 2 q).2).1 = ((nm s e 4 (tx s e 2 q).2).1.toNat : Int) := by omega
  have hm : (nm s e 4 (tx s e 2 q).2).1.toNat ≤ 4294967296 := by omega
  have hq2 : (nm s e 4 (tx s e 2 q).2).2.1 ≤ e := nm_at hq1
  have hsz : (rlB s e q).1.size ≤ 1048576 := Nat.le_trans (tk_size he (nm_at hq1)) hs
  have HX : Hid (tk s e (nm s e 4 (tx s e 2 q).2).1.toNat (nm s e 4 (tx s e 2 q).2).2 = rlB s e q) := rfl
  have HR : Hid (rl s e q = (⟨(tx s e 2 q).1, aW (rlB s e q).1, aC (rlB s e q).1⟩, ((rlB s e q).2.1, (rlB s e q).2.2 || !aB (rlB s e q).1))) := rfl
  go_enter Tryz.func79, Tryz.ntmps79
  go_wp2_with (first | (go_at_call 76; with_reducible refine Calls.mono (ctext_any C E cap s q xs e _ (h.below (by repeat (first | (with_reducible exact Below.refl _ _) | (with_reducible refine Below.drew ?_) | (with_reducible refine Below.alloc ?_ ?hh _; case hh => first | (simp; done) | (simp; omega) | omega) | (with_reducible refine Below.setCell ?_ ?hh _; case hh => first | (simp; done) | (simp; omega) | omega) | refine bstep (by assumption) (by first | (simp; done) | (simp; omega) | omega) ?_))) hr hq he hs hl) ?_) | fail)
  rintro r w1 ⟨rfl, hC1, hK1⟩
  have g0 : w1.cell? ⟨w.heap.size, 0, none⟩ = some (.string ⟨#[]⟩) := (hK1.cell (by simp) (by omega) (by omega)).trans (by rw [Lib.cell_of_heap (heap_alloc_new w _)]; rfl)
  have g1 : w1.cell? ⟨w.heap.size, 1, none⟩ = some (.int .i64 0) := (hK1.cell (by simp) (by omega) (by omega)).trans (by rw [Lib.cell_of_heap (heap_alloc_new w _)]; rfl)
  have g2 : w1.cell? ⟨w.heap.size, 2, none⟩ = some (.slice none 0 0) := (hK1.cell (by simp) (by omega) (by omega)).trans (by rw [Lib.cell_of_heap (heap_alloc_new w _)]; rfl)
  have g3 : ∀ i, w1.frozen? ⟨w.heap.size, i, none⟩ = false := fun i => (hK1.frozen (by simp) (by omega) (by omega)).trans (Lib.frozen_of_heap (heap_alloc_new w _) i)
  have hz1 : w.heap.size < w1.heap.size := by have := hK1.size; simp at this; omega
  have hKw : Kc C E w w1 := (Kc.of_below (by repeat (first | (with_reducible exact Below.refl _ _) | (with_reducible refine Below.drew ?_) | (with_reducible refine Below.alloc ?_ ?hh _; case hh => first | (simp; done) | (simp; omega) | omega) | (with_reducible refine Below.setCell ?_ ?hh _; case hh => first | (simp; done) | (simp; omega) | omega) | refine bstep (by assumption) (by first | (simp; done) | (simp; omega) | omega) ?_))).trans hK1 (.inl rfl)
  clear hK1
  generalize (tx s e 2 q).1 = T at *
  generalize hQ1 : (tx s e 2 q).2 = q1 at *
  go_wp2_with fail
  refine Calls.mono (cnum_any C E cap s q1 xs e 4 _ hC1 hq1 he (by omega) hs hl) ?_
  rintro r w2 ⟨rfl, hT⟩
  obtain ⟨hC2, hK2⟩ := hT.room hln
  rw [hn]
  clear hn hT
  generalize hN : (nm s e 4 q1).1.toNat = n at *
  generalize hQ : (nm s e 4 q1).2 = q2 at *
  go_wp2_with fail
  refine Calls.mono (take_any C E cap s q2 xs e n _ hC2 hq2 he hm hs hl) ?_
  rintro r w3 ⟨rfl, hT2⟩
  obtain ⟨hC3, hK3⟩ := hT2.room hln
  rw [HX.out] at hC3 ⊢
  have hK13 := hK2.trans hK3 (.inl rfl)
  clear hT2 hK2 hK3 hC1 hC2
  generalize hB1 : (rlB s e q).1 = B at *
  generalize hB2 : (rlB s e q).2 = q3 at *
  go_wp2_with fail
  refine Calls.mono (implGetBag_any B w3 hsz) ?_
  rintro r w4 ⟨⟨u, us, G, rfl, hBag⟩, hb4⟩
  obtain ⟨a4, c4, rfl⟩ := hBag.shape
  have hK14 := hK13.trans (Kc.of_below hb4) (.inl rfl)
  have hC4 := hC3.below hb4
  have hz4 := hK14.size
  have hz3 := hK13.size
  have hz34 := hb4.size
  have e0 := (hK14.cell (i := 0) hz1 (by omega) (by omega)).trans g0
  have e1 := (hK14.cell (i := 1) hz1 (by omega) (by omega)).trans g1
  have e2 := (hK14.cell (i := 2) hz1 (by omega) (by omega)).trans g2
  have e3 : ∀ i, w4.frozen? ⟨w.heap.size, i, none⟩ = false := fun i => (hK14.frozen hz1 (by omega) (by omega)).trans (g3 i)
  have hKw4 := hKw.trans hK14 (.inl rfl)
  clear hK13 hK14 hC3 hb4 g0 g1 g2 g3 hKw
  obtain ⟨_, _, _, c3, hf⟩ := hC4.cells
  have f3 := hf 3
  have hbw := hBag.weak (M := w.heap.size + 1) (by omega)
  have hC4l : C < w4.heap.size := hC4.ltC
  have hR4l : w.heap.size < w4.heap.size := by omega
  have hCne : w.heap.size ≠ C := by omega
  have hEne : w.heap.size ≠ E := by omega
  obtain ⟨a3, t3⟩ := q3
  dsimp only at c3
  have HF : Hid (∀ b : Bool, BagOwn (((((w4.setCell ⟨C, 3, none⟩ (.bool b)).setCell ⟨w.heap.size, 0, none⟩ (.string T)).setCell ⟨w.heap.size, 1, none⟩ (.int .i64 (aW B))).setCell ⟨w.heap.size, 2, none⟩ (.slice a4 (aC B).length c4)).alloc (.cells #[.int .i64 (aW B), .slice a4 (aC B).length c4] 73)) w.heap.size (.slice a4 (aC B).length c4) (aC B) us G ∧
      Ct (((((w4.setCell ⟨C, 3, none⟩ (.bool b)).setCell ⟨w.heap.size, 0, none⟩ (.string T)).setCell ⟨w.heap.size, 1, none⟩ (.int .i64 (aW B))).setCell ⟨w.heap.size, 2, none⟩ (.slice a4 (aC B).length c4)).alloc (.cells #[.int .i64 (aW B), .slice a4 (aC B).length c4] 73)) C E cap s (a3, b) (xs ++ [(e : Int)]) ∧
      Kc C E w (((((w4.setCell ⟨C, 3, none⟩ (.bool b)).setCell ⟨w.heap.size, 0, none⟩ (.string T)).setCell ⟨w.heap.size, 1, none⟩ (.int .i64 (aW B))).setCell ⟨w.heap.size, 2, none⟩ (.slice a4 (aC B).length c4)).alloc (.cells #[.int .i64 (aW B), .slice a4 (aC B).length c4] 73))) := by
    intro b
    have k1 := ((((hKw4.setCell 3 (.bool b)).far (Nat.le_refl _) 0 (.string T)).far (Nat.le_refl _) 1 (.int .i64 (aW B))).far (Nat.le_refl _) 2 (.slice a4 (aC B).length c4))
    have k2 := ((((hbw.far (by omega : C < w.heap.size + 1) 3 (.bool b)).far (by omega : w.heap.size < w.heap.size + 1) 0 (.string T)).far (by omega : w.heap.size < w.heap.size + 1) 1 (.int .i64 (aW B))).far (by omega : w.heap.size < w.heap.size + 1) 2 (.slice a4 (aC B).length c4))
    have k3 := ((((hC4.torn b).far hCne hEne 0 (.string T)).far hCne hEne 1 (.int .i64 (aW B))).far hCne hEne 2 (.slice a4 (aC B).length c4))
    have ha : ∀ wz : World, Below wz.heap.size wz (wz.alloc (.cells #[.int .i64 (aW B), .slice a4 (aC B).length c4] 73)) := fun wz => (Below.refl _ _).alloc (Nat.le_refl _) _
    exact ⟨(k2.below (ha _)).weak (by omega), k3.below (ha _), k1.trans (Kc.of_below (ha _)) (.inl rfl)⟩
  clear hBag hf hbw hKw4 hC4 h
  cases t3
  · cases hab : aB B
    · go_wp2
      refine bodyPost_ret (v := .agg #[.string T, .int .i64 (aW B), .slice a4 (aC B).length c4]) (by simp [results, Tryz.results79, go_sem, *]) rfl ⟨.slice a4 (aC B).length c4, us, G, by rw [HR.out], by rw [HR.out]; rw [hab]; exact HF.out true⟩
    · go_wp2
      refine bodyPost_ret (v := .agg #[.string T, .int .i64 (aW B), .slice a4 (aC B).length c4]) (by simp [results, Tryz.results79, go_sem, *]) rfl ⟨.slice a4 (aC B).length c4, us, G, by rw [HR.out], by rw [HR.out]; rw [hab]; exact HF.out false⟩
  · go_wp2
    refine bodyPost_ret (v := .agg #[.string T, .int .i64 (aW B), .slice a4 (aC B).length c4]) (by simp [results, Tryz.results79, go_sem, *]) rfl ⟨.slice a4 (aC B).length c4, us, G, by rw [HR.out], by rw [HR.out]; exact HF.out true⟩
end Go.Proofs.YtlobjpdkjlmglaaGreat
/- Own text. Relations with the blocks that they lie in; a list of relations that grows by append. -/
namespace Go.Proofs.YtlobjpdkjlmglaaGreat
open Go.RowKit Go.Deep Go.ChangeShapes Go.WideShapes
set_option linter.unusedVariables false
/-- the relations rs lie in w from cell o of block b on, their rows in the blocks G. -/
def RLF (w : World) (b o : Nat) (rs : List R3) (G : List (List Nat)) : Prop :=
  ∀ i x g, rs[i]? = some x → G[i]? = some g → ∃ u, w.cell? ⟨b, o + i * 3, none⟩ = some (.string x.s) ∧ w.cell? ⟨b, o + i * 3 + 1, none⟩ = some (.int .i64 x.W) ∧ w.cell? ⟨b, o + i * 3 + 2, none⟩ = some u ∧ RowsF w u x.cs g
/-- the slice value v has the relations rs, in the blocks F. -/
def RelsF (w : World) (v : Value) (rs : List R3) (F : List Nat) : Prop :=
  ∃ (a : Option Addr) (c : Nat) (G : List (List Nat)), v = .slice a rs.length c ∧ rs.length ≤ c ∧ c ≤ maxLen ∧ (a = none → c = 0) ∧ G.length = rs.length ∧ (rs = [] → F = []) ∧
    (rs ≠ [] → ∃ b o, a = some ⟨b, o, none⟩ ∧ b < w.heap.size ∧ F = b :: G.flatten ∧ RLF w b o rs G)
theorem RelsF.is {w : World} {v : Value} {rs : List R3} {F : List Nat} (h : RelsF w v rs F) : RelsIs w v rs := by
  obtain ⟨a, c, G, rfl, hl, hc, _, hG, _, h⟩ := h
  refine ⟨a, c, rfl, hl, hc, fun hne => ?_⟩
  obtain ⟨b, o, rfl, hlt, _, hL⟩ := h hne
  refine ⟨b, o, rfl, hlt, fun i x hx => ?_⟩
  have hi : i < rs.length := (List.getElem?_eq_some_iff.1 hx).1
  have hi' : i < G.length := by omega
  obtain ⟨u, h0, h1, h2, h3⟩ := hL i x G[i] hx (by simp)
  exact ⟨u, h0, h1, h2, h3.is⟩
theorem RelsF.lt {w : World} {v : Value} {rs : List R3} {F : List Nat} (h : RelsF w v rs F) : ∀ b ∈ F, b < w.heap.size := by
  obtain ⟨a, c, G, rfl, hl, hc, _, hG, h0, h⟩ := h
  intro x hx
  by_cases hne : rs = []
  · rw [h0 hne] at hx; cases hx
  obtain ⟨b, o, rfl, hlt, rfl, hL⟩ := h hne
  rcases List.mem_cons.1 hx with rfl | hx
  · exact hlt
  obtain ⟨g, hg, hxg⟩ := List.mem_flatten.1 hx
  obtain ⟨i, hi, rfl⟩ := List.mem_iff_getElem.1 hg
  have hi' : i < rs.length := by omega
  obtain ⟨u, _, _, _, hk⟩ := hL i rs[i] G[i] (by simp) (by simp)
  exact hk.lt x hxg
theorem RLF.keep {w w' : World} {b o : Nat} {rs : List R3} {G : List (List Nat)} (h : RLF w b o rs G) (hs : w.heap.size ≤ w'.heap.size) (hb : w'.heap[b]? = w.heap[b]?) (hF : ∀ x ∈ G.flatten, w'.heap[x]? = w.heap[x]?) : RLF w' b o rs G := fun i x g hx hg => by
  obtain ⟨u, a0, a1, a2, a3⟩ := h i x g hx hg
  exact ⟨u, (cell_blk hb).trans a0, (cell_blk hb).trans a1, (cell_blk hb).trans a2, a3.keep hs fun y hy => hF y (List.mem_flatten.2 ⟨g, List.mem_of_getElem? hg, hy⟩)⟩
theorem RelsF.keep {w w' : World} {v : Value} {rs : List R3} {F : List Nat} (h : RelsF w v rs F) (hs : w.heap.size ≤ w'.heap.size) (hF : ∀ b ∈ F, w'.heap[b]? = w.heap[b]?) : RelsF w' v rs F := by
  obtain ⟨a, c, G, rfl, hl, hc, hz, hG, h0, h⟩ := h
  refine ⟨a, c, G, rfl, hl, hc, hz, hG, h0, fun hne => ?_⟩
  obtain ⟨b, o, rfl, hlt, rfl, hL⟩ := h hne
  exact ⟨b, o, rfl, Nat.lt_of_lt_of_le hlt hs, rfl, hL.keep hs (hF b List.mem_cons_self) fun x hx => hF x (List.mem_cons_of_mem _ hx)⟩
theorem RelsF.below {w w' : World} {v : Value} {rs : List R3} {F : List Nat} (h : RelsF w v rs F) (hb : Below w.heap.size w w') : RelsF w' v rs F := h.keep hb.size fun b hF => hb.block b (h.lt b hF)
theorem RelsF.chg {w w' : World} {v : Value} {rs : List R3} {F G : List Nat} (h : RelsF w v rs F) (hb : Chg G w w') (hd : ∀ b ∈ F, b ∉ G) : RelsF w' v rs F := h.keep hb.size fun b hF => hb.block b (h.lt b hF) (hd b hF)
theorem RelsF.pick {w : World} {v : Value} {rs : List R3} {F : List Nat} (h : RelsF w v rs F) :
    ∃ a c b o G, v = .slice a rs.length c ∧ rs.length ≤ c ∧ c ≤ maxLen ∧ (a = none → c = 0) ∧ G.length = rs.length ∧ (rs = [] → F = []) ∧ RLF w b o rs G ∧ ∀ n, n < rs.length → a = some ⟨b, o, none⟩ ∧ b < w.heap.size ∧ F = b :: G.flatten := by
  obtain ⟨a, c, G, rfl, hl, hc, hz, hG, h0, h⟩ := h
  by_cases hne : rs = []
  · exact ⟨a, c, 0, 0, G, rfl, hl, hc, hz, hG, h0, fun i x g hx => by rw [hne] at hx; simp at hx, fun k hk => by rw [hne] at hk; simp at hk⟩
  · obtain ⟨b, o, rfl, hlt, hF, hL⟩ := h hne
    exact ⟨_, c, b, o, G, rfl, hl, hc, hz, hG, h0, hL, fun _ _ => ⟨rfl, hlt, hF⟩⟩
theorem RLF.at {w w' : World} {b o : Nat} {rs : List R3} {G : List (List Nat)} (h : RLF w b o rs G) (hG : G.length = rs.length) (hlt : b < w.heap.size) (hb : Below w.heap.size w w') {k : Nat} (hk : k < rs.length) :
    ∃ x u g, rs[k]? = some x ∧ w'.cell? ⟨b, o + k * 3, none⟩ = some (.string x.s) ∧ w'.cell? ⟨b, o + k * 3 + 1, none⟩ = some (.int .i64 x.W) ∧ w'.cell? ⟨b, o + k * 3 + 2, none⟩ = some u ∧ RowsF w' u x.cs g ∧ b < w'.heap.size := by
  obtain ⟨u, h0, h1, h2, h3⟩ := h k rs[k] (G[k]'(by omega)) (by simp [hk]) (by simp)
  have hbb := hb.block b hlt
  exact ⟨rs[k], u, _, by simp [hk], (cell_blk hbb).trans h0, (cell_blk hbb).trans h1, (cell_blk hbb).trans h2, h3.below hb, Nat.lt_of_lt_of_le hlt hb.size⟩
/-- the cells of relations; us: their rows' slices. -/
def rcs (us : List Value) (rs : List R3) : List Value := (us.zip rs).flatMap fun p => [.string p.2.s, .int .i64 p.2.W, p.1]
theorem rcs_push {us : List Value} {rs : List R3} (h : us.length = rs.length) (u : Value) (x : R3) : rcs (us ++ [u]) (rs ++ [x]) = rcs us rs ++ [.string x.s, .int .i64 x.W, u] := by
  unfold rcs
  rw [List.zip_append h, List.flatMap_append]
  simp
theorem rcs_at {us : List Value} {rs : List R3} (h : us.length = rs.length) : ∀ {i : Nat} {u : Value} {x : R3}, us[i]? = some u → rs[i]? = some x → (rcs us rs)[i * 3]? = some (.string x.s) ∧ (rcs us rs)[i * 3 + 1]? = some (.int .i64 x.W) ∧ (rcs us rs)[i * 3 + 2]? = some u := by
  induction us generalizing rs with
  | nil => intro i u x hu; simp at hu
  | cons v us ih =>
    cases rs with
    | nil => simp at h
    | cons c rs =>
      intro i u x hu hx
      have e : rcs (v :: us) (c :: rs) = .string c.s :: .int .i64 c.W :: v :: rcs us rs := by unfold rcs; rw [List.zip_cons_cons, List.flatMap_cons]; rfl
      rw [e]
      cases i with
      | zero => simp at hu hx; subst hu hx; simp
      | succ i =>
        have := ih (rs := rs) (by simpa using h) (i := i) (u := u) (x := x) (by simpa using hu) (by simpa using hx)
        rw [show (i + 1) * 3 = i * 3 + 1 + 1 + 1 from by omega]
        simpa using this
/-- the slice value v has the relations rs, in memory of the call's own from N on. -/
structure RelOwn (w : World) (N : Nat) (v : Value) (rs : List R3) (us : List Value) (G : List (List Nat)) : Prop where
  own : w.ownsRow N 75 3 v rs.length (rcs us rs)
  ul : us.length = rs.length
  gl : G.length = rs.length
  row : ∀ (i : Nat) (x : R3) (u : Value) (g : List Nat), rs[i]? = some x → us[i]? = some u → G[i]? = some g → RowsF w u x.cs g
  free : Own w N G.flatten
  out : ∀ b, v.ownBlock = some b → b ∉ G.flatten
section
variable {w w' : World} {N : Nat} {v : Value} {rs : List R3} {us : List Value} {G : List (List Nat)}
theorem RelOwn.empty' {w : World} {N : Nat} (hN : N = w.heap.size) : RelOwn (w.alloc (.cells #[] 75)) N (.slice (some ⟨N, 0, none⟩) 0 0) [] [] [] := by
  subst hN
  exact ⟨⟨by simp [rcs], .inr ⟨w.heap.size, 0, #[], rfl, Nat.le_refl _, heap_alloc_new w _, Nat.le_refl _, by simp, by simp, by simp [rcs]⟩⟩, rfl, rfl, fun i x u g hx => by simp at hx, by simp [Own, Free], fun b _ => by simp⟩
theorem RelOwn.lt (h : RelOwn w N v rs us G) : ∀ b ∈ G.flatten, b < w.heap.size := by
  intro b hb
  obtain ⟨g, hg, hbg⟩ := List.mem_flatten.1 hb
  obtain ⟨i, hi, rfl⟩ := List.mem_iff_getElem.1 hg
  have h1 := h.gl
  have h2 := h.ul
  have hi1 : i < rs.length := by omega
  have hi2 : i < us.length := by omega
  exact (h.row i rs[i] us[i] G[i] (by simp) (by simp) (by simp)).lt b hbg
theorem RelOwn.keep (h : RelOwn w N v rs us G) (hs : w.heap.size ≤ w'.heap.size) (hb : ∀ b, N ≤ b → b < w.heap.size → w'.heap[b]? = w.heap[b]?) : RelOwn w' N v rs us G := by
  have hk : ∀ b ∈ G.flatten, w'.heap[b]? = w.heap[b]? := fun b hbG => hb b (h.free.2.1 b hbG) (h.lt b hbG)
  refine ⟨ownsRow_keep h.own fun b hv => hb b (ownsRow_lt h.own b hv).1 (ownsRow_lt h.own b hv).2, h.ul, h.gl, fun i x u g hx hu hg => (h.row i x u g hx hu hg).keep hs fun b hbg => hk b (List.mem_flatten.2 ⟨g, List.mem_of_getElem? hg, hbg⟩), h.free.keep hk, h.out⟩
theorem RelOwn.below (h : RelOwn w N v rs us G) (hb : Below w.heap.size w w') : RelOwn w' N v rs us G := h.keep hb.size fun b _ hlt => hb.block b hlt
theorem RelOwn.push {v' u : Value} {x : R3} {g : List Nat} (h : RelOwn w N v rs us G) (hR : RowsF w u x.cs g) (hO : Own w N g) (hd1 : ∀ b ∈ G.flatten, b ∉ g) (hd2 : ∀ b, v.ownBlock = some b → b ∉ g)
    (ho : w'.ownsRow N 75 3 v' (rs.length + 1) (rcs us rs ++ [.string x.s, .int .i64 x.W, u])) (hg : w.grownBy w' v.ownBlock) (hat : ∀ b, v'.ownBlock = some b → v.ownBlock = some b ∨ w.heap.size ≤ b) :
    RelOwn w' N v' (rs ++ [x]) (us ++ [u]) (G ++ [g]) := by
  have hG := h.lt
  have hm : ∀ b ∈ (G ++ [g]).flatten, b ∈ G.flatten ∨ b ∈ g := by intro b hb; simpa using hb
  have hlt : ∀ b ∈ (G ++ [g]).flatten, b < w.heap.size := fun b hb => (hm b hb).elim (hG b) (hR.lt b)
  have hne : ∀ b ∈ (G ++ [g]).flatten, some b ≠ v.ownBlock := fun b hb e => (hm b hb).elim (h.out b e.symm) (hd2 b e.symm)
  have hk : ∀ b ∈ (G ++ [g]).flatten, w'.heap[b]? = w.heap[b]? := fun b hb => hg.block b (hlt b hb) (hne b hb)
  refine ⟨?_, by simp [h.ul], by simp [h.gl], fun i y z q hy hz hq => ?_, ?_, fun b hb => ?_⟩
  · rw [rcs_push h.ul]; simpa using ho
  · by_cases hi : i < rs.length
    · rw [List.getElem?_append_left hi] at hy
      rw [List.getElem?_append_left (by rw [h.ul]; exact hi)] at hz
      rw [List.getElem?_append_left (by rw [h.gl]; exact hi)] at hq
      exact (h.row i y z q hy hz hq).keep hg.size fun b hb => hk b (by simp; exact .inl ⟨q, List.mem_of_getElem? hq, hb⟩)
    · have hl : i < (rs ++ [x]).length := (List.getElem?_eq_some_iff.1 hy).1
      obtain rfl : i = rs.length := by simp at hl; omega
      rw [List.getElem?_append_right (Nat.le_refl _)] at hy
      rw [List.getElem?_append_right (by rw [h.ul]; exact Nat.le_refl _)] at hz
      rw [List.getElem?_append_right (by rw [h.gl]; exact Nat.le_refl _)] at hq
      simp [h.ul, h.gl] at hy hz hq
      subst hy hz hq
      exact hR.keep hg.size fun b hb => hk b (by simp; exact .inr hb)
  · refine Own.keep (w := w) ⟨?_, fun b hb => (hm b hb).elim (h.free.2.1 b) (hO.2.1 b), fun b hb => (hm b hb).elim (h.free.2.2 b) (hO.2.2 b)⟩ hk
    rw [List.flatten_append, List.nodup_append]
    refine ⟨h.free.1, by simpa using hO.1, fun a ha b hb => ?_⟩
    rintro rfl
    exact hd1 a ha (by simpa using hb)
  · intro hx
    rcases hat b hb with e | e
    · exact hne b hx e.symm
    · have := hlt b hx; omega
theorem RelOwn.shape (h : RelOwn w N v rs us G) : ∃ a c, v = .slice a rs.length c := by
  rcases h.own.2 with ⟨rfl, h0⟩ | ⟨g, cap, cur, hv, _⟩
  · exact ⟨none, 0, by rw [h0]⟩
  · exact ⟨_, cap, hv⟩
theorem RelOwn.relsF (h : RelOwn w N v rs us G) : ∃ F, RelsF w v rs F ∧ Own w N F := by
  have hlt := ownsRow_lt h.own
  have hGl := h.lt
  by_cases hne : rs = []
  · refine ⟨[], ?_, by simp [Own, Free]⟩
    have hgl := h.gl
    subst hne
    rcases h.own.2 with ⟨rfl, _⟩ | ⟨g, cap, cur, rfl, _, _, hn, hm, _⟩
    · exact ⟨none, 0, G, rfl, Nat.le_refl _, by simp, fun _ => rfl, hgl, fun _ => rfl, fun x => absurd rfl x⟩
    · exact ⟨_, cap, G, rfl, hn, hm, (fun x => by cases x), hgl, fun _ => rfl, fun x => absurd rfl x⟩
  have hp : 0 < rs.length := List.length_pos_iff.2 hne
  obtain ⟨hl, ho⟩ := h.own
  rcases ho with ⟨_, h0⟩ | ⟨g, cap, cur, rfl, hg, hc, hn, hm, hs, ht⟩
  · omega
  have hgo : g ∉ G.flatten := h.out g rfl
  refine ⟨g :: G.flatten, ⟨_, cap, G, rfl, hn, hm, (fun x => by cases x), h.gl, fun x => absurd x hne, fun _ => ⟨g, 0, rfl, (hlt g rfl).2, rfl, fun i x q hx hq => ?_⟩⟩, List.nodup_cons.2 ⟨hgo, h.free.1⟩, fun b hb => ?_, fun b hb o => ?_⟩
  · have hi : i < rs.length := (List.getElem?_eq_some_iff.1 hx).1
    have hiu : i < us.length := by rw [h.ul]; exact hi
    obtain ⟨e0, e1, e2⟩ := rcs_at h.ul (i := i) (u := us[i]) (x := x) (by simp) hx
    have get : ∀ j u, j < rs.length * 3 → (rcs us rs)[j]? = some u → w.cell? ⟨g, j, none⟩ = some u := by
      intro j u hj hu
      simp only [World.cell?, hc]
      rw [← ht, List.getElem?_take, if_pos hj, Array.getElem?_toList] at hu
      simpa using hu
    exact ⟨us[i], by rw [Nat.zero_add]; exact get _ _ (by omega) e0, by rw [Nat.zero_add]; exact get _ _ (by omega) e1, by rw [Nat.zero_add]; exact get _ _ (by omega) e2, h.row i x us[i] q hx (by simp) hq⟩
  · rcases List.mem_cons.1 hb with rfl | hb
    · exact hg
    · exact h.free.2.1 b hb
  · rcases List.mem_cons.1 hb with rfl | hb
    · simp [World.frozen?, hc]
    · exact h.free.2.2 b hb o
end
end Go.Proofs.YtlobjpdkjlmglaaGreat
/- Own text. The cutter's list of relations: several, by the bound method rel. -/
namespace Go.Proofs.YtlobjpdkjlmglaaGreat
open Go.RowKit Go.Deep
set_option linter.unusedVariables false
theorem RelOwn.keepF {w w' : World} {N : Nat} {v : Value} {rs : List R3} {us : List Value} {G : List (List Nat)} (h : RelOwn w N v rs us G) (hs : w.heap.size ≤ w'.heap.size) (hv : ∀ b, v.ownBlock = some b → w'.heap[b]? = w.heap[b]?) (hk : ∀ b ∈ G.flatten, w'.heap[b]? = w.heap[b]?) : RelOwn w' N v rs us G :=
  ⟨ownsRow_keep h.own hv, h.ul, h.gl, fun i x u g hx hu hg => (h.row i x u g hx hu hg).keep hs fun b hbg => hk b (List.mem_flatten.2 ⟨g, List.mem_of_getElem? hg, hbg⟩), h.free.keep hk, h.out⟩
/-- block P is a list of relations in memory of its own from N on. -/
structure Lr (w : World) (N P : Nat) (u : Value) (rs : List R3) (us : List Value) (G : List (List Nat)) : Prop where
  le : N ≤ P
  blk : w.heap[P]? = some (.cells #[u] 160 (0, 0))
  own : RelOwn w N u rs us G
  out : P ∉ G.flatten
section
variable {w w' : World} {N P : Nat} {u : Value} {rs : List R3} {us : List Value} {G : List (List Nat)}
theorem Lr.lt (h : Lr w N P u rs us G) : P < w.heap.size := heap_lt h.blk
theorem Lr.keep (h : Lr w N P u rs us G) (hs : w.heap.size ≤ w'.heap.size) (hb : ∀ b, N ≤ b → b < w.heap.size → w'.heap[b]? = w.heap[b]?) : Lr w' N P u rs us G :=
  ⟨h.le, (hb P h.le h.lt).trans h.blk, h.own.keep hs hb, h.out⟩
theorem Lr.kc {C E : Nat} (h : Lr w N P u rs us G) (hk : Kc C E w w') (hC : C < N) (hE : E < N) : Lr w' N P u rs us G := h.keep hk.size fun b h1 h2 => hk.block b h2 (by omega) (by omega)
theorem Lr.below (h : Lr w N P u rs us G) (hb : Below w.heap.size w w') : Lr w' N P u rs us G := h.keep hb.size fun b _ h2 => hb.block b h2
end
theorem infoR5 : (Tryz.prog.info? 75).map (fun i => (i.zero, i.size, i.bytes)) = some (some (.agg #[.string ⟨#[]⟩, .int .i64 0, .slice none 0 0]), 3, 48) := by kernel_rfl
set_option maxHeartbeats 2000000 in
set_option maxRecDepth 100000 in
theorem radd_any (N P : Nat) (u v : Value) (rs : List R3) (us : List Value) (G : List (List Nat)) (x : R3) (g : List Nat) (b0 : Nat) (w : World) (h : Lr w N P u rs us G) (hx : w.heap[b0]? = some (.cells #[.string x.s, .int .i64 x.W, v] 75 (0, 0)))
    (hR : RowsF w v x.cs g) (hO : Own w N g) (hd1 : ∀ b ∈ G.flatten, b ∉ g) (hd2 : ∀ b, u.ownBlock = some b → b ∉ g) (hd3 : P ∉ g) (hlen : rs.length ≤ 100000) :
    Calls Tryz.prog 113 #[.pointer (some ⟨P, 0, none⟩), .slice (some ⟨b0, 0, none⟩) 1 1] w fun e w' => e = .returned (.tuple #[]) ∧ (∃ u' us' G', Lr w' N P u' (rs ++ [x]) us' G') ∧ Below N w w' := by
  obtain ⟨i0, hi, hz0, hz1, hz2⟩ := info_parts infoR5
  have hlt := h.lt
  obtain ⟨hle, hbk, hown, hout⟩ := h
  have hne := own_typ hown.own hbk (by decide)
  have c0 : w.cell? ⟨P, 0, none⟩ = some u := by rw [Lib.cell_of_heap hbk]; rfl
  have ho := hown.own
  have hvs : ∃ a c, v = .slice a x.cs.length c := by
    obtain ⟨a, c, _, h1, _⟩ := hR
    exact ⟨a, c, h1⟩
  obtain ⟨va, vc, rfl⟩ := hvs
  go_enter Tryz.func113, Tryz.ntmps113
  go_wp2_with (at_builtin; refine wpList_append_own_at _ rfl _ _ 25 rfl N 75 i0 _ 3 48 Tryz.underlying25 hi hz0 hz1 hz2 rfl (by decide) _ _ _ rfl ho ⟨b0, 0, none⟩ 1 1 [.string x.s, .int .i64 x.W, .slice va x.cs.length vc] rfl (by simp) ?c1 ?c2 ?c3 ?c4 ?c5 ?_)
  case c1 => exact World.news_of_block (cs := #[.string x.s, .int .i64 x.W, .slice va x.cs.length vc]) (t := 75) (fr := (0, 0)) hx
  case c2 => simp [Value.oneCell']
  case c3 => unfold maxLen; omega
  case c4 => omega
  case c5 => omega
  intro v' w2 hown' hgrow _ hat
  have hbP : w2.heap[P]? = some (.cells #[u] 160 (0, 0)) := (hgrow.block P hlt (fun e => hne e.symm)).trans hbk
  have d0 : w2.cell? ⟨P, 0, none⟩ = some u := by rw [Lib.cell_of_heap hbP]; rfl
  have f0 : w2.frozen? ⟨P, 0, none⟩ = false := Lib.frozen_of_heap hbP 0
  have hne' := own_typ hown' hbP (by decide)
  have HB : Hid (Below N w w2) := (Below.refl N w).grown hgrow (by omega) (fun k hk => (ho.lt k hk).1)
  have hp := RelOwn.push (x := x) hown hR hO hd1 hd2 hown' hgrow (fun b hb => by
    rcases hat with e | e
    · left; rw [← e]; exact hb
    · right; rw [e] at hb; cases hb; exact Nat.le_refl _)
  have HP : Hid (RelOwn w2 N v' (rs ++ [x]) (us ++ [.slice va x.cs.length vc]) (G ++ [g])) := hp
  have hs : ∃ ao n' cap, v' = .slice ao n' cap := by
    rcases hown'.2 with ⟨hv, _⟩ | ⟨g, cap, cur, hv, _⟩ <;> exact ⟨_, _, _, hv⟩
  obtain ⟨ao, n', cap, rfl⟩ := hs
  clear hgrow hown hp ho hown' hat hR hO
  go_wp2
  go_end0
  have hPo : P ∉ (G ++ [g]).flatten := by simp only [List.flatten_append, List.mem_append, not_or]; exact ⟨hout, by simpa using hd3⟩
  refine ⟨rfl, ⟨_, _, _, hle, by rw [set_blk hbP]; rfl, HP.out.keepF (by simp) (fun b hv => Below.heap_setCell _ _ _ _ (by rintro rfl; exact hne' hv)) (fun b hb => Below.heap_setCell _ _ _ _ (by rintro rfl; exact hPo hb)), hPo⟩, HB.out.setCell (p := ⟨P, 0, none⟩) hle _⟩
set_option maxHeartbeats 2000000 in
set_option maxRecDepth 100000 in
theorem rall_any (N P : Nat) (u : Value) (rs : List R3) (us : List Value) (G : List (List Nat)) (w : World) (h : Lr w N P u rs us G) :
    Calls Tryz.prog 114 #[.pointer (some ⟨P, 0, none⟩)] w fun e w' => e = .returned u ∧ w' = w := by
  have c0 : w.cell? ⟨P, 0, none⟩ = some u := by rw [Lib.cell_of_heap h.blk]; rfl
  obtain ⟨ao, n', rfl⟩ := h.own.shape
  go_enter Tryz.func114, Tryz.ntmps114
  go_wp2
  go_returns
  exact ⟨rfl, rfl⟩
set_option maxHeartbeats 4000000 in
set_option maxRecDepth 100000 in
theorem sevR_any (C E cap : Nat) (s : ByteArray) (q : Nat × Bool) (xs : List Int) (e : Nat) (w : World) (h : Ct w C E cap s q (xs ++ [(e : Int)])) (hr : xs.length + 2 ≤ cap) (hq : q.1 ≤ e) (he : e ≤ s.size) (hs : s.size ≤ 1048576) (hl : xs.length ≤ 10000) :
    Calls Tryz.prog 78 #[.pointer (some ⟨C, 0, none⟩), .func (.func 79) #[.pointer (some ⟨C, 0, none⟩)] #[]] w fun r w' => ∃ u us G, r = .returned u ∧ RelOwn w' w.heap.size u (rln s e (nm s e 1 q).2 (nm s e 1 q).1.toNat).1 us G ∧ Ct w' C E cap s (rln s e (nm s e 1 q).2 (nm s e 1 q).1.toNat).2 (xs ++ [(e : Int)]) ∧ Kc C E w w' := by
  have hln : (xs ++ [(e : Int)]).length + 1 ≤ cap := by simp; omega
  have hbd := nm_bd (s := s) (k := 1) he hq (by omega)
  have hb1 := nm_bd1 (s := s) he hq
  have hn : (nm s e 1 q).1 = ((nm s e 1 q).1.toNat : Int) := by omega
  have hCl := h.ltC
  have hEl := h.ltE
  go_enter Tryz.func78, Tryz.ntmps78
  go_wp2_with fail
  refine Calls.mono (cnum_any C E cap s q xs e 1 _ (h.below (by repeat (first | (with_reducible exact Below.refl _ _) | (with_reducible refine Below.drew ?_) | (with_reducible refine Below.alloc ?_ ?hh _; case hh => first | (simp; done) | (simp; omega) | omega) | (with_reducible refine Below.setCell ?_ ?hh _; case hh => first | (simp; done) | (simp; omega) | omega) | refine bstep (by assumption) (by first | (simp; done) | (simp; omega) | omega) ?_))) hq he (by omega) hs hl) ?_
  rintro r w1 ⟨rfl, hT⟩
  obtain ⟨hC1, hK1⟩ := hT.room hln
  rw [hn]
  have hq1 : (nm s e 1 q).2.1 ≤ e := nm_at hq
  have hm : (nm s e 1 q).1.toNat ≤ 255 := by omega
  have hL1 : Lr w1 w.heap.size w.heap.size (.slice none 0 0) [] [] [] := by
    refine ⟨Nat.le_refl _, ?_, ⟨⟨rfl, .inl ⟨rfl, rfl⟩⟩, rfl, rfl, fun i x u g hx => by simp at hx, by simp [Own, Free], fun b _ => by simp⟩, by simp⟩
    exact (hK1.block _ (by simp) (by omega) (by omega)).trans (heap_alloc_new w _)
  have hKw : Kc C E w w1 := (Kc.of_below (by repeat (first | (with_reducible exact Below.refl _ _) | (with_reducible refine Below.drew ?_) | (with_reducible refine Below.alloc ?_ ?hh _; case hh => first | (simp; done) | (simp; omega) | omega) | (with_reducible refine Below.setCell ?_ ?hh _; case hh => first | (simp; done) | (simp; omega) | omega) | refine bstep (by assumption) (by first | (simp; done) | (simp; omega) | omega) ?_))).trans hK1 (.inl rfl)
  clear hn hT hK1 h
  generalize hN : (nm s e 1 q).1.toNat = n at *
  generalize hQ : (nm s e 1 q).2 = q1 at *
  go_wp2_with fail
  go_loopw [9] (fun i wr => ∃ (k : Nat) (u : Value) (us : List Value) (G : List (List Nat)), k ≤ n ∧ i = .int .i64 k ∧ Ct wr C E cap s (rln s e q1 k).2 (xs ++ [(e : Int)]) ∧ Lr wr w.heap.size w.heap.size u (rln s e q1 k).1 us G ∧ Kc C E w wr) (fun i _ => n - (intOf i).toNat)
  case atStart => exact ⟨0, _, _, _, Nat.zero_le _, rfl, hC1, hL1, hKw⟩
  case round =>
    clear hC1 hL1 hKw
    obtain ⟨k, u, us, G, hk, rfl, hC, hL, hK⟩ := hrel
    by_cases hlt : k < n
    · have hqk : (rln s e q1 k).2.1 ≤ e := rln_at hq1 k
      have hcl : (rln s e q1 k).1.length = k := rln_len k
      have HN : Hid (rln s e q1 (k + 1) = ((rln s e q1 k).1 ++ [(rl s e (rln s e q1 k).2).1], (rl s e (rln s e q1 k).2).2)) := rfl
      have hGl := hL.own.lt
      have hul := ownsRow_lt hL.own.own
      have hPl := hL.lt
      go_wp2_with (first | (go_at_call 79; with_reducible refine Calls.mono (crel_any C E cap s _ xs e _ hC hr hqk he hs hl) ?_) | fail)
      rintro r w2 ⟨v2, us2, G2, rfl, hBag, hC2, hK2⟩
      obtain ⟨F2, hF2, hO2⟩ := hBag.rowsF
      obtain ⟨a2, c2, rfl⟩ := hBag.shape
      have hL2 := hL.kc hK2 hCl hEl
      have hK3 := hK.trans hK2 (.inl rfl)
      have hzr := hK.size
      clear hC hL hK hK2 hBag
      generalize (rl s e (rln s e q1 k).2).1 = X at *
      go_wp2_with (first | (go_at_call 113; with_reducible refine Calls.mono (radd_any w.heap.size w.heap.size u (.slice a2 X.cs.length c2) _ us G X F2 w2.heap.size _ (hL2.below (by repeat (first | (with_reducible exact Below.refl _ _) | (with_reducible refine Below.drew ?_) | (with_reducible refine Below.alloc ?_ ?hh _; case hh => first | (simp; done) | (simp; omega) | omega) | (with_reducible refine Below.setCell ?_ ?hh _; case hh => first | (simp; done) | (simp; omega) | omega) | refine bstep (by assumption) (by first | (simp; done) | (simp; omega) | omega) ?_))) (heap_alloc_new w2 _) (hF2.below (by repeat (first | (with_reducible exact Below.refl _ _) | (with_reducible refine Below.drew ?_) | (with_reducible refine Below.alloc ?_ ?hh _; case hh => first | (simp; done) | (simp; omega) | omega) | (with_reducible refine Below.setCell ?_ ?hh _; case hh => first | (simp; done) | (simp; omega) | omega) | refine bstep (by assumption) (by first | (simp; done) | (simp; omega) | omega) ?_))) ?o1 ?o2 ?o3 ?o4 ?o5) ?_) | fail)
      case o1 => exact ⟨hO2.1, fun b hb => Nat.le_trans hzr (hO2.2.1 b hb), fun b hb i => (frozen_blk (Below.heap_alloc _ _ _ (hF2.lt b hb))).trans (hO2.2.2 b hb i)⟩
      case o2 => intro b hb hb2; have := hO2.2.1 b hb2; have := hGl b hb; omega
      case o3 => intro b hb hb2; have := hO2.2.1 b hb2; have := (hul b hb).2; omega
      case o4 => intro hb2; have := hO2.2.1 _ hb2; omega
      case o5 => omega
      rintro r w3 ⟨rfl, ⟨u3, us3, G3, hL3⟩, hb3⟩
      have hbA : Below w2.heap.size w2 (w2.alloc (.cells #[.string X.s, .int .i64 X.W, .slice a2 X.cs.length c2] 75)) := by repeat (first | (with_reducible exact Below.refl _ _) | (with_reducible refine Below.drew ?_) | (with_reducible refine Below.alloc ?_ ?hh _; case hh => first | (simp; done) | (simp; omega) | omega) | (with_reducible refine Below.setCell ?_ ?hh _; case hh => first | (simp; done) | (simp; omega) | omega) | refine bstep (by assumption) (by first | (simp; done) | (simp; omega) | omega) ?_)
      have hC3 : Ct w3 C E cap s (rln s e q1 (k + 1)).2 (xs ++ [(e : Int)]) := by
        have h1 := hC2.below hbA
        rw [HN.out]
        exact h1.keep (hb3.block C hCl) (hb3.block E hEl)
      have hK4 : Kc C E w w3 := (hK3.trans (Kc.of_below hbA) (.inl rfl)).above hb3
      have hL4 : Lr w3 w.heap.size w.heap.size u3 (rln s e q1 (k + 1)).1 us3 G3 := by rw [HN.out]; exact hL3
      clear hC2 hL2 hL3 hb3 hbA hK3 HN hGl hul hF2 hO2
      go_wp2_with fail
      exact ⟨⟨k + 1, u3, us3, G3, hlt, by simp, hC3, hL4, hK4⟩, by simp [intOf]; omega⟩
    · obtain rfl : k = n := by omega
      go_wp2_with (first | (go_at_call 114; with_reducible refine Calls.mono (rall_any w.heap.size w.heap.size u _ us G _ hL) ?_) | fail)
      rintro r w2 ⟨rfl, hw2⟩
      obtain rfl : wr = w2 := hw2.symm
      go_wp2
      go_returns
      have ho := hL.own
      subst hQ hN
      exact ⟨u, us, G, rfl, ho, hC, hK⟩
end Go.Proofs.YtlobjpdkjlmglaaGreat
/- Own text. The contract of impl.relsOk. -/
namespace Go.Proofs.YtlobjpdkjlmglaaGreat
open Go.RowKit
set_option linter.unusedVariables false
set_option maxHeartbeats 4000000 in
set_option maxRecDepth 100000 in
theorem relsOk_any (v : Value) (rs : List R3) (w : World) (hw : RsWf rs) (hr : RelsIs w v rs) :
    Calls Tryz.prog 51 #[v] w fun e w' => e = .returned (.bool (okRels rs)) ∧ Below w.heap.size w w' := by
  obtain ⟨a, c, b, o, rfl, hl, hc, ha⟩ := hr.pick
  unfold maxLen at hc
  clear hr
  by_cases h0 : (rs.length : Int) = 0
  · have hz : ((rs.length : Int) == 0) = true := by simpa using h0
    go_enter Tryz.func51, Tryz.ntmps51
    go_wp2
    go_returns
    exact ⟨ret_bool (by simp [okRels, inB]; omega), by go_grown⟩
  have hz : ((rs.length : Int) == 0) = false := by simpa using h0
  by_cases h2 : 20 < (rs.length : Int)
  · go_enter Tryz.func51, Tryz.ntmps51
    go_wp2
    go_returns
    exact ⟨ret_bool (by simp [okRels, inB]; omega), by go_grown⟩
  have HB : Hid (okRels rs = okTs none rs) := by
    have hf : inB rs.length 1 20 = true := by simp [inB]; omega
    simp [Hid, okRels, hf]
  clear h0
  go_enter Tryz.func51, Tryz.ntmps51
  go_wp2
  go_loopw [15] (fun i wr => ∃ (k : Nat) (q : Int), k ≤ rs.length ∧ q = k ∧ i = .int .i64 q ∧ Below w.heap.size w wr ∧ okTs none rs = okTs (prevT rs k) (rs.drop k)) (fun i _ => rs.length - (intOf i).toNat)
  case atStart => exact ⟨0, 0, Nat.zero_le _, rfl, rfl, by go_grown, by simp [prevT]⟩
  case round =>
    obtain ⟨k, q, hk, hq, rfl, hb, heq⟩ := hrel
    have HE : Hid (okTs none rs = okTs (prevT rs k) (rs.drop k)) := heq
    have hzb := hb.size
    clear heq
    by_cases hlt : k < rs.length
    · obtain ⟨rfl, hblt, hL⟩ := ha k hlt
      obtain ⟨x, u, hx, c0, c1, c2, hR, hbr⟩ := hL.at hblt hb hlt
      obtain ⟨ur, lr, cr, rfl⟩ := hR.shape
      obtain ⟨hxs, _, hxw⟩ := hw x (List.mem_of_getElem? hx)
      have HS : Hid (okTs (prevT rs k) (rs.drop k) = (nameB x.s && okBag x.W x.cs && okPrevT (prevT rs k) x && okTs (prevT rs (k + 1)) (rs.drop (k + 1)))) := okTs_step hx
      by_cases hnm : nameB x.s = true
      rotate_left
      · have hf : nameB x.s = false := by simpa using hnm
        clear ha hw hL hx
        subst hq
        go_wp2_with (first | (go_at_call 50; refine (implName_any x.s _ hxs).mono ?_; rintro e w1 ⟨rfl, rfl⟩) | (go_at_call 73; refine Calls.mono (implBagOk_any x.W _ x.cs _ hxw (hR.below (by repeat (first | exact Below.refl _ _ | refine Below.drew ?_ | refine Below.alloc ?_ (by first | (simp; done) | (simp; omega) | omega) _ | refine Below.setCell ?_ (by first | (simp; done) | (simp; omega) | omega) _ | refine bstep (by assumption) (by first | (simp; done) | (simp; omega) | omega) ?_)))) ?_; rintro e w2 ⟨rfl, hb2⟩; have hz2 := hb2.size; (try simp at hz2); have n2 : w2.cell? ⟨wr.heap.size, 0, none⟩ = some (.string x.s) := cell_later hb2 (by go_simp)) | fail)
        go_returns
        refine ⟨ret_bool ?_, by repeat (first | exact Below.refl _ _ | refine Below.drew ?_ | refine Below.alloc ?_ (by first | (simp; done) | (simp; omega) | omega) _ | refine Below.setCell ?_ (by first | (simp; done) | (simp; omega) | omega) _ | refine bstep (by assumption) (by first | (simp; done) | (simp; omega) | omega) ?_)⟩
        rw [HB.out, HE.out, HS.out, hf]
        simp
      by_cases hpl : okBag x.W x.cs = true
      rotate_left
      · have hf : okBag x.W x.cs = false := by simpa using hpl
        clear ha hw hL hx
        subst hq
        go_wp2_with (first | (go_at_call 50; refine (implName_any x.s _ hxs).mono ?_; rintro e w1 ⟨rfl, rfl⟩) | (go_at_call 73; refine Calls.mono (implBagOk_any x.W _ x.cs _ hxw (hR.below (by repeat (first | exact Below.refl _ _ | refine Below.drew ?_ | refine Below.alloc ?_ (by first | (simp; done) | (simp; omega) | omega) _ | refine Below.setCell ?_ (by first | (simp; done) | (simp; omega) | omega) _ | refine bstep (by assumption) (by first | (simp; done) | (simp; omega) | omega) ?_)))) ?_; rintro e w2 ⟨rfl, hb2⟩; have hz2 := hb2.size; (try simp at hz2); have n2 : w2.cell? ⟨wr.heap.size, 0, none⟩ = some (.string x.s) := cell_later hb2 (by go_simp)) | fail)
        go_returns
        refine ⟨ret_bool ?_, by repeat (first | exact Below.refl _ _ | refine Below.drew ?_ | refine Below.alloc ?_ (by first | (simp; done) | (simp; omega) | omega) _ | refine Below.setCell ?_ (by first | (simp; done) | (simp; omega) | omega) _ | refine bstep (by assumption) (by first | (simp; done) | (simp; omega) | omega) ?_)⟩
        rw [HB.out, HE.out, HS.out, hf]
        simp
      rcases Nat.eq_zero_or_pos k with hk0 | hk0
      · subst hk0
        obtain rfl : q = 0 := by simpa using hq
        rw [Nat.zero_mul, Nat.add_zero] at c0 c1 c2
        clear ha hw hL hx hq
        go_wp2_with (first | (go_at_call 50; refine (implName_any x.s _ hxs).mono ?_; rintro e w1 ⟨rfl, rfl⟩) | (go_at_call 73; refine Calls.mono (implBagOk_any x.W _ x.cs _ hxw (hR.below (by repeat (first | exact Below.refl _ _ | refine Below.drew ?_ | refine Below.alloc ?_ (by first | (simp; done) | (simp; omega) | omega) _ | refine Below.setCell ?_ (by first | (simp; done) | (simp; omega) | omega) _ | refine bstep (by assumption) (by first | (simp; done) | (simp; omega) | omega) ?_)))) ?_; rintro e w2 ⟨rfl, hb2⟩; have hz2 := hb2.size; (try simp at hz2); have n2 : w2.cell? ⟨wr.heap.size, 0, none⟩ = some (.string x.s) := cell_later hb2 (by go_simp)) | fail)
        go_region
        go_wp2
        go_roundw
        case rel =>
          refine ⟨1, 1, hlt, rfl, by simp, by repeat (first | exact Below.refl _ _ | refine Below.drew ?_ | refine Below.alloc ?_ (by first | (simp; done) | (simp; omega) | omega) _ | refine Below.setCell ?_ (by first | (simp; done) | (simp; omega) | omega) _ | refine bstep (by assumption) (by first | (simp; done) | (simp; omega) | omega) ?_), ?_⟩
          rw [HE.out, HS.out, hnm, hpl, prevT_zero]
          simp [okPrevT]
        case measure => simp [intOf]; omega
      · obtain ⟨j, rfl⟩ : ∃ j, k = j + 1 := ⟨k - 1, by omega⟩
        obtain rfl : q = (j : Int) + 1 := by omega
        obtain ⟨y, t, hy, d0, d1, d2', hT, _⟩ := hL.at hblt hb (show j < rs.length by omega)
        have HP : Hid (prevT rs (j + 1) = some y) := prevT_succ hy
        clear ha hw hL hx hy hq d1 d2' hT
        go_wp2_with (first | (go_at_call 50; refine (implName_any x.s _ hxs).mono ?_; rintro e w1 ⟨rfl, rfl⟩) | (go_at_call 73; refine Calls.mono (implBagOk_any x.W _ x.cs _ hxw (hR.below (by repeat (first | exact Below.refl _ _ | refine Below.drew ?_ | refine Below.alloc ?_ (by first | (simp; done) | (simp; omega) | omega) _ | refine Below.setCell ?_ (by first | (simp; done) | (simp; omega) | omega) _ | refine bstep (by assumption) (by first | (simp; done) | (simp; omega) | omega) ?_)))) ?_; rintro e w2 ⟨rfl, hb2⟩; have hz2 := hb2.size; (try simp at hz2); have n2 : w2.cell? ⟨wr.heap.size, 0, none⟩ = some (.string x.s) := cell_later hb2 (by go_simp); have d2 : w2.cell? ⟨b, o + j * 3, none⟩ = some (.string y.s) := cell_later hb2 (by go_simp)) | fail)
        have hw1 : IntKind.i64.wrap (j : Int) = j := by rw [IntKind.wrap_i64]; omega
        have hw2 : IntKind.i64.wrap ((j : Int) + 1 - 1) = j := by rw [IntKind.wrap_i64]; omega
        have hi0 : (0 : Int) ≤ j := by omega
        have hi1 : (j : Int) < rs.length := by omega
        have hi2 : (0 : Int) < (j : Int) + 1 := by omega
        have HQ : Hid (okPrevT (prevT rs (j + 1)) x = Op.bytesLess y.s.toList x.s.toList) := by rw [HP.out]; rfl
        go_region_held3 (fun w' => w'.cell? ⟨wr.heap.size, 0, none⟩ = some (.string x.s) ∧ w'.cell? ⟨b, o + j * 3, none⟩ = some (.string y.s)) (refine ⟨?_, ?_⟩ <;> first | (go_simp; done) | (exact cell_later (by assumption) (by go_simp))) (fail)
        go_wp2
        · have hcf : Op.bytesLess y.s.toList x.s.toList = false := by
            have h9 : (!Op.bytesLess y.s.toList x.s.toList) = true := by assumption
            simpa using h9
          go_returns
          refine ⟨ret_bool ?_, by repeat (first | exact Below.refl _ _ | refine Below.drew ?_ | refine Below.alloc ?_ (by first | (simp; done) | (simp; omega) | omega) _ | refine Below.setCell ?_ (by first | (simp; done) | (simp; omega) | omega) _ | refine bstep (by assumption) (by first | (simp; done) | (simp; omega) | omega) ?_)⟩
          rw [HB.out, HE.out, HS.out, HQ.out, hcf]
          simp
        · have hcmp : Op.bytesLess y.s.toList x.s.toList = true := by
            have h9 : (!Op.bytesLess y.s.toList x.s.toList) = false := by assumption
            simpa using h9
          refine ⟨⟨j + 1 + 1, (j : Int) + 1 + 1, hlt, by omega, rfl, by repeat (first | exact Below.refl _ _ | refine Below.drew ?_ | refine Below.alloc ?_ (by first | (simp; done) | (simp; omega) | omega) _ | refine Below.setCell ?_ (by first | (simp; done) | (simp; omega) | omega) _ | refine bstep (by assumption) (by first | (simp; done) | (simp; omega) | omega) ?_), ?_⟩, by simp [intOf]; omega⟩
          rw [HE.out, HS.out, HQ.out, hnm, hpl, hcmp]
          simp
    · clear ha hw
      go_wp2
      go_returns
      refine ⟨ret_bool ?_, hb⟩
      rw [HB.out, HE.out, List.drop_eq_nil_of_le (by omega)]
      rfl
end Go.Proofs.YtlobjpdkjlmglaaGreat
/- Own text. slices.Contains of texts. -/
namespace Go.Proofs.YtlobjpdkjlmglaaGreat
open Go.RowKit Go.Deep Go.ChangeShapes Go.WideShapes
set_option linter.unusedVariables false
theorem containsS_has (L : List ByteArray) (x : ByteArray) : Lib.containsS L x = hasS L x := by
  rw [Bool.eq_iff_iff, Lib.containsS_iff]
  unfold hasS
  rw [List.any_eq_true]
  constructor
  · exact fun h => ⟨x, h, by simp⟩
  · rintro ⟨y, hy, e⟩
    have e' : y = x := bytes_same (by simpa using e)
    rw [← e']
    exact hy
/-- slices.Contains of texts. -/
theorem contains_any (v : Value) (L : List ByteArray) (g : List Nat) (x : ByteArray) (w : World) (h : StrsF w v L g) :
    Calls Tryz.prog 119 #[v, .string x] w fun e w' => e = .returned (.bool (hasS L x)) ∧ w' = w := by
  obtain ⟨a, c, rfl, hl, hc, h0, h1⟩ := h
  unfold maxLen at hc
  by_cases hne : L = []
  · subst hne
    exact Tryz.slices_Contains_string_empty a c x w
  · obtain ⟨b, o, rfl, hlt, rfl, hcell⟩ := h1 hne
    have := Tryz.slices_Contains_string b o L.length c L x w (Nat.le_refl _) (by omega) fun j hj => by
      rw [hcell j L[j] (by simp)]
      simp [List.getD_eq_getElem?_getD, hj]
    rw [List.take_length, containsS_has] at this
    exact this
end Go.Proofs.YtlobjpdkjlmglaaGreat
/- Own text. The contract of spec.l03Has at any slice of texts; a slice of texts that is cut. -/
namespace Go.Proofs.YtlobjpdkjlmglaaGreat
open Go.RowKit Go.Deep
set_option linter.unusedVariables false
theorem StrsF.cut {w : World} {a : Option Addr} {l c : Nat} {ns : List ByteArray} {g : List Nat} (h : StrsF w (.slice a l c) ns g) {k : Nat} (hk : k ≤ ns.length) : ∃ g', StrsF w (.slice a k c) (ns.take k) g' := by
  obtain ⟨a', c', e, hl, hc, h0, h1⟩ := h
  obtain ⟨rfl, rfl, rfl⟩ : a = a' ∧ l = ns.length ∧ c = c' := by injection e with e1 e2 e3; exact ⟨e1, e2, e3⟩
  have hkl : (ns.take k).length = k := by rw [List.length_take]; omega
  by_cases hk0 : k = 0
  · subst hk0
    exact ⟨[], a, c, by simp, by simp, hc, fun _ => rfl, fun h => absurd (by simp) h⟩
  · obtain ⟨b, o, ea, hlt, eg, hC⟩ := h1 (by rintro rfl; simp at hk; omega)
    refine ⟨[b], a, c, by rw [hkl], by rw [hkl]; omega, hc, fun h => ?_, fun _ => ⟨b, o, ea, hlt, rfl, fun i n hn => hC i n ?_⟩⟩
    · exfalso; have := congrArg List.length h; rw [hkl] at this; simp at this; omega
    · rw [List.getElem?_take] at hn
      split at hn
      · exact hn
      · cases hn
set_option maxHeartbeats 2000000 in
set_option maxRecDepth 100000 in
theorem l03HasF_any (v : Value) (L : List ByteArray) (g : List Nat) (x : ByteArray) (w : World) (h : StrsF w v L g) :
    Calls Tryz.prog 88 #[v, .string x] w fun e w' => e = .returned (.bool (hasS L x)) ∧ w' = w := by
  obtain ⟨a, c, b, o, rfl, hl, hc, _, ha⟩ := h.pick
  unfold maxLen at hc
  clear h
  go_enter Tryz.func88, Tryz.ntmps88
  go_wp2
  go_loopw [5] (fun i wr => ∃ k : Nat, k ≤ L.length ∧ i = .int .i64 k ∧ wr = w ∧ hasS L x = hasS (L.drop k) x) (fun i _ => L.length - (intOf i).toNat)
  case atStart => exact ⟨0, Nat.zero_le _, rfl, rfl, by simp⟩
  case round =>
    obtain ⟨k, hk, rfl, hwr, heq⟩ := hrel
    replace hwr := hwr.symm
    subst hwr
    have HE : Hid (hasS L x = hasS (L.drop k) x) := heq
    clear heq
    by_cases hkl : k < L.length
    · obtain ⟨m, hm⟩ : ∃ m, L[k]? = some m := ⟨L[k], by simp [hkl]⟩
      obtain ⟨rfl, hblt, _, hcell⟩ := ha k hkl
      have hc0 := hcell k m hm
      have HS : Hid (hasS (L.drop k) x = (m.toList == x.toList || hasS (L.drop (k + 1)) x)) := hasS_step hm
      clear hcell hm ha
      by_cases hmx : m.toList = x.toList
      · have hme : (m.toList == x.toList) = true := by simpa using hmx
        have HB : Hid ((m.toList == x.toList) = true) := hme
        go_wp2
        go_returns
        exact ⟨ret_bool (by rw [HE.out, HS.out, HB.out, Bool.true_or]), rfl⟩
      · have hme : (m.toList == x.toList) = false := by simpa using hmx
        have HB : Hid ((m.toList == x.toList) = false) := hme
        go_wp2
        exact ⟨⟨k + 1, hkl, by simp, by first | rfl | trivial, by rw [HE.out, HS.out, HB.out, Bool.false_or]⟩, by simp [intOf]; omega⟩
    · obtain rfl : k = L.length := by omega
      clear ha
      go_wp2
      go_returns
      exact ⟨ret_bool (by rw [HE.out, List.drop_length]; rfl), rfl⟩
end Go.Proofs.YtlobjpdkjlmglaaGreat
/- Own text. The contracts of impl.columnsOk and impl.SchemasOk. -/
namespace Go.Proofs.YtlobjpdkjlmglaaGreat
open Go.RowKit Go.Deep
set_option linter.unusedVariables false
set_option maxHeartbeats 2000000 in
set_option maxRecDepth 100000 in
theorem columnsOk_any (v : Value) (cs : List ByteArray) (g : List Nat) (w : World) (hw : SsWf cs) (hr : StrsF w v cs g) :
    Calls Tryz.prog 85 #[v] w fun e w' => e = .returned (.bool (okCols cs)) ∧ w' = w := by
  obtain ⟨a, c, b, o, rfl, hl, hc, _, ha⟩ := hr.pick
  unfold maxLen at hc
  by_cases h0 : (cs.length : Int) = 0
  · have hf : inB cs.length 1 12 = false := by simp [inB]; omega
    go_enter Tryz.func85, Tryz.ntmps85
    go_wp2
    go_returns
    exact ⟨ret_bool (by simp [okCols, hf]), rfl⟩
  have hz : ((cs.length : Int) == 0) = false := by simpa using h0
  have hne : ¬ cs = [] := by rintro rfl; simp at h0
  by_cases h1 : (12 : Int) < cs.length
  · have hf : inB cs.length 1 12 = false := by simp [inB]; omega
    go_enter Tryz.func85, Tryz.ntmps85
    go_wp2
    go_returns
    exact ⟨ret_bool (by simp [okCols, hf]), rfl⟩
  have HB : Hid (okCols cs = colsB [] cs) := by
    have hf : inB cs.length 1 12 = true := by simp [inB]; omega
    simp [Hid, okCols, hf]
  go_enter Tryz.func85, Tryz.ntmps85
  go_wp2
  go_loopw [15] (fun i wr => ∃ k : Nat, k ≤ cs.length ∧ i = .int .i64 k ∧ wr = w ∧ colsB [] cs = colsB (cs.take k) (cs.drop k)) (fun i _ => cs.length - (intOf i).toNat)
  case atStart => exact ⟨0, Nat.zero_le _, rfl, rfl, by simp⟩
  case round =>
    obtain ⟨k, hk, rfl, hwr, heq⟩ := hrel
    replace hwr := hwr.symm
    subst hwr
    have HE : Hid (colsB [] cs = colsB (cs.take k) (cs.drop k)) := heq
    clear heq
    by_cases hkl : k < cs.length
    · obtain ⟨m, hm⟩ : ∃ m, cs[k]? = some m := ⟨cs[k], by simp [hkl]⟩
      obtain ⟨rfl, hblt, _, hcell⟩ := ha k hkl
      have hc0 := hcell k m hm
      have hms := hw m (List.mem_of_getElem? hm)
      have HS : Hid (colsB (cs.take k) (cs.drop k) = (nameB m && !hasS (cs.take k) m && colsB (cs.take (k + 1)) (cs.drop (k + 1)))) := colsB_step hm
      obtain ⟨g', hcut⟩ := hr.cut (Nat.le_of_lt hkl)
      clear hcell hm ha hr hw
      by_cases hnm : nameB m = true
      rotate_left
      · have hf : nameB m = false := by simpa using hnm
        have HF : Hid (nameB m = false) := hf
        go_wp2_with (go_at_call 50; refine (implName_any m _ hms).mono ?_; rintro e w1 ⟨rfl, rfl⟩)
        go_returns
        exact ⟨ret_bool (by rw [HB.out, HE.out, HS.out, HF.out]; rfl), rfl⟩
      · have HN : Hid (nameB m = true) := hnm
        have hcon := contains_any _ _ _ m _ hcut
        obtain ⟨hs, HH⟩ : ∃ hs, Hid (hasS (cs.take k) m = hs) := ⟨_, rfl⟩
        rw [HH.out] at hcon
        cases hs with
        | true =>
          go_wp2_with (first | (go_at_call 50; refine (implName_any m _ hms).mono ?_; rintro e w1 ⟨rfl, rfl⟩) | (go_at_call 119; refine Calls.mono hcon ?_; rintro q w2 ⟨rfl, rfl⟩))
          go_returns
          exact ⟨ret_bool (by rw [HB.out, HE.out, HS.out, HN.out, HH.out]; rfl), rfl⟩
        | false =>
          go_wp2_with (first | (go_at_call 50; refine (implName_any m _ hms).mono ?_; rintro e w1 ⟨rfl, rfl⟩) | (go_at_call 119; refine Calls.mono hcon ?_; rintro q w2 ⟨rfl, rfl⟩))
          exact ⟨⟨k + 1, hkl, by simp, by first | rfl | trivial, by rw [HE.out, HS.out, HN.out, HH.out]; rfl⟩, by simp [intOf]; omega⟩
    · obtain rfl : k = cs.length := by omega
      clear ha hr
      go_wp2
      go_returns
      exact ⟨ret_bool (by rw [HB.out, HE.out, List.drop_length]; rfl), rfl⟩
set_option maxHeartbeats 4000000 in
set_option maxRecDepth 100000 in
theorem implSchemasOk_any (v : Value) (rs : List S2) (w : World) (hw : HsWf rs) (hr : SchsIs w v rs) :
    Calls Tryz.prog 49 #[v] w fun e w' => e = .returned (.bool (okSch rs)) ∧ Below w.heap.size w w' := by
  obtain ⟨a, c, b, o, rfl, hl, hc, ha⟩ := hr.pick
  unfold maxLen at hc
  clear hr
  by_cases h2 : 20 < (rs.length : Int)
  · go_enter Tryz.func49, Tryz.ntmps49
    go_wp2
    go_returns
    exact ⟨ret_bool (by simp [okSch, show ¬ rs.length ≤ 20 from by omega]), by go_grown⟩
  have HB : Hid (okSch rs = okHs none rs) := by simp [Hid, okSch, show rs.length ≤ 20 from by omega]
  go_enter Tryz.func49, Tryz.ntmps49
  go_wp2
  go_loopw [10] (fun i wr => ∃ (k : Nat) (q : Int), k ≤ rs.length ∧ q = k ∧ i = .int .i64 q ∧ Below w.heap.size w wr ∧ okHs none rs = okHs (prevH rs k) (rs.drop k)) (fun i _ => rs.length - (intOf i).toNat)
  case atStart => exact ⟨0, 0, Nat.zero_le _, rfl, rfl, by go_grown, by simp [prevH]⟩
  case round =>
    obtain ⟨k, q, hk, hq, rfl, hb, heq⟩ := hrel
    have HE : Hid (okHs none rs = okHs (prevH rs k) (rs.drop k)) := heq
    have hzb := hb.size
    clear heq
    by_cases hlt : k < rs.length
    · obtain ⟨rfl, hblt, hL⟩ := ha k hlt
      obtain ⟨x, u, g, hx, c0, c1, hR, hbr⟩ := hL.at hblt hb hlt
      obtain ⟨ur, cr, rfl, _, _⟩ := hR.shape
      obtain ⟨hxs, hxw⟩ := hw x (List.mem_of_getElem? hx)
      have HS : Hid (okHs (prevH rs k) (rs.drop k) = (nameB x.s && okCols x.cs && okPrevH (prevH rs k) x && okHs (prevH rs (k + 1)) (rs.drop (k + 1)))) := okHs_step hx
      by_cases hnm : nameB x.s = true
      rotate_left
      · have hf : nameB x.s = false := by simpa using hnm
        clear ha hw hL hx
        subst hq
        go_wp2_with (first | (go_at_call 50; refine (implName_any x.s _ hxs).mono ?_; rintro e w1 ⟨rfl, rfl⟩) | (go_at_call 85; refine Calls.mono (columnsOk_any _ x.cs g _ hxw (hR.below (by repeat (first | exact Below.refl _ _ | refine Below.drew ?_ | refine Below.alloc ?_ (by first | (simp; done) | (simp; omega) | omega) _ | refine Below.setCell ?_ (by first | (simp; done) | (simp; omega) | omega) _ | refine bstep (by assumption) (by first | (simp; done) | (simp; omega) | omega) ?_)))) ?_; rintro e w2 ⟨rfl, rfl⟩) | fail)
        go_returns
        refine ⟨ret_bool ?_, by repeat (first | exact Below.refl _ _ | refine Below.drew ?_ | refine Below.alloc ?_ (by first | (simp; done) | (simp; omega) | omega) _ | refine Below.setCell ?_ (by first | (simp; done) | (simp; omega) | omega) _ | refine bstep (by assumption) (by first | (simp; done) | (simp; omega) | omega) ?_)⟩
        rw [HB.out, HE.out, HS.out, hf]
        simp
      by_cases hpl : okCols x.cs = true
      rotate_left
      · have hf : okCols x.cs = false := by simpa using hpl
        clear ha hw hL hx
        subst hq
        go_wp2_with (first | (go_at_call 50; refine (implName_any x.s _ hxs).mono ?_; rintro e w1 ⟨rfl, rfl⟩) | (go_at_call 85; refine Calls.mono (columnsOk_any _ x.cs g _ hxw (hR.below (by repeat (first | exact Below.refl _ _ | refine Below.drew ?_ | refine Below.alloc ?_ (by first | (simp; done) | (simp; omega) | omega) _ | refine Below.setCell ?_ (by first | (simp; done) | (simp; omega) | omega) _ | refine bstep (by assumption) (by first | (simp; done) | (simp; omega) | omega) ?_)))) ?_; rintro e w2 ⟨rfl, rfl⟩) | fail)
        go_returns
        refine ⟨ret_bool ?_, by repeat (first | exact Below.refl _ _ | refine Below.drew ?_ | refine Below.alloc ?_ (by first | (simp; done) | (simp; omega) | omega) _ | refine Below.setCell ?_ (by first | (simp; done) | (simp; omega) | omega) _ | refine bstep (by assumption) (by first | (simp; done) | (simp; omega) | omega) ?_)⟩
        rw [HB.out, HE.out, HS.out, hf]
        simp
      rcases Nat.eq_zero_or_pos k with hk0 | hk0
      · subst hk0
        obtain rfl : q = 0 := by simpa using hq
        rw [Nat.zero_mul, Nat.add_zero] at c0 c1
        clear ha hw hL hx hq
        go_wp2_with (first | (go_at_call 50; refine (implName_any x.s _ hxs).mono ?_; rintro e w1 ⟨rfl, rfl⟩) | (go_at_call 85; refine Calls.mono (columnsOk_any _ x.cs g _ hxw (hR.below (by repeat (first | exact Below.refl _ _ | refine Below.drew ?_ | refine Below.alloc ?_ (by first | (simp; done) | (simp; omega) | omega) _ | refine Below.setCell ?_ (by first | (simp; done) | (simp; omega) | omega) _ | refine bstep (by assumption) (by first | (simp; done) | (simp; omega) | omega) ?_)))) ?_; rintro e w2 ⟨rfl, rfl⟩) | fail)
        go_region
        go_wp2
        go_roundw
        case rel =>
          refine ⟨1, 1, hlt, rfl, by simp, by repeat (first | exact Below.refl _ _ | refine Below.drew ?_ | refine Below.alloc ?_ (by first | (simp; done) | (simp; omega) | omega) _ | refine Below.setCell ?_ (by first | (simp; done) | (simp; omega) | omega) _ | refine bstep (by assumption) (by first | (simp; done) | (simp; omega) | omega) ?_), ?_⟩
          rw [HE.out, HS.out, hnm, hpl, prevH_zero]
          simp [okPrevH]
        case measure => simp [intOf]; omega
      · obtain ⟨j, rfl⟩ : ∃ j, k = j + 1 := ⟨k - 1, by omega⟩
        obtain rfl : q = (j : Int) + 1 := by omega
        obtain ⟨y, t, gy, hy, d0, d1, hT, _⟩ := hL.at hblt hb (show j < rs.length by omega)
        have HP : Hid (prevH rs (j + 1) = some y) := prevH_succ hy
        clear ha hw hL hx hy hq d1 hT
        go_wp2_with (first | (go_at_call 50; refine (implName_any x.s _ hxs).mono ?_; rintro e w1 ⟨rfl, rfl⟩) | (go_at_call 85; refine Calls.mono (columnsOk_any _ x.cs g _ hxw (hR.below (by repeat (first | exact Below.refl _ _ | refine Below.drew ?_ | refine Below.alloc ?_ (by first | (simp; done) | (simp; omega) | omega) _ | refine Below.setCell ?_ (by first | (simp; done) | (simp; omega) | omega) _ | refine bstep (by assumption) (by first | (simp; done) | (simp; omega) | omega) ?_)))) ?_; rintro e w2 ⟨rfl, rfl⟩) | fail)
        have hw1 : IntKind.i64.wrap (j : Int) = j := by rw [IntKind.wrap_i64]; omega
        have hw2 : IntKind.i64.wrap ((j : Int) + 1 - 1) = j := by rw [IntKind.wrap_i64]; omega
        have hi0 : (0 : Int) ≤ j := by omega
        have hi1 : (j : Int) < rs.length := by omega
        have hi2 : (0 : Int) < (j : Int) + 1 := by omega
        have HQ : Hid (okPrevH (prevH rs (j + 1)) x = Op.bytesLess y.s.toList x.s.toList) := by rw [HP.out]; rfl
        go_region_held3 (fun w' => w'.cell? ⟨wr.heap.size, 0, none⟩ = some (.string x.s) ∧ w'.cell? ⟨b, o + j * 2, none⟩ = some (.string y.s)) (refine ⟨?_, ?_⟩ <;> first | (go_simp; done) | (exact cell_later (by assumption) (by go_simp))) (fail)
        go_wp2
        · have hcf : Op.bytesLess y.s.toList x.s.toList = false := by
            have h9 : (!Op.bytesLess y.s.toList x.s.toList) = true := by assumption
            simpa using h9
          go_returns
          refine ⟨ret_bool ?_, by repeat (first | exact Below.refl _ _ | refine Below.drew ?_ | refine Below.alloc ?_ (by first | (simp; done) | (simp; omega) | omega) _ | refine Below.setCell ?_ (by first | (simp; done) | (simp; omega) | omega) _ | refine bstep (by assumption) (by first | (simp; done) | (simp; omega) | omega) ?_)⟩
          rw [HB.out, HE.out, HS.out, HQ.out, hcf]
          simp
        · have hcmp : Op.bytesLess y.s.toList x.s.toList = true := by
            have h9 : (!Op.bytesLess y.s.toList x.s.toList) = false := by assumption
            simpa using h9
          refine ⟨⟨j + 1 + 1, (j : Int) + 1 + 1, hlt, by omega, rfl, by repeat (first | exact Below.refl _ _ | refine Below.drew ?_ | refine Below.alloc ?_ (by first | (simp; done) | (simp; omega) | omega) _ | refine Below.setCell ?_ (by first | (simp; done) | (simp; omega) | omega) _ | refine bstep (by assumption) (by first | (simp; done) | (simp; omega) | omega) ?_), ?_⟩, by simp [intOf]; omega⟩
          rw [HE.out, HS.out, HQ.out, hnm, hpl, hcmp]
          simp
    · clear ha hw
      go_wp2
      go_returns
      refine ⟨ret_bool ?_, hb⟩
      rw [HB.out, HE.out, List.drop_eq_nil_of_le (by omega)]
      rfl
end Go.Proofs.YtlobjpdkjlmglaaGreat
/- Own text. The contract of impl.StepOk. -/
namespace Go.Proofs.YtlobjpdkjlmglaaGreat
open Go.RowKit
set_option linter.unusedVariables false
theorem isEmpty_len {α : Type} (l : List α) : ((l.length : Int) == 0) = l.isEmpty := by cases l <;> simp; omega
/-- one schema in a list of its own. -/
theorem schs_one {w : World} {s : ByteArray} {uc : Value} {cs : List ByteArray} {g : List Nat} (h : StrsF w uc cs g) {a : Option Addr} {B : Nat} (ha : a = some ⟨B, 0, none⟩) (hlt : B < w.heap.size) (h0 : w.cell? ⟨B, 0, none⟩ = some (.string s)) (h1 : w.cell? ⟨B, 1, none⟩ = some uc) : SchsIs w (.slice a 1 1) [⟨s, cs⟩] := by
  refine ⟨a, 1, rfl, Nat.le_refl _, by unfold maxLen; omega, fun _ => ⟨B, 0, ha, hlt, fun i x hx => ?_⟩⟩
  match i, hx with
  | 0, hx =>
    obtain rfl : (⟨s, cs⟩ : S2) = x := by simpa using hx
    exact ⟨uc, g, h0, h1, h⟩
  | i + 1, hx => simp at hx
set_option maxHeartbeats 4000000 in
set_option maxRecDepth 100000 in
theorem implStepOk_any (x : T5) (uc ur : Value) (w : World) (hw : x.wf) (hr : StpIs w uc ur x) :
    Calls Tryz.prog 20 #[(.agg #[.int .i64 x.k, .string x.s, uc, .string x.q, ur])] w fun e w' => e = .returned (.bool (okStep x)) ∧ Below w.heap.size w w' := by
  obtain ⟨_, ws, wc, wq, wr⟩ := hw
  obtain ⟨⟨ac, cc, rfl, _, _⟩, ar, cr, rfl, _, _⟩ := hr.shape
  obtain ⟨⟨g, hS⟩, hR⟩ := hr
  have e2 := isEmpty_len x.cs
  have e4 := isEmpty_len x.rs
  obtain ⟨b1, e1⟩ : ∃ b, x.s.toList.isEmpty = b := ⟨_, rfl⟩
  obtain ⟨b2, HB2⟩ : ∃ b, Hid (x.cs.isEmpty = b) := ⟨_, rfl⟩
  obtain ⟨b3, e3⟩ : ∃ b, x.q.toList.isEmpty = b := ⟨_, rfl⟩
  obtain ⟨b4, HB4⟩ : ∃ b, Hid (x.rs.isEmpty = b) := ⟨_, rfl⟩
  rw [HB2.out] at e2
  rw [HB4.out] at e4
  have HK : Hid (okStep x = if x.k = 0 then okSch [⟨x.s, x.cs⟩] && b3 && b4
    else if x.k = 1 then nameB x.s && b2 && decide (x.q.size ≤ 1000) && b4
    else if x.k = 2 then nameB x.s && b2 && b3 && b4
    else if x.k = 3 then b1 && b2 && b3 && okRels x.rs
    else false) := by simp only [Hid, okStep, e1, HB2.out, e3, HB4.out]
  by_cases k0 : x.k = 0
  · rw [if_pos k0] at HK
    have k0' : (x.k == 0) = true := by simpa using k0
    obtain ⟨bo, HO⟩ : ∃ b, Hid (okSch [⟨x.s, x.cs⟩] = b) := ⟨_, rfl⟩
    clear k0
    go_enter Tryz.func20, Tryz.ntmps20
    go_wp2_with fail
    go_quiet (fail)
    go_wp2_with fail
    refine Calls.mono (implSchemasOk_any _ [⟨x.s, x.cs⟩] _ ?hw (schs_one (s := x.s) (hS.below ?hb) rfl ?hl ?h0 ?h1)) ?_
    case hw => intro y hy; obtain rfl := List.mem_singleton.1 hy; exact ⟨ws, wc⟩
    case hb => repeat (first | (with_reducible exact Below.refl _ _) | (with_reducible refine Below.drew ?_) | (with_reducible refine belowN ?_ _) | (with_reducible refine Below.alloc ?_ ?hh _; case hh => first | (simp; done) | (simp; omega) | omega) | (with_reducible refine Below.setCell ?_ ?hh _; case hh => first | (simp; done) | (simp; omega) | omega) | refine bstep (by assumption) (by first | (simp; done) | (simp; omega) | omega) ?_)
    case hl => simp
    case h0 => go_simp
    case h1 => go_simp
    rw [HO.out]
    rintro e w1 ⟨rfl, hb1⟩
    have bel1 : Below w.heap.size w w1 := by
      refine Below.trans ?_ (hb1.mono ?_)
      · repeat (first | (with_reducible exact Below.refl _ _) | (with_reducible refine Below.drew ?_) | (with_reducible refine belowN ?_ _) | (with_reducible refine Below.alloc ?_ ?hh _; case hh => first | (simp; done) | (simp; omega) | omega) | (with_reducible refine Below.setCell ?_ ?hh _; case hh => first | (simp; done) | (simp; omega) | omega) | refine bstep (by assumption) (by first | (simp; done) | (simp; omega) | omega) ?_)
      · (simp; try omega)
    cases bo <;> cases b3 <;> cases b4 <;> (
      go_wp2_with fail
      go_returns
      exact ⟨ret_bool (by rw [HK.out, HO.out]; rfl), bel1⟩)
  have k0' : (x.k == 0) = false := by simpa using k0
  rw [if_neg k0] at HK
  clear k0
  by_cases k1 : x.k = 1
  · rw [if_pos k1] at HK
    have k1' : (x.k == 1) = true := by simpa using k1
    obtain ⟨bo, HO⟩ : ∃ b, Hid (nameB x.s = b) := ⟨_, rfl⟩
    have hq := wq
    unfold maxLen at hq
    by_cases hk : (x.q.size : Int) ≤ 1000
    · have HQ : Hid (decide (x.q.size ≤ 1000) = true) := by simp [Hid]; omega
      clear k1
      go_enter Tryz.func20, Tryz.ntmps20
      go_wp2_with fail
      go_quiet (fail)
      go_wp2_with fail
      refine Calls.mono (implName_any x.s _ ws) ?_
      rw [HO.out]
      rintro e w1 ⟨rfl, rfl⟩
      cases bo <;> cases b2 <;> cases b4 <;> (
        go_wp2_with fail
        go_returns
        exact ⟨ret_bool (by rw [HK.out, HO.out, HQ.out]; rfl), by repeat (first | (with_reducible exact Below.refl _ _) | (with_reducible refine Below.drew ?_) | (with_reducible refine belowN ?_ _) | (with_reducible refine Below.alloc ?_ ?hh _; case hh => first | (simp; done) | (simp; omega) | omega) | (with_reducible refine Below.setCell ?_ ?hh _; case hh => first | (simp; done) | (simp; omega) | omega) | refine bstep (by assumption) (by first | (simp; done) | (simp; omega) | omega) ?_)⟩)
    · have HQ : Hid (decide (x.q.size ≤ 1000) = false) := by simp [Hid]; omega
      clear k1
      go_enter Tryz.func20, Tryz.ntmps20
      go_wp2_with fail
      go_quiet (fail)
      go_wp2_with fail
      refine Calls.mono (implName_any x.s _ ws) ?_
      rw [HO.out]
      rintro e w1 ⟨rfl, rfl⟩
      cases bo <;> cases b2 <;> cases b4 <;> (
        go_wp2_with fail
        go_returns
        exact ⟨ret_bool (by rw [HK.out, HO.out, HQ.out]; rfl), by repeat (first | (with_reducible exact Below.refl _ _) | (with_reducible refine Below.drew ?_) | (with_reducible refine belowN ?_ _) | (with_reducible refine Below.alloc ?_ ?hh _; case hh => first | (simp; done) | (simp; omega) | omega) | (with_reducible refine Below.setCell ?_ ?hh _; case hh => first | (simp; done) | (simp; omega) | omega) | refine bstep (by assumption) (by first | (simp; done) | (simp; omega) | omega) ?_)⟩)
  have k1' : (x.k == 1) = false := by simpa using k1
  rw [if_neg k1] at HK
  clear k1
  by_cases k2 : x.k = 2
  · rw [if_pos k2] at HK
    have k2' : (x.k == 2) = true := by simpa using k2
    obtain ⟨bo, HO⟩ : ∃ b, Hid (nameB x.s = b) := ⟨_, rfl⟩
    clear k2
    go_enter Tryz.func20, Tryz.ntmps20
    go_wp2_with fail
    go_quiet (fail)
    go_wp2_with fail
    refine Calls.mono (implName_any x.s _ ws) ?_
    rw [HO.out]
    rintro e w1 ⟨rfl, rfl⟩
    cases bo <;> cases b2 <;> cases b3 <;> cases b4 <;> (
      go_wp2_with fail
      go_returns
      exact ⟨ret_bool (by rw [HK.out, HO.out]; rfl), by repeat (first | (with_reducible exact Below.refl _ _) | (with_reducible refine Below.drew ?_) | (with_reducible refine belowN ?_ _) | (with_reducible refine Below.alloc ?_ ?hh _; case hh => first | (simp; done) | (simp; omega) | omega) | (with_reducible refine Below.setCell ?_ ?hh _; case hh => first | (simp; done) | (simp; omega) | omega) | refine bstep (by assumption) (by first | (simp; done) | (simp; omega) | omega) ?_)⟩)
  have k2' : (x.k == 2) = false := by simpa using k2
  rw [if_neg k2] at HK
  clear k2
  by_cases k3 : x.k = 3
  · rw [if_pos k3] at HK
    have k3' : (x.k == 3) = true := by simpa using k3
    obtain ⟨bo, HO⟩ : ∃ b, Hid (okRels x.rs = b) := ⟨_, rfl⟩
    clear k3
    cases b1 with
    | false =>
      go_enter Tryz.func20, Tryz.ntmps20
      go_wp2_with fail
      go_quiet (fail)
      go_wp2_with fail
      go_returns
      exact ⟨ret_bool (by rw [HK.out]; rfl), by repeat (first | (with_reducible exact Below.refl _ _) | (with_reducible refine Below.drew ?_) | (with_reducible refine belowN ?_ _) | (with_reducible refine Below.alloc ?_ ?hh _; case hh => first | (simp; done) | (simp; omega) | omega) | (with_reducible refine Below.setCell ?_ ?hh _; case hh => first | (simp; done) | (simp; omega) | omega) | refine bstep (by assumption) (by first | (simp; done) | (simp; omega) | omega) ?_)⟩
    | true =>
    cases b2 with
    | false =>
      go_enter Tryz.func20, Tryz.ntmps20
      go_wp2_with fail
      go_quiet (fail)
      go_wp2_with fail
      go_returns
      exact ⟨ret_bool (by rw [HK.out]; rfl), by repeat (first | (with_reducible exact Below.refl _ _) | (with_reducible refine Below.drew ?_) | (with_reducible refine belowN ?_ _) | (with_reducible refine Below.alloc ?_ ?hh _; case hh => first | (simp; done) | (simp; omega) | omega) | (with_reducible refine Below.setCell ?_ ?hh _; case hh => first | (simp; done) | (simp; omega) | omega) | refine bstep (by assumption) (by first | (simp; done) | (simp; omega) | omega) ?_)⟩
    | true =>
    cases b3 with
    | false =>
      go_enter Tryz.func20, Tryz.ntmps20
      go_wp2_with fail
      go_quiet (fail)
      go_wp2_with fail
      go_returns
      exact ⟨ret_bool (by rw [HK.out]; rfl), by repeat (first | (with_reducible exact Below.refl _ _) | (with_reducible refine Below.drew ?_) | (with_reducible refine belowN ?_ _) | (with_reducible refine Below.alloc ?_ ?hh _; case hh => first | (simp; done) | (simp; omega) | omega) | (with_reducible refine Below.setCell ?_ ?hh _; case hh => first | (simp; done) | (simp; omega) | omega) | refine bstep (by assumption) (by first | (simp; done) | (simp; omega) | omega) ?_)⟩
    | true =>
    go_enter Tryz.func20, Tryz.ntmps20
    go_wp2_with fail
    go_quiet (fail)
    go_wp2_with fail
    refine Calls.mono (relsOk_any _ x.rs _ wr (hR.below ?hb)) ?_
    case hb => repeat (first | (with_reducible exact Below.refl _ _) | (with_reducible refine Below.drew ?_) | (with_reducible refine belowN ?_ _) | (with_reducible refine Below.alloc ?_ ?hh _; case hh => first | (simp; done) | (simp; omega) | omega) | (with_reducible refine Below.setCell ?_ ?hh _; case hh => first | (simp; done) | (simp; omega) | omega) | refine bstep (by assumption) (by first | (simp; done) | (simp; omega) | omega) ?_)
    rw [HO.out]
    rintro e w1 ⟨rfl, hb1⟩
    have bel1 : Below w.heap.size w w1 := by
      refine Below.trans ?_ (hb1.mono ?_)
      · repeat (first | (with_reducible exact Below.refl _ _) | (with_reducible refine Below.drew ?_) | (with_reducible refine belowN ?_ _) | (with_reducible refine Below.alloc ?_ ?hh _; case hh => first | (simp; done) | (simp; omega) | omega) | (with_reducible refine Below.setCell ?_ ?hh _; case hh => first | (simp; done) | (simp; omega) | omega) | refine bstep (by assumption) (by first | (simp; done) | (simp; omega) | omega) ?_)
      · (simp; try omega)
    go_wp2_with fail
    go_returns
    exact ⟨ret_bool (by rw [HK.out, HO.out]; rfl), bel1⟩
  have k3' : (x.k == 3) = false := by simpa using k3
  rw [if_neg k3] at HK
  clear k3
  go_enter Tryz.func20, Tryz.ntmps20
  go_wp2_with fail
  go_quiet (fail)
  go_wp2_with fail
  go_returns
  exact ⟨ret_bool (by rw [HK.out]), by repeat (first | (with_reducible exact Below.refl _ _) | (with_reducible refine Below.drew ?_) | (with_reducible refine belowN ?_ _) | (with_reducible refine Below.alloc ?_ ?hh _; case hh => first | (simp; done) | (simp; omega) | omega) | (with_reducible refine Below.setCell ?_ ?hh _; case hh => first | (simp; done) | (simp; omega) | omega) | refine bstep (by assumption) (by first | (simp; done) | (simp; omega) | omega) ?_)⟩
end Go.Proofs.YtlobjpdkjlmglaaGreat
