/- Own texts, joined: contracts that the law's proof goes by. -/
import Derived.Test.YtbmoimfimeiglaaGreatGLFnLog3
import Derived.Test.YtbmoimfimeiglaaGreatGLFnLog7
import Derived.Test.YtbmoimfimeiglaaGreatGLFnLog2
import Derived.Handy
import Derived.Laws.AppendOwnNone
import Derived.Deep.AppendLies
import Derived.Deep.RegionHeld3
namespace Go.Proofs.YtbmoimfimeiglaaGreat
open Go.RowKit Go.Deep
set_option linter.unusedVariables false
def Free (w : World) (F : List Nat) : Prop := ∀ b ∈ F, ∀ o, w.frozen? ⟨b, o, none⟩ = false
def Own (w : World) (N : Nat) (F : List Nat) : Prop := F.Nodup ∧ (∀ b ∈ F, N ≤ b) ∧ Free w F
structure Chg (F : List Nat) (w w' : World) : Prop where
  os : w'.os = w.os
  tape : w'.tape = w.tape
  output : w'.output = w.output
  size : w.heap.size ≤ w'.heap.size
  block : ∀ k, k < w.heap.size → k ∉ F → w'.heap[k]? = w.heap[k]?
  free : Free w F → Free w' F
theorem Chg.of_below {w w' : World} {F : List Nat} (h : Below w.heap.size w w') (hF : ∀ b ∈ F, b < w.heap.size) : Chg F w w' :=
  ⟨h.os, h.tape, h.output, h.size, fun k hk _ => h.block k hk, fun f b hb o => (frozen_blk (h.block b (hF b hb))).trans (f b hb o)⟩
theorem Chg.refl (F : List Nat) (w : World) : Chg F w w := ⟨rfl, rfl, rfl, Nat.le_refl _, fun _ _ _ => rfl, id⟩
theorem Chg.trans {a b c : World} {F : List Nat} (h : Chg F a b) (k : Chg F b c) : Chg F a c :=
  ⟨k.os.trans h.os, k.tape.trans h.tape, k.output.trans h.output, Nat.le_trans h.size k.size, fun i hi hF => (k.block i (Nat.lt_of_lt_of_le hi h.size) hF).trans (h.block i hi hF), fun f => k.free (h.free f)⟩
theorem Chg.setCell {w w' : World} {F : List Nat} (h : Chg F w w') {p : Addr} (hp : p.block ∈ F) (u : Value) : Chg F w (w'.setCell p u) :=
  ⟨h.os, h.tape, h.output, by simpa using h.size, fun k hk hF => (Below.heap_setCell _ _ _ _ (by rintro rfl; exact hF hp)).trans (h.block k hk hF), fun f b hb o => by rw [World.frozen?_setCell]; exact h.free f b hb o⟩
theorem Chg.below {w w' : World} {F : List Nat} {N : Nat} (h : Chg F w w') (hF : ∀ b ∈ F, N ≤ b) (hN : N ≤ w.heap.size) : Below N w w' :=
  ⟨h.os, h.tape, h.output, h.size, fun k hk => h.block k (by omega) fun hx => by have := hF k hx; omega⟩
theorem Own.keep {w w' : World} {N : Nat} {F : List Nat} (h : Own w N F) (hF : ∀ b ∈ F, w'.heap[b]? = w.heap[b]?) : Own w' N F :=
  ⟨h.1, h.2.1, fun b hb o => (frozen_blk (hF b hb)).trans (h.2.2 b hb o)⟩
def CellsAre (w : World) (b o n : Nat) (f : Nat → Value) : Prop := ∀ j, j < n → w.cell? ⟨b, o + j, none⟩ = some (f j)
theorem CellsAre.set {w : World} {b o n j0 : Nat} {f : Nat → Value} (h : CellsAre w b o n f) (hj : j0 < n) (u : Value) : CellsAre (w.setCell ⟨b, o + j0, none⟩ u) b o n (fun j => if j = j0 then u else f j) := by
  intro j hjn
  show _ = some (if j = j0 then u else f j)
  by_cases e : j = j0
  · subst e
    rw [if_pos rfl]
    exact World.cell?_setCell_same _ _ _ (h j hjn)
  · rw [if_neg e, World.cell?_setCell_other _ _ _ _ (by intro x; have := congrArg Addr.off x; simp at this; omega)]
    exact h j hjn
theorem CellsAre.put {w : World} {b o n j0 q : Nat} {f : Nat → Value} (h : CellsAre w b o n f) (hj : j0 < n) (hq : q = o + j0) (u : Value) : CellsAre (w.setCell ⟨b, q, none⟩ u) b o n (fun j => if j = j0 then u else f j) := by subst hq; exact h.set hj u
theorem CellsAre.keep {w w' : World} {b o n : Nat} {f : Nat → Value} (h : CellsAre w b o n f) (hb : w'.heap[b]? = w.heap[b]?) : CellsAre w' b o n f := fun j hj => (cell_blk hb).trans (h j hj)
theorem CellsAre.congr {w : World} {b o n : Nat} {f g : Nat → Value} (h : CellsAre w b o n f) (e : ∀ j, j < n → f j = g j) : CellsAre w b o n g := fun j hj => (h j hj).trans (congrArg some (e j hj))
theorem lies_cells {w : World} {b o : Nat} {vs : List V3} : Lies w b o vs ↔ CellsAre w b o (vs.length * 3) (cf vs) := by
  constructor
  · intro h j hj
    have hi : j / 3 < vs.length := by omega
    obtain ⟨h0, h1, h2⟩ := h (j / 3) vs[j / 3] (by simp)
    obtain ⟨e0, e1, e2⟩ := cf_at (vs := vs) (k := j / 3) (x := vs[j / 3]) (by simp)
    have hj3 : j = j / 3 * 3 ∨ j = j / 3 * 3 + 1 ∨ j = j / 3 * 3 + 2 := by omega
    rcases hj3 with e | e | e
    · rw [e, e0]; exact h0
    · rw [e, e1, ← Nat.add_assoc]; exact h1
    · rw [e, e2, ← Nat.add_assoc]; exact h2
  · intro h i x hx
    have hi : i < vs.length := (List.getElem?_eq_some_iff.1 hx).1
    obtain ⟨e0, e1, e2⟩ := cf_at hx
    refine ⟨?_, ?_, ?_⟩
    · rw [h (i * 3) (by omega), e0]
    · rw [Nat.add_assoc, h (i * 3 + 1) (by omega), e1]
    · rw [Nat.add_assoc, h (i * 3 + 2) (by omega), e2]
def RowF (w : World) (v : Value) (vs : List V3) (g : List Nat) : Prop :=
  ∃ (a : Option Addr) (c : Nat), v = .slice a vs.length c ∧ vs.length ≤ c ∧ c ≤ maxLen ∧ (a = none → c = 0) ∧ (vs = [] → g = []) ∧ (vs ≠ [] → ∃ b o, a = some ⟨b, o, none⟩ ∧ b < w.heap.size ∧ g = [b] ∧ Lies w b o vs)
theorem RowF.is {w : World} {v : Value} {vs : List V3} {g : List Nat} (h : RowF w v vs g) : RowIs w v vs := by
  obtain ⟨a, c, rfl, hl, hc, _, _, h⟩ := h
  refine ⟨a, c, rfl, hl, hc, fun hne => ?_⟩
  obtain ⟨b, o, rfl, hlt, _, hL⟩ := h hne
  exact ⟨b, o, rfl, hlt, hL⟩
theorem RowF.lt {w : World} {v : Value} {vs : List V3} {g : List Nat} (h : RowF w v vs g) : ∀ b ∈ g, b < w.heap.size := by
  obtain ⟨a, c, rfl, hl, hc, _, h0, h⟩ := h
  intro b hb
  by_cases hne : vs = []
  · rw [h0 hne] at hb; cases hb
  · obtain ⟨b', o, rfl, hlt, rfl, hL⟩ := h hne
    rcases List.mem_singleton.1 hb with rfl
    exact hlt
theorem RowF.keep {w w' : World} {v : Value} {vs : List V3} {g : List Nat} (h : RowF w v vs g) (hs : w.heap.size ≤ w'.heap.size) (hg : ∀ b ∈ g, w'.heap[b]? = w.heap[b]?) : RowF w' v vs g := by
  obtain ⟨a, c, rfl, hl, hc, hz, h0, h⟩ := h
  refine ⟨a, c, rfl, hl, hc, hz, h0, fun hne => ?_⟩
  obtain ⟨b, o, rfl, hlt, rfl, hL⟩ := h hne
  exact ⟨b, o, rfl, Nat.lt_of_lt_of_le hlt hs, rfl, lies_cells.2 ((lies_cells.1 hL).keep (hg b (by simp)))⟩
def RowsF (w : World) (v : Value) (cs : List C2) (F : List Nat) : Prop :=
  ∃ (a : Option Addr) (c : Nat) (G : List (List Nat)), v = .slice a cs.length c ∧ cs.length ≤ c ∧ c ≤ maxLen ∧ (a = none → c = 0) ∧ G.length = cs.length ∧ (cs = [] → F = []) ∧
    (cs ≠ [] → ∃ b o, a = some ⟨b, o, none⟩ ∧ b < w.heap.size ∧ F = b :: G.flatten ∧ ∀ i x g, cs[i]? = some x → G[i]? = some g → ∃ u, w.cell? ⟨b, o + i * 2, none⟩ = some u ∧ RowF w u x.r g ∧ w.cell? ⟨b, o + i * 2 + 1, none⟩ = some (.int .i64 x.n))
theorem RowsF.is {w : World} {v : Value} {cs : List C2} {F : List Nat} (h : RowsF w v cs F) : RowsIs w v cs := by
  obtain ⟨a, c, G, rfl, hl, hc, _, hG, _, h⟩ := h
  refine ⟨a, c, rfl, hl, hc, fun hne => ?_⟩
  obtain ⟨b, o, rfl, hlt, _, hL⟩ := h hne
  refine ⟨b, o, rfl, hlt, fun i x hx => ?_⟩
  have hi : i < cs.length := (List.getElem?_eq_some_iff.1 hx).1
  have hi' : i < G.length := by omega
  obtain ⟨u, h0, h1, h2⟩ := hL i x G[i] hx (by simp)
  exact ⟨u, h0, h1.is, h2⟩
theorem RowsF.lt {w : World} {v : Value} {cs : List C2} {F : List Nat} (h : RowsF w v cs F) : ∀ b ∈ F, b < w.heap.size := by
  obtain ⟨a, c, G, rfl, hl, hc, _, hG, h0, h⟩ := h
  intro x hx
  by_cases hne : cs = []
  · rw [h0 hne] at hx; cases hx
  obtain ⟨b, o, rfl, hlt, rfl, hL⟩ := h hne
  rcases List.mem_cons.1 hx with rfl | hx
  · exact hlt
  obtain ⟨g, hg, hxg⟩ := List.mem_flatten.1 hx
  obtain ⟨i, hi, rfl⟩ := List.mem_iff_getElem.1 hg
  have hi' : i < cs.length := by omega
  obtain ⟨u, _, hk, _⟩ := hL i cs[i] G[i] (by simp) (by simp)
  exact hk.lt x hxg
theorem RowsF.keep {w w' : World} {v : Value} {cs : List C2} {F : List Nat} (h : RowsF w v cs F) (hs : w.heap.size ≤ w'.heap.size) (hF : ∀ b ∈ F, w'.heap[b]? = w.heap[b]?) : RowsF w' v cs F := by
  obtain ⟨a, c, G, rfl, hl, hc, hz, hG, h0, h⟩ := h
  refine ⟨a, c, G, rfl, hl, hc, hz, hG, h0, fun hne => ?_⟩
  obtain ⟨b, o, rfl, hlt, rfl, hL⟩ := h hne
  refine ⟨b, o, rfl, Nat.lt_of_lt_of_le hlt hs, rfl, fun i x g hx hg => ?_⟩
  obtain ⟨u, a0, a1, a2⟩ := hL i x g hx hg
  have hb := hF b List.mem_cons_self
  exact ⟨u, (cell_blk hb).trans a0, a1.keep hs (fun y hy => hF y (List.mem_cons_of_mem _ (List.mem_flatten.2 ⟨g, List.mem_of_getElem? hg, hy⟩))), (cell_blk hb).trans a2⟩
theorem RowsF.below {w w' : World} {v : Value} {cs : List C2} {F : List Nat} (h : RowsF w v cs F) (hb : Below w.heap.size w w') : RowsF w' v cs F := h.keep hb.size fun b hF => hb.block b (h.lt b hF)
theorem RowsF.chg {w w' : World} {v : Value} {cs : List C2} {F G : List Nat} (h : RowsF w v cs F) (hb : Chg G w w') (hd : ∀ b ∈ F, b ∉ G) : RowsF w' v cs F := h.keep hb.size fun b hF => hb.block b (h.lt b hF) (hd b hF)
theorem Own.below {w w' : World} {N : Nat} {F : List Nat} (h : Own w N F) (hl : ∀ b ∈ F, b < w.heap.size) (hb : Below w.heap.size w w') : Own w' N F := h.keep fun b hF => hb.block b (hl b hF)
end Go.Proofs.YtbmoimfimeiglaaGreat
namespace Go.Proofs.YtbmoimfimeiglaaGreat
open Go.RowKit Go.Deep Go.ChangeShapes Go.WideShapes
set_option linter.unusedVariables false
def rc (vs : List V3) : List Value := (List.range (vs.length * 3)).map (cf vs)
theorem rc_len (vs : List V3) : (rc vs).length = vs.length * 3 := by simp [rc]
theorem rc_one (vs : List V3) : ∀ u ∈ rc vs, u.oneCell' = true := by
  intro u hu
  obtain ⟨j, _, rfl⟩ := List.mem_map.1 hu
  unfold cf
  split
  · rfl
  · split <;> rfl
theorem rc_cells {w : World} {b o : Nat} {vs : List V3} (h : Lies w b o vs) : ∀ j u, (rc vs)[j]? = some u → w.cell? ((⟨b, o, none⟩ : Addr).add j) = some u := by
  intro j u hu
  have hj : j < vs.length * 3 := by have := (List.getElem?_eq_some_iff.1 hu).1; rwa [rc_len] at this
  have e : u = cf vs j := by simp [rc, hj] at hu; exact hu.symm
  rw [add_plain, e]
  exact lies_cells.1 h j hj
theorem own_rowF {w : World} {N n : Nat} {v : Value} {vs : List V3} {t : TypeId} (h : w.ownsRow N t 3 v n (rc vs)) : ∃ g, RowF w v vs g ∧ Own w N g := by
  obtain ⟨hl, h⟩ := h
  rw [rc_len] at hl
  obtain rfl : n = vs.length := by omega
  by_cases hne : vs = []
  · refine ⟨[], ?_, by simp [Own, Free]⟩
    subst hne
    rcases h with ⟨rfl, _⟩ | ⟨g, cap, cur, rfl, _, _, hn, hm, _⟩
    · exact ⟨none, 0, rfl, Nat.le_refl _, by simp, fun _ => rfl, fun _ => rfl, fun x => absurd rfl x⟩
    · exact ⟨_, cap, rfl, hn, hm, (fun x => by cases x), fun _ => rfl, fun x => absurd rfl x⟩
  have hp : 0 < vs.length := List.length_pos_iff.2 hne
  rcases h with ⟨_, h0⟩ | ⟨g, cap, cur, rfl, hg, hc, hn, hm, hs, ht⟩
  · omega
  have hlt : g < w.heap.size := by
    rcases Nat.lt_or_ge g w.heap.size with h' | h'
    · exact h'
    · simp [Array.getElem?_eq_none h'] at hc
  refine ⟨[g], ⟨_, cap, rfl, hn, hm, (fun x => by cases x), fun x => absurd x hne, fun _ => ⟨g, 0, rfl, hlt, rfl, lies_cells.2 fun j hj => ?_⟩⟩, by simp, by simpa using hg, fun b hb o => ?_⟩
  · rw [Nat.zero_add]
    simp only [World.cell?, hc]
    have h1 : (cur.toList.take (vs.length * 3))[j]? = some (cf vs j) := by rw [ht]; simp [rc, hj]
    rw [List.getElem?_take, if_pos hj, Array.getElem?_toList] at h1
    simpa using h1
  · rcases List.mem_singleton.1 hb with rfl
    simp [World.frozen?, hc]
theorem own_empty (w : World) (t : TypeId) (n : Nat) : (w.alloc (.cells #[] t)).ownsRow w.heap.size t n (.slice (some ⟨w.heap.size, 0, none⟩) 0 0) 0 [] :=
  ⟨by simp, .inr ⟨w.heap.size, 0, #[], rfl, Nat.le_refl _, heap_alloc_new w _, Nat.le_refl _, by simp, by simp, by simp⟩⟩
theorem own_none {w : World} {N H : Nat} (hH : w.heap.size = H) (hN : N ≤ H) (t : TypeId) (n : Nat) : (w.alloc (.cells #[] t)).ownsRow N t n (.slice (some ⟨H, 0, none⟩) 0 0) 0 [] := by
  subst hH
  exact ⟨by simp, .inr ⟨w.heap.size, 0, #[], rfl, hN, heap_alloc_new w _, Nat.le_refl _, by simp, by simp, by simp⟩⟩
set_option maxHeartbeats 1000000 in
set_option maxRecDepth 100000 in
theorem l02CopyRow_any (v : Value) (vs : List V3) (g0 : List Nat) (w : World) (hr : RowF w v vs g0) (hn : vs.length ≤ 1048576) :
    Calls Tryz.prog 108 #[v] w fun e w' => (∃ u g, e = .returned u ∧ RowF w' u vs g ∧ Own w' w.heap.size g) ∧ Below w.heap.size w w' := by
  obtain ⟨i0, hi, hz0, hz1, hz2⟩ := info_parts Tryz.infoVal
  obtain ⟨a, c, rfl, hl, hc, hz, _, h⟩ := hr
  have he := own_empty w 119 3
  have hb0 : Below w.heap.size w (w.alloc (.cells #[] 119)) := (Below.refl _ _).alloc (Nat.le_refl _) _
  cases a with
  | none =>
    obtain rfl := hz rfl
    obtain rfl : vs = [] := List.length_eq_zero_iff.1 (by omega)
    go_enter Tryz.func108, Tryz.ntmps108
    go_wp2
    go_returns
    obtain ⟨g, hg⟩ := own_rowF (vs := []) he
    first | exact ⟨⟨_, g, rfl, hg⟩, bex⟩ | exact ⟨⟨_, rfl, g, hg⟩, bex⟩
  | some ad =>
    have hcl : ∀ j u, (rc vs)[j]? = some u → (w.alloc (.cells #[] 119)).cell? (ad.add j) = some u := by
      by_cases hne : vs = []
      · subst hne; intro j u hu; simp [rc] at hu
      · obtain ⟨b, o, hb, hlt, _, hL⟩ := h hne
        cases hb
        exact rc_cells (hL.below hb0 hlt)
    go_enter Tryz.func108, Tryz.ntmps108
    go_wp2_with (at_builtin; refine wpList_append_own _ rfl _ _ 110 rfl w.heap.size 119 i0 _ 3 32 Tryz.underlying110 hi hz0 hz1 hz2 rfl (by decide) _ _ _ rfl he ad vs.length c (rc vs) rfl (rc_len vs) hcl (rc_one vs) ?c3 ?c4 ?c5 ?_)
    case c3 => unfold maxLen; omega
    case c4 => omega
    case c5 => simp
    intro v5 w5 hown5 hgr5 _
    obtain ⟨g, hg⟩ := own_rowF (vs := vs) (by simpa using hown5)
    have bel : Below w.heap.size w w5 := hb0.grown hgr5 (by simp) (fun k hk => by simp [Value.ownBlock] at hk; omega)
    clear hown5 hgr5 hcl he
    go_wp2
    go_returns
    exact ⟨⟨_, g, rfl, hg⟩, bel⟩
end Go.Proofs.YtbmoimfimeiglaaGreat
namespace Go.Proofs.YtbmoimfimeiglaaGreat
open Go.RowKit Go.Deep Go.ChangeShapes Go.WideShapes
set_option linter.unusedVariables false
def cc (us : List Value) (cs : List C2) : List Value := (us.zip cs).flatMap fun p => [p.1, .int .i64 p.2.n]
theorem cc_len {us : List Value} {cs : List C2} (h : us.length = cs.length) : (cc us cs).length = cs.length * 2 := by
  unfold cc
  induction us generalizing cs with
  | nil => cases cs with | nil => rfl | cons => simp at h
  | cons u us ih =>
    cases cs with
    | nil => simp at h
    | cons c cs =>
      have := ih (cs := cs) (by simpa using h)
      rw [List.zip_cons_cons, List.flatMap_cons, List.length_append, this]
      simp
      omega
theorem cc_push {us : List Value} {cs : List C2} (h : us.length = cs.length) (u : Value) (x : C2) : cc (us ++ [u]) (cs ++ [x]) = cc us cs ++ [u, .int .i64 x.n] := by
  unfold cc
  rw [List.zip_append h, List.flatMap_append]
  simp
theorem cc_at {us : List Value} {cs : List C2} (h : us.length = cs.length) : ∀ {i : Nat} {u : Value} {x : C2}, us[i]? = some u → cs[i]? = some x → (cc us cs)[i * 2]? = some u ∧ (cc us cs)[i * 2 + 1]? = some (.int .i64 x.n) := by
  induction us generalizing cs with
  | nil => intro i u x hu; simp at hu
  | cons v us ih =>
    cases cs with
    | nil => simp at h
    | cons c cs =>
      intro i u x hu hx
      have e : cc (v :: us) (c :: cs) = v :: .int .i64 c.n :: cc us cs := by unfold cc; rw [List.zip_cons_cons, List.flatMap_cons]; rfl
      rw [e]
      cases i with
      | zero => simp at hu hx; subst hu hx; simp
      | succ i =>
        have := ih (cs := cs) (by simpa using h) (i := i) (u := u) (x := x) (by simpa using hu) (by simpa using hx)
        rw [show (i + 1) * 2 = i * 2 + 1 + 1 from by omega]
        simpa using this
structure BagOwn (w : World) (N : Nat) (v : Value) (cs : List C2) (us : List Value) (G : List (List Nat)) : Prop where
  own : w.ownsRow N 112 2 v cs.length (cc us cs)
  ul : us.length = cs.length
  gl : G.length = cs.length
  row : ∀ (i : Nat) (x : C2) (u : Value) (g : List Nat), cs[i]? = some x → us[i]? = some u → G[i]? = some g → RowF w u x.r g
  free : Own w N G.flatten
  out : ∀ b, v.ownBlock = some b → b ∉ G.flatten
theorem BagOwn.nil (w : World) (N : Nat) : BagOwn w N (.slice none 0 0) [] [] [] :=
  ⟨⟨rfl, .inl ⟨rfl, rfl⟩⟩, rfl, rfl, fun i x u g hx => by simp at hx, by simp [Own, Free], fun b _ => by simp⟩
theorem ownsRow_lt {w : World} {N e n s : Nat} {v : Value} {xs : List Value} (h : w.ownsRow N e s v n xs) : ∀ b, v.ownBlock = some b → N ≤ b ∧ b < w.heap.size := by
  intro b hb
  rcases h.2 with ⟨rfl, _⟩ | ⟨g, cap, cur, rfl, hg, hc, _⟩
  · simp [Value.ownBlock] at hb
  · simp [Value.ownBlock] at hb
    subst hb
    refine ⟨hg, ?_⟩
    rcases Nat.lt_or_ge g w.heap.size with h' | h'
    · exact h'
    · simp [Array.getElem?_eq_none h'] at hc
theorem ownsRow_keep {w w' : World} {N e n s : Nat} {v : Value} {xs : List Value} (h : w.ownsRow N e s v n xs) (hb : ∀ b, v.ownBlock = some b → w'.heap[b]? = w.heap[b]?) : w'.ownsRow N e s v n xs := by
  refine ⟨h.1, ?_⟩
  rcases h.2 with hn | ⟨g, cap, cur, rfl, hg, hc, rest⟩
  · exact .inl hn
  · exact .inr ⟨g, cap, cur, rfl, hg, (hb g rfl).trans hc, rest⟩
theorem BagOwn.lt {w : World} {N : Nat} {v : Value} {cs : List C2} {us : List Value} {G : List (List Nat)} (h : BagOwn w N v cs us G) : ∀ b ∈ G.flatten, b < w.heap.size := by
  intro b hb
  obtain ⟨g, hg, hbg⟩ := List.mem_flatten.1 hb
  obtain ⟨i, hi, rfl⟩ := List.mem_iff_getElem.1 hg
  have h1 := h.gl
  have h2 := h.ul
  have hi1 : i < cs.length := by omega
  have hi2 : i < us.length := by omega
  exact (h.row i cs[i] us[i] G[i] (by simp) (by simp) (by simp)).lt b hbg
theorem BagOwn.keep {w w' : World} {N : Nat} {v : Value} {cs : List C2} {us : List Value} {G : List (List Nat)} (h : BagOwn w N v cs us G) (hs : w.heap.size ≤ w'.heap.size) (hb : ∀ b, N ≤ b → b < w.heap.size → w'.heap[b]? = w.heap[b]?) : BagOwn w' N v cs us G := by
  have hk : ∀ b ∈ G.flatten, w'.heap[b]? = w.heap[b]? := fun b hbG => hb b (h.free.2.1 b hbG) (h.lt b hbG)
  refine ⟨ownsRow_keep h.own fun b hv => hb b (ownsRow_lt h.own b hv).1 (ownsRow_lt h.own b hv).2, h.ul, h.gl, fun i x u g hx hu hg => (h.row i x u g hx hu hg).keep hs fun b hbg => hk b (List.mem_flatten.2 ⟨g, List.mem_of_getElem? hg, hbg⟩), h.free.keep hk, h.out⟩
theorem BagOwn.below {w w' : World} {N : Nat} {v : Value} {cs : List C2} {us : List Value} {G : List (List Nat)} (h : BagOwn w N v cs us G) (hb : Below w.heap.size w w') : BagOwn w' N v cs us G := h.keep hb.size fun b _ hlt => hb.block b hlt
theorem BagOwn.push {w w' : World} {N : Nat} {v v' u : Value} {cs : List C2} {us : List Value} {G : List (List Nat)} {x : C2} {g : List Nat} (h : BagOwn w N v cs us G) (hR : RowF w u x.r g) (hO : Own w N g) (hd1 : ∀ b ∈ G.flatten, b ∉ g) (hd2 : ∀ b, v.ownBlock = some b → b ∉ g)
    (ho : w'.ownsRow N 112 2 v' (cs.length + 1) (cc us cs ++ [u, .int .i64 x.n])) (hg : w.grownBy w' v.ownBlock) (hat : ∀ b, v'.ownBlock = some b → v.ownBlock = some b ∨ w.heap.size ≤ b) :
    BagOwn w' N v' (cs ++ [x]) (us ++ [u]) (G ++ [g]) := by
  have hG := h.lt
  have hm : ∀ b ∈ (G ++ [g]).flatten, b ∈ G.flatten ∨ b ∈ g := by intro b hb; simpa using hb
  have hlt : ∀ b ∈ (G ++ [g]).flatten, b < w.heap.size := fun b hb => (hm b hb).elim (hG b) (hR.lt b)
  have hne : ∀ b ∈ (G ++ [g]).flatten, some b ≠ v.ownBlock := fun b hb e => (hm b hb).elim (h.out b e.symm) (hd2 b e.symm)
  have hk : ∀ b ∈ (G ++ [g]).flatten, w'.heap[b]? = w.heap[b]? := fun b hb => hg.block b (hlt b hb) (hne b hb)
  refine ⟨?_, by simp [h.ul], by simp [h.gl], fun i y z q hy hz hq => ?_, ?_, fun b hb => ?_⟩
  · rw [cc_push h.ul]; simpa using ho
  · by_cases hi : i < cs.length
    · rw [List.getElem?_append_left hi] at hy
      rw [List.getElem?_append_left (by rw [h.ul]; exact hi)] at hz
      rw [List.getElem?_append_left (by rw [h.gl]; exact hi)] at hq
      exact (h.row i y z q hy hz hq).keep hg.size fun b hb => hk b (by simp; exact .inl ⟨q, List.mem_of_getElem? hq, hb⟩)
    · have hl : i < (cs ++ [x]).length := (List.getElem?_eq_some_iff.1 hy).1
      obtain rfl : i = cs.length := by simp at hl; omega
      rw [List.getElem?_append_right (Nat.le_refl _)] at hy
      rw [List.getElem?_append_right (by rw [h.ul]; exact Nat.le_refl _)] at hz
      rw [List.getElem?_append_right (by rw [h.gl]; exact Nat.le_refl _)] at hq
      simp [h.ul, h.gl] at hy hz hq
      subst hy hz hq
      exact hR.keep hg.size fun b hb => hk b (by simp; exact .inr hb)
  · refine Own.keep (w := w) ⟨?_, fun b hb => (hm b hb).elim (h.free.2.1 b) (hO.2.1 b), fun b hb => (hm b hb).elim (h.free.2.2 b) (hO.2.2 b)⟩ hk
    rw [List.flatten_append, List.nodup_append]
    refine ⟨h.free.1, by simpa using hO.1, fun a ha b hb => ?_⟩
    rintro rfl
    exact hd1 a ha (by simpa using hb)
  · intro hx
    rcases hat b hb with e | e
    · exact hne b hx e.symm
    · have := hlt b hx; omega
theorem BagOwn.weak {w : World} {N M : Nat} {v : Value} {cs : List C2} {us : List Value} {G : List (List Nat)} (h : BagOwn w N v cs us G) (hM : M ≤ N) : BagOwn w M v cs us G := by
  refine ⟨⟨h.own.1, ?_⟩, h.ul, h.gl, h.row, ⟨h.free.1, fun b hb => Nat.le_trans hM (h.free.2.1 b hb), h.free.2.2⟩, h.out⟩
  rcases h.own.2 with hn | ⟨g, cap, cur, hv, hg, rest⟩
  · exact .inl hn
  · exact .inr ⟨g, cap, cur, hv, Nat.le_trans hM hg, rest⟩
theorem BagOwn.shape {w : World} {N : Nat} {v : Value} {cs : List C2} {us : List Value} {G : List (List Nat)} (h : BagOwn w N v cs us G) : ∃ a c, v = .slice a cs.length c := by
  rcases h.own.2 with ⟨rfl, h0⟩ | ⟨g, cap, cur, hv, _⟩
  · exact ⟨none, 0, by rw [h0]⟩
  · exact ⟨_, cap, hv⟩
theorem BagOwn.rowsF {w : World} {N : Nat} {v : Value} {cs : List C2} {us : List Value} {G : List (List Nat)} (h : BagOwn w N v cs us G) : ∃ F, RowsF w v cs F ∧ Own w N F := by
  have hlt := ownsRow_lt h.own
  have hGl := h.lt
  by_cases hne : cs = []
  · refine ⟨[], ?_, by simp [Own, Free]⟩
    have hG : G = [] := List.length_eq_zero_iff.1 (by rw [h.gl, hne]; rfl)
    subst hne
    rcases h.own.2 with ⟨rfl, _⟩ | ⟨g, cap, cur, rfl, _, _, hn, hm, _⟩
    · exact ⟨none, 0, G, rfl, Nat.le_refl _, by simp, fun _ => rfl, h.gl, fun _ => rfl, fun x => absurd rfl x⟩
    · exact ⟨_, cap, G, rfl, hn, hm, (fun x => by cases x), h.gl, fun _ => rfl, fun x => absurd rfl x⟩
  have hp : 0 < cs.length := List.length_pos_iff.2 hne
  obtain ⟨hl, ho⟩ := h.own
  rcases ho with ⟨_, h0⟩ | ⟨g, cap, cur, rfl, hg, hc, hn, hm, hs, ht⟩
  · omega
  have hgo : g ∉ G.flatten := h.out g rfl
  refine ⟨g :: G.flatten, ⟨_, cap, G, rfl, hn, hm, (fun x => by cases x), h.gl, fun x => absurd x hne, fun _ => ⟨g, 0, rfl, (hlt g rfl).2, rfl, fun i x q hx hq => ?_⟩⟩, List.nodup_cons.2 ⟨hgo, h.free.1⟩, fun b hb => ?_, fun b hb o => ?_⟩
  · have hi : i < cs.length := (List.getElem?_eq_some_iff.1 hx).1
    have hiu : i < us.length := by rw [h.ul]; exact hi
    obtain ⟨e0, e1⟩ := cc_at h.ul (i := i) (u := us[i]) (x := x) (by simp) hx
    have get : ∀ j u, j < cs.length * 2 → (cc us cs)[j]? = some u → w.cell? ⟨g, j, none⟩ = some u := by
      intro j u hj hu
      simp only [World.cell?, hc]
      rw [← ht, List.getElem?_take, if_pos hj, Array.getElem?_toList] at hu
      simpa using hu
    exact ⟨us[i], by rw [Nat.zero_add]; exact get _ _ (by omega) e0, h.row i x us[i] q hx (by simp) hq, by rw [Nat.zero_add]; exact get _ _ (by omega) e1⟩
  · rcases List.mem_cons.1 hb with rfl | hb
    · exact hg
    · exact h.free.2.1 b hb
  · rcases List.mem_cons.1 hb with rfl | hb
    · simp [World.frozen?, hc]
    · exact h.free.2.2 b hb o
end Go.Proofs.YtbmoimfimeiglaaGreat
namespace Go.Proofs.YtbmoimfimeiglaaGreat
open Go.RowKit Go.Deep Go.ChangeShapes Go.WideShapes
set_option linter.unusedVariables false
theorem cc_set {us : List Value} {cs : List C2} (h : us.length = cs.length) {k : Nat} {x : C2} (hk : cs[k]? = some x) (m : Int) : cc us (cs.set k ⟨x.r, m⟩) = (cc us cs).set (k * 2 + 1) (.int .i64 m) := by
  induction us generalizing cs k with
  | nil => cases cs with | nil => simp at hk | cons => simp at h
  | cons v us ih =>
    cases cs with
    | nil => simp at h
    | cons c cs =>
      have e : ∀ (c : C2) (cs : List C2), cc (v :: us) (c :: cs) = v :: .int .i64 c.n :: cc us cs := by intro c cs; unfold cc; rw [List.zip_cons_cons, List.flatMap_cons]; rfl
      cases k with
      | zero => rw [List.set_cons_zero, e, e]; rfl
      | succ k =>
        rw [List.set_cons_succ, e, e, ih (cs := cs) (by simpa using h) (by simpa using hk)]
        rw [show (k + 1) * 2 + 1 = (k * 2 + 1) + 1 + 1 from by omega]
        rfl
theorem BagOwn.setN {w : World} {N g l cap : Nat} {cs : List C2} {us : List Value} {G : List (List Nat)} (h : BagOwn w N (.slice (some ⟨g, 0, none⟩) l cap) cs us G) {k : Nat} {x : C2} (hk : cs[k]? = some x) (m : Int) :
    BagOwn (w.setCell ⟨g, k * 2 + 1, none⟩ (.int .i64 m)) N (.slice (some ⟨g, 0, none⟩) l cap) (cs.set k ⟨x.r, m⟩) us G := by
  have hkl : k < cs.length := (List.getElem?_eq_some_iff.1 hk).1
  have hout : g ∉ G.flatten := h.out g rfl
  have hb : ∀ b ∈ G.flatten, (w.setCell ⟨g, k * 2 + 1, none⟩ (.int .i64 m)).heap[b]? = w.heap[b]? := fun b hb => Below.heap_setCell _ _ _ _ (by rintro rfl; exact hout hb)
  refine ⟨?_, by rw [List.length_set]; exact h.ul, by rw [List.length_set]; exact h.gl, fun i y u q hy hu hq => ?_, h.free.keep hb, h.out⟩
  · obtain ⟨hl, ho⟩ := h.own
    rw [List.length_set, cc_set h.ul hk]
    refine ⟨by rw [List.length_set]; exact hl, .inr ?_⟩
    rcases ho with ⟨h0, _⟩ | ⟨g', cap', cur, hv, hg, hc, hn, hm, hs, ht⟩
    · cases h0
    cases hv
    refine ⟨g, cap, cur.setIfInBounds (k * 2 + 1) (.int .i64 m), rfl, hg, ?_, hn, hm, by simpa using hs, ?_⟩
    · simp [World.setCell, Array.getElem?_modify, hc]
    · rw [← ht, Array.toList_setIfInBounds, List.take_set]
  · by_cases e : i = k
    · subst e
      rw [List.getElem?_set_self (by omega)] at hy
      have hy := Option.some.inj hy
      subst hy
      exact (h.row i x u q hk hu hq).keep (by simp) fun b hbq => hb b (List.mem_flatten.2 ⟨q, List.mem_of_getElem? hq, hbq⟩)
    · rw [List.getElem?_set_ne (Ne.symm e)] at hy
      exact (h.row i y u q hy hu hq).keep (by simp) fun b hbq => hb b (List.mem_flatten.2 ⟨q, List.mem_of_getElem? hq, hbq⟩)
end Go.Proofs.YtbmoimfimeiglaaGreat
