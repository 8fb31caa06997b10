/- Own text. Trees whose lists of kids each hang at one cell: such a tree lies in blocks each of which it has once. The nodes that a walk by levels has found: those ahead done, those behind to be looked at. -/
import Derived.Test.YtjblljggmjbalaaReE
import Derived.Handy
namespace Go.Proofs.Ytjblljggmjbalaa
open Go.RowKit Go.Deep
set_option linter.unusedVariables false
/-- the block from which block c hangs, n times over. -/
def upB (hang : Nat → Nat × Nat) : Nat → Nat → Nat
  | 0, c => c
  | n + 1, c => upB hang n (hang c).1
/-- block c hangs below the cell p. -/
def Hangs (hang : Nat → Nat × Nat) (c : Nat) (p : Nat × Nat) : Prop := ∃ n, hang (upB hang n c) = p
/-- each block hangs from an elder one. -/
def Down (hang : Nat → Nat × Nat) : Prop := (hang 0).1 = 0 ∧ ∀ c, 0 < c → (hang c).1 < c
theorem upB_add (hang : Nat → Nat × Nat) : ∀ a b c, upB hang (a + b) c = upB hang b (upB hang a c)
  | 0, b, c => by rw [Nat.zero_add]; rfl
  | a + 1, b, c => by rw [Nat.add_right_comm]; exact upB_add hang a b (hang c).1
theorem upB_le {hang : Nat → Nat × Nat} (h : Down hang) : ∀ n c, upB hang n c ≤ c
  | 0, c => Nat.le_refl _
  | n + 1, c => by
    have h1 : upB hang (n + 1) c ≤ (hang c).1 := upB_le h n (hang c).1
    rcases Nat.eq_zero_or_pos c with rfl | hc
    · rw [h.1] at h1; exact h1
    · have := h.2 c hc; omega
theorem upB_lt {hang : Nat → Nat × Nat} (h : Down hang) (n : Nat) {c : Nat} (hc : 0 < c) : upB hang (n + 1) c < c := by
  have h1 : upB hang (n + 1) c ≤ (hang c).1 := upB_le h n (hang c).1
  have := h.2 c hc
  omega
theorem upB_of {hang : Nat → Nat × Nat} {n c : Nat} {p : Nat × Nat} (h : hang (upB hang n c) = p) : upB hang (n + 1) c = p.1 := by
  rw [upB_add hang n 1 c]
  show (hang (upB hang n c)).1 = p.1
  rw [h]
theorem hangs_lt {hang : Nat → Nat × Nat} (h : Down hang) {c : Nat} {p : Nat × Nat} (hc : 0 < c) (hp : Hangs hang c p) : p.1 < c := by
  obtain ⟨n, hn⟩ := hp
  rw [← upB_of hn]
  exact upB_lt h n hc
theorem hangs_aux {hang : Nat → Nat × Nat} (h : Down hang) {c n m : Nat} {p p' : Nat × Nat} (hp : hang (upB hang n c) = p) (hp' : hang (upB hang m c) = p') (he : p.1 = p'.1) (h0 : 0 < p.1) (hnm : n < m) : False := by
  obtain ⟨t, rfl⟩ : ∃ t, m = n + 1 + t := ⟨m - (n + 1), by omega⟩
  have h1 := upB_of hp'
  rw [show n + 1 + t + 1 = n + 1 + (t + 1) from by omega, upB_add, upB_of hp] at h1
  have := upB_lt h t h0
  omega
theorem hangs_one {hang : Nat → Nat × Nat} (h : Down hang) {c : Nat} {p p' : Nat × Nat} (hp : Hangs hang c p) (hp' : Hangs hang c p') (he : p.1 = p'.1) (h0 : 0 < p.1) : p = p' := by
  obtain ⟨n, hn⟩ := hp
  obtain ⟨m, hm⟩ := hp'
  rcases Nat.lt_trichotomy n m with hl | rfl | hl
  · exact (hangs_aux h hn hm he h0 hl).elim
  · exact hn.symm.trans hm
  · exact (hangs_aux h hm hn he.symm (by omega) hl).elim
theorem hangs_up {hang : Nat → Nat × Nat} {c b q : Nat} (h : Hangs hang c (b, q)) : Hangs hang c (hang b) := by
  obtain ⟨n, hn⟩ := h
  exact ⟨n + 1, by rw [upB_of hn]⟩
/-- the slice v, that stands in the cell p, reads as es, its blocks the call's own from N on, each hanging at one cell. -/
def KidsU (w : World) (N : Nat) (hang : Nat → Nat × Nat) : Nat → Value → List E7 → Nat × Nat → Prop
  | 0, _, _, _ => False
  | d + 1, v, es, p => ∃ (a : Option Addr) (c : Nat), v = .slice a es.length c ∧ es.length ≤ c ∧ c ≤ maxLen ∧
      (es ≠ [] → ∃ b, a = some ⟨b, 0, none⟩ ∧ b < w.heap.size ∧ N ≤ b ∧ (∀ q, w.frozen? ⟨b, q, none⟩ = false) ∧ hang b = p ∧
        ∀ i e, es[i]? = some e → e.wf ∧ cellsE w b (0 + i * 7) e ∧ ∃ u, w.cell? ⟨b, 0 + i * 7 + 6, none⟩ = some u ∧ KidsU w N hang d u e.ks (b, i * 7 + 6))
theorem KidsU.kids {w : World} {N : Nat} {hang : Nat → Nat × Nat} (hd : Down hang) (hN : 0 < N) : ∀ {d : Nat} {v : Value} {es : List E7} {p : Nat × Nat}, KidsU w N hang d v es p → ∃ F, KidsIs w d v es F ∧ Own w N F ∧ ∀ c ∈ F, Hangs hang c p
  | 0, _, _, _, h => h.elim
  | d + 1, v, es, p, h => by
    obtain ⟨a, c, rfl, hl, hc, h⟩ := h
    by_cases hne : es = []
    · subst hne
      exact ⟨[], ⟨a, c, [], rfl, hl, hc, rfl, fun _ => rfl, fun h => absurd rfl h⟩, by simp [Own, OwnN], by simp⟩
    obtain ⟨b, rfl, hlt, hNb, hfr, hp, hL⟩ := h hne
    have each : ∀ i, i < es.length → ∃ g : List Nat, (∀ e, es[i]? = some e → e.wf ∧ cellsE w b (0 + i * 7) e ∧ ∃ u, w.cell? ⟨b, 0 + i * 7 + 6, none⟩ = some u ∧ KidsIs w d u e.ks g) ∧ Own w N g ∧ ∀ c ∈ g, Hangs hang c (b, i * 7 + 6) := by
      intro i hi
      obtain ⟨hw, hc, u, hu, hk⟩ := hL i es[i] (by simp)
      obtain ⟨g, hg, ho, hh⟩ := KidsU.kids hd hN hk
      refine ⟨g, fun e he => ?_, ho, hh⟩
      obtain rfl : es[i] = e := by simpa [hi] using he
      exact ⟨hw, hc, u, hu, hg⟩
    obtain ⟨q, hq⟩ := choose_lt each
    have hmem : ∀ c ∈ ((List.range es.length).map q).flatten, ∃ i, i < es.length ∧ c ∈ q i := by
      intro c hc
      obtain ⟨g, hg, hcg⟩ := List.mem_flatten.1 hc
      obtain ⟨i, hi, rfl⟩ := List.mem_map.1 hg
      exact ⟨i, List.mem_range.1 hi, hcg⟩
    have hbig : ∀ i, i < es.length → ∀ c ∈ q i, b < c := fun i hi c hc => hangs_lt (p := (b, i * 7 + 6)) hd (by have := ((hq i hi).2.1.2 c hc).1; omega) ((hq i hi).2.2 c hc)
    refine ⟨b :: ((List.range es.length).map q).flatten, ⟨some ⟨b, 0, none⟩, c, (List.range es.length).map q, rfl, hl, hc, by simp, fun h => absurd h hne, fun _ => ⟨b, 0, rfl, hlt, rfl, fun i e g he hg => ?_⟩⟩, ⟨?_, fun c hc => ?_⟩, fun c hc => ?_⟩
    · have hi : i < es.length := (List.getElem?_eq_some_iff.1 he).1
      obtain rfl : q i = g := by simpa [hi] using hg
      exact (hq i hi).1 e he
    · refine List.nodup_cons.2 ⟨fun hb => ?_, ?_⟩
      · obtain ⟨i, hi, hc⟩ := hmem b hb
        have := hbig i hi b hc
        omega
      · rw [List.Nodup, List.pairwise_flatten]
        constructor
        · intro g hg
          obtain ⟨i, hi, rfl⟩ := List.mem_map.1 hg
          exact (hq i (List.mem_range.1 hi)).2.1.1
        · rw [List.pairwise_iff_getElem]
          intro i j hi hj hij x hx y hy
          have hi' : i < es.length := by simpa using hi
          have hj' : j < es.length := by simpa using hj
          have hx : x ∈ q i := by simpa using hx
          have hy : y ∈ q j := by simpa using hy
          rintro rfl
          have := hangs_one hd ((hq i hi').2.2 x hx) ((hq j hj').2.2 x hy) rfl (by show 0 < b; omega)
          injection this with _ h
          omega
    · rcases List.mem_cons.1 hc with rfl | hc
      · exact ⟨hNb, hfr⟩
      · obtain ⟨i, hi, hci⟩ := hmem c hc
        exact (hq i hi).2.1.2 c hci
    · rcases List.mem_cons.1 hc with rfl | hc
      · exact ⟨0, hp⟩
      · obtain ⟨i, hi, hci⟩ := hmem c hc
        rw [← hp]
        exact hangs_up ((hq i hi).2.2 c hci)
/-- the expressions es are at most d deep. -/
def DE : Nat → List E7 → Prop
  | 0, _ => False
  | d + 1, es => ∀ e ∈ es, DE d e.ks
theorem RE.de {w : World} : ∀ {d : Nat} {v : Value} {es : List E7}, RE w d v es → DE d es
  | 0, _, _, h => h.elim
  | d + 1, v, es, h => by
    obtain ⟨a, c, rfl, hl, hc, h⟩ := h
    intro e he
    obtain ⟨b, o, _, _, hL⟩ := h (by rintro rfl; cases he)
    obtain ⟨i, hi, rfl⟩ := List.mem_iff_getElem.1 he
    obtain ⟨_, _, u, _, hk⟩ := hL i es[i] (by simp)
    exact hk.de
/-- a node: where it lies, and what stands there. -/
structure Nd where
  b : Nat
  o : Nat
  e : E7
/-- the slice u, in the cell p, has a list of the call's own, whose expressions are among the nodes. -/
def Done (w : World) (N : Nat) (hang : Nat → Nat × Nat) (ns : List Nd) (u : Value) (ks : List E7) (p : Nat × Nat) : Prop :=
  ∃ (a : Option Addr) (c : Nat), u = .slice a ks.length c ∧ ks.length ≤ c ∧ c ≤ maxLen ∧ (ks ≠ [] → ∃ b, a = some ⟨b, 0, none⟩ ∧ N ≤ b ∧ b < w.heap.size ∧ hang b = p ∧ ∀ (t : Nat) (e : E7), ks[t]? = some e → ∃ m : Nat, ns[m]? = some (Nd.mk b (t * 7) e))
/-- what is kept ahead of node i. -/
structure NQ (w : World) (D : Nat) (hang : Nat → Nat × Nat) (P : E7 → Prop) (wr : World) (i : Nat) (ns : List Nd) : Prop where
  at' : ∀ (j : Nat) (x : Nd), ns[j]? = some x → (x.e.wf ∧ P x.e ∧ w.heap.size ≤ x.b ∧ x.b < wr.heap.size ∧ (∀ q, wr.frozen? ⟨x.b, q, none⟩ = false) ∧ x.o % 7 = 0) ∧ cellsE wr x.b x.o x.e ∧ ∃ u, wr.cell? ⟨x.b, x.o + 6, none⟩ = some u ∧ (i ≤ j → RE w (D + 1) u x.e.ks) ∧ (j < i → Done wr w.heap.size hang ns u x.e.ks (x.b, x.o + 6))
  dist : ∀ (j k : Nat) (x y : Nd), ns[j]? = some x → ns[k]? = some y → x.b = y.b → x.o = y.o → j = k
  dn : Down hang
/-- the nodes of a list that lies in block g. -/
def news (ks : List E7) (g : Nat) : List Nd := ks.mapIdx fun t e => ⟨g, t * 7, e⟩
theorem news_len (ks : List E7) (g : Nat) : (news ks g).length = ks.length := by simp [news]
theorem news_at {ks : List E7} {g t : Nat} {e : E7} (h : ks[t]? = some e) : (news ks g)[t]? = some ⟨g, t * 7, e⟩ := by simp [news, h]
theorem news_of {ks : List E7} {g t : Nat} {y : Nd} (h : (news ks g)[t]? = some y) : ∃ e, ks[t]? = some e ∧ y = ⟨g, t * 7, e⟩ := by
  have ht : t < ks.length := by have := (List.getElem?_eq_some_iff.1 h).1; rwa [news_len] at this
  refine ⟨ks[t], by simp, ?_⟩
  rw [news_at (e := ks[t]) (by simp)] at h
  exact (Option.some.inj h).symm
theorem Done.mono {w w' : World} {N : Nat} {hang hang' : Nat → Nat × Nat} {ns ms : List Nd} {u : Value} {ks : List E7} {p : Nat × Nat} (h : Done w N hang ns u ks p) (hs : w.heap.size ≤ w'.heap.size) (hh : ∀ c, c < w.heap.size → hang' c = hang c) : Done w' N hang' (ns ++ ms) u ks p := by
  obtain ⟨a, c, hu, hl, hc, h⟩ := h
  refine ⟨a, c, hu, hl, hc, fun hne => ?_⟩
  obtain ⟨b, ha, hN, hlt, hp, hm⟩ := h hne
  refine ⟨b, ha, hN, Nat.lt_of_lt_of_le hlt hs, (hh b hlt).trans hp, fun t e he => ?_⟩
  obtain ⟨m, hm⟩ := hm t e he
  exact ⟨m, by rw [List.getElem?_append_left (List.getElem?_eq_some_iff.1 hm).1]; exact hm⟩
theorem NQ.step {w wr w3 : World} {D i g : Nat} {hang : Nat → Nat × Nat} {P : E7 → Prop} {ns : List Nd} {x : Nd} {u v : Value} (h : NQ w D hang P wr i ns) (hx : ns[i]? = some x) (hP : ∀ e, P e → ∀ k ∈ e.ks, P k) (hu : wr.cell? ⟨x.b, x.o + 6, none⟩ = some u)
    (hs : wr.heap.size ≤ w3.heap.size) (hN : w.heap.size ≤ wr.heap.size)
    (hcell : ∀ (j : Nat) (y : Nd), ns[j]? = some y → ∀ q, (y.b ≠ x.b ∨ q ≠ x.o + 6) → w3.cell? ⟨y.b, q, none⟩ = wr.cell? ⟨y.b, q, none⟩)
    (hfr : ∀ (j : Nat) (y : Nd), ns[j]? = some y → ∀ q, w3.frozen? ⟨y.b, q, none⟩ = wr.frozen? ⟨y.b, q, none⟩)
    (hv : w3.cell? ⟨x.b, x.o + 6, none⟩ = some v) (hg : wr.heap.size ≤ g)
    (hvs : ∃ a c, v = .slice a x.e.ks.length c ∧ x.e.ks.length ≤ c ∧ c ≤ maxLen ∧ (x.e.ks ≠ [] → a = some ⟨g, 0, none⟩))
    (hgl : x.e.ks ≠ [] → g < w3.heap.size ∧ (∀ q, w3.frozen? ⟨g, q, none⟩ = false) ∧ ∀ b o n c, u = .slice (some ⟨b, o, none⟩) n c → b < w.heap.size → ∀ j, j < x.e.ks.length * 7 → w3.cell? ⟨g, j, none⟩ = w.cell? ⟨b, o + j, none⟩) :
    NQ w D (fun c => if c = g then (x.b, x.o + 6) else hang c) P w3 (i + 1) (ns ++ news x.e.ks g) := by
  obtain ⟨⟨xw, xP, xN, xl, xf, xo⟩, xc, u', xu, xre, _⟩ := h.at' i x hx
  obtain rfl : u' = u := by rw [hu] at xu; exact (Option.some.inj xu).symm
  have hre := xre (Nat.le_refl _)
  have hil : i < ns.length := (List.getElem?_eq_some_iff.1 hx).1
  have hh : ∀ c, c < wr.heap.size → (fun c => if c = g then (x.b, x.o + 6) else hang c) c = hang c := fun c hc => if_neg (by omega)
  refine ⟨fun j y hy => ?_, fun j k y z hy hz hb ho => ?_, ?_, fun c hc => ?_⟩
  · by_cases hj : j < ns.length
    · rw [List.getElem?_append_left hj] at hy
      obtain ⟨⟨yw, yP, yN, yl, yf, yo⟩, ⟨e0, e1, e2, e3, e4, e5⟩, uy, hy6, yre, ydn⟩ := h.at' j y hy
      have far : ∀ r, r < 6 → w3.cell? ⟨y.b, y.o + r, none⟩ = wr.cell? ⟨y.b, y.o + r, none⟩ := fun r hr => hcell j y hy _ (.inr (by omega))
      refine ⟨⟨yw, yP, yN, Nat.lt_of_lt_of_le yl hs, fun q => (hfr j y hy q).trans (yf q), yo⟩, ⟨(far 0 (by omega)).trans e0, (far 1 (by omega)).trans e1, (far 2 (by omega)).trans e2, (far 3 (by omega)).trans e3, (far 4 (by omega)).trans e4, (far 5 (by omega)).trans e5⟩, ?_⟩
      by_cases hji : j = i
      · subst hji
        obtain rfl : y = x := by rw [hx] at hy; exact (Option.some.inj hy).symm
        refine ⟨v, hv, fun h => by omega, fun _ => ?_⟩
        obtain ⟨a, c, hve, hl, hc, ha⟩ := hvs
        refine ⟨a, c, hve, hl, hc, fun hne => ⟨g, ha hne, by omega, (hgl hne).1, if_pos rfl, fun t e he => ⟨ns.length + t, ?_⟩⟩⟩
        rw [List.getElem?_append_right (by omega), Nat.add_sub_cancel_left]
        exact news_at he
      · have hne : y.b ≠ x.b ∨ y.o + 6 ≠ x.o + 6 := by
          by_cases hb : y.b = x.b
          · right
            intro ho
            exact hji (h.dist j i y x hy hx hb (by omega))
          · exact .inl hb
        refine ⟨uy, (hcell j y hy _ hne).trans hy6, fun h => yre (by omega), fun h => (ydn (by omega)).mono hs hh⟩
    · rw [List.getElem?_append_right (by omega)] at hy
      obtain ⟨e, he, rfl⟩ := news_of hy
      have hne : x.e.ks ≠ [] := by intro h0; rw [h0] at he; simp at he
      obtain ⟨hgl1, hgf, hgc⟩ := hgl hne
      obtain ⟨a, c, rfl, hl, hc, hr⟩ := hre
      obtain ⟨b, o, rfl, hlt, hL⟩ := hr hne
      obtain ⟨hw, ⟨e0, e1, e2, e3, e4, e5⟩, ut, e6, hk⟩ := hL (j - ns.length) e he
      have ht : j - ns.length < x.e.ks.length := (List.getElem?_eq_some_iff.1 he).1
      have cell : ∀ r, r < 7 → w3.cell? ⟨g, (j - ns.length) * 7 + r, none⟩ = w.cell? ⟨b, o + (j - ns.length) * 7 + r, none⟩ := fun r hr => by
        rw [hgc b o _ _ rfl hlt _ (by omega), Nat.add_assoc]
      exact ⟨⟨hw, hP x.e xP e (List.mem_of_getElem? he), by show w.heap.size ≤ g; omega, hgl1, hgf, by show (j - ns.length) * 7 % 7 = 0; omega⟩, ⟨(cell 0 (by omega)).trans e0, (cell 1 (by omega)).trans e1, (cell 2 (by omega)).trans e2, (cell 3 (by omega)).trans e3, (cell 4 (by omega)).trans e4, (cell 5 (by omega)).trans e5⟩, ut, (cell 6 (by omega)).trans e6, fun _ => hk.up (by omega), fun h => by omega⟩
  · have old : ∀ j y, j < ns.length → ns[j]? = some y → y.b < wr.heap.size := fun j y _ hy => (h.at' j y hy).1.2.2.2.1
    by_cases hj : j < ns.length
    · rw [List.getElem?_append_left hj] at hy
      by_cases hk : k < ns.length
      · rw [List.getElem?_append_left hk] at hz
        exact h.dist j k y z hy hz hb ho
      · rw [List.getElem?_append_right (by omega)] at hz
        obtain ⟨e, he, rfl⟩ := news_of hz
        have := old j y hj hy
        dsimp only at hb
        omega
    · rw [List.getElem?_append_right (by omega)] at hy
      obtain ⟨e, he, rfl⟩ := news_of hy
      by_cases hk : k < ns.length
      · rw [List.getElem?_append_left hk] at hz
        have := old k z hk hz
        dsimp only at hb
        omega
      · rw [List.getElem?_append_right (by omega)] at hz
        obtain ⟨e', he', rfl⟩ := news_of hz
        dsimp only at ho
        omega
  · by_cases h0 : 0 = g
    · exact absurd h0 (by omega)
    · show (if (0 : Nat) = g then (x.b, x.o + 6) else hang 0).1 = 0
      rw [if_neg h0]
      exact h.dn.1
  · show (if c = g then (x.b, x.o + 6) else hang c).1 < c
    by_cases hcg : c = g
    · rw [if_pos hcg]
      show x.b < c
      omega
    · rw [if_neg hcg]
      exact h.dn.2 c hc
/-- all done: each node's kids hang as they should. -/
theorem NQ.kids {w wr : World} {D : Nat} {hang : Nat → Nat × Nat} {P : E7 → Prop} {ns : List Nd} (h : NQ w D hang P wr ns.length ns) : ∀ {d j : Nat} {x : Nd} {u : Value}, ns[j]? = some x → DE d x.e.ks → wr.cell? ⟨x.b, x.o + 6, none⟩ = some u → KidsU wr w.heap.size hang d u x.e.ks (x.b, x.o + 6)
  | 0, _, _, _, _, hd, _ => hd.elim
  | d + 1, j, x, u, hx, hd, hu => by
    have hj : j < ns.length := (List.getElem?_eq_some_iff.1 hx).1
    obtain ⟨_, _, u', hu', _, hdn⟩ := h.at' j x hx
    obtain rfl : u' = u := by rw [hu] at hu'; exact (Option.some.inj hu').symm
    obtain ⟨a, c, he, hl, hc, hk⟩ := hdn hj
    refine ⟨a, c, he, hl, hc, fun hne => ?_⟩
    obtain ⟨b, ha, hN, hlt, hp, hm⟩ := hk hne
    have h0 : 0 < x.e.ks.length := List.length_pos_iff.2 hne
    obtain ⟨m0, hm0⟩ := hm 0 x.e.ks[0] (by simp)
    refine ⟨b, ha, hlt, hN, (h.at' m0 _ hm0).1.2.2.2.2.1, hp, fun i e he => ?_⟩
    obtain ⟨m, hm⟩ := hm i e he
    obtain ⟨⟨ew, _⟩, ec, ue, hue, _⟩ := h.at' m _ hm
    rw [Nat.zero_add]
    exact ⟨ew, ec, ue, hue, NQ.kids h hm (hd e (List.mem_of_getElem? he)) hue⟩
/-- what is left to be gone through. -/
def rem (i : Nat) (ns : List Nd) : Nat := ((ns.drop i).map fun x => 1 + wtE x.e).sum
theorem rem_pos {i : Nat} {ns : List Nd} {x : Nd} (h : ns[i]? = some x) : rem i ns = 1 + wtE x.e + rem (i + 1) ns := by
  obtain ⟨hi, rfl⟩ := List.getElem?_eq_some_iff.1 h
  unfold rem
  rw [List.drop_eq_getElem_cons hi]
  simp only [List.map_cons, List.sum_cons]
theorem sum_news (ks : List E7) (g : Nat) : ((news ks g).map fun x => 1 + wtE x.e).sum = ks.length + wtEs ks := by
  have e : (news ks g).map (fun x => 1 + wtE x.e) = ks.map (fun e => 1 + wtE e) := by
    apply List.ext_getElem?
    intro i
    simp [news]
    cases ks[i]? <;> rfl
  rw [e, ← wtEs_sum]
  clear e
  induction ks with
  | nil => rfl
  | cons x xs ih => simp only [List.map_cons, List.sum_cons, List.length_cons] at ih ⊢; omega
theorem rem_step {i : Nat} {ns : List Nd} {x : Nd} (g : Nat) (h : ns[i]? = some x) : rem (i + 1) (ns ++ news x.e.ks g) + 1 ≤ rem i ns := by
  have hi : i < ns.length := (List.getElem?_eq_some_iff.1 h).1
  rw [rem_pos h]
  have e : rem (i + 1) (ns ++ news x.e.ks g) = rem (i + 1) ns + (x.e.ks.length + wtEs x.e.ks) := by
    unfold rem
    rw [List.drop_append_of_le_length (by omega), List.map_append, List.sum_append, sum_news]
  have := wtE_eq x.e
  omega
theorem rem_len (i : Nat) (ns : List Nd) : ns.length - i ≤ rem i ns := by
  unfold rem
  rw [← List.length_drop]
  generalize ns.drop i = l
  induction l with
  | nil => simp
  | cons x xs ih => simp only [List.map_cons, List.sum_cons, List.length_cons] at ih ⊢; omega
end Go.Proofs.Ytjblljggmjbalaa
