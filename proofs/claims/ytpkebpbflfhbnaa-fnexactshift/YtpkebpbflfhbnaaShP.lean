/- Own text. Shifted expressions; a list of expressions of the call's own, of which one is swapped for another. -/
import Derived.Test.YtpkebpbflfhbnaaColI
import Derived.Test.YtpkebpbflfhbnaaAndP
import Derived.Handy
namespace Go.Proofs.Ytpkebpbflfhbnaa
open Go.RowKit Go.Deep Go.ChangeShapes Go.WideShapes
set_option linter.unusedVariables false
/-- e with s added to each column. -/
def shE : Nat → Int → E7 → E7
  | 0, _, e => e
  | d + 1, s, e => E7.mk e.k (if e.k = 0 then e.n + s else e.n) e.v e.p (e.ks.map (shE d s))
/-- all columns and their sums are right ones. -/
def ShOk (L : List Int) (s : Int) : Prop := ∀ x ∈ L, 0 ≤ x ∧ x ≤ 11 ∧ 0 ≤ x + s ∧ x + s ≤ 11
theorem ShOk.kid {d : Nat} {e k : E7} {s : Int} (h : ShOk (colsL (d + 1) e) s) (hk : k ∈ e.ks) : ShOk (colsL d k) s := fun x hx => h x (mem_colsL.2 (.inr ⟨k, hk, hx⟩))
theorem ShOk.top {d : Nat} {e : E7} {s : Int} (h : ShOk (colsL (d + 1) e) s) (h0 : e.k = 0) : 0 ≤ e.n ∧ e.n ≤ 11 ∧ 0 ≤ e.n + s ∧ e.n + s ≤ 11 := h e.n (mem_colsL.2 (.inl ⟨h0, rfl⟩))
theorem shE_wf {d : Nat} {e : E7} {s : Int} (hw : e.wf) (h : ShOk (colsL d e) s) : (shE d s e).wf := by
  cases d with
  | zero => exact hw
  | succ d =>
    refine ⟨hw.1, ?_, hw.2.2.1, hw.2.2.2⟩
    show (Lit.int .i64 (if e.k = 0 then e.n + s else e.n)).wf = true
    by_cases h0 : e.k = 0
    · rw [if_pos h0]
      have := h.top h0
      exact wf_int (by omega) (by omega)
    · rw [if_neg h0]; exact hw.2.1
theorem shE_wt : ∀ (d : Nat) (s : Int) (e : E7), wtE (shE d s e) = wtE e
  | 0, s, e => rfl
  | d + 1, s, e => by
    show wtE (E7.mk _ _ _ _ _) = _
    rw [wtE_mk, wtE_eq e, List.length_map, ← wtEs_sum, ← wtEs_sum, List.map_map]
    have : (e.ks.map (wtE ∘ shE d s)) = e.ks.map wtE := List.map_congr_left fun k _ => shE_wt d s k
    rw [this]
/-- the first i shifted. -/
def shL (d : Nat) (s : Int) (i : Nat) (ks : List E7) : List E7 := ks.mapIdx fun j k => if j < i then shE d s k else k
theorem shL_len (d : Nat) (s : Int) (i : Nat) (ks : List E7) : (shL d s i ks).length = ks.length := by simp [shL]
theorem shL_at {d : Nat} {s : Int} {i j : Nat} {ks : List E7} {k : E7} (h : ks[j]? = some k) : (shL d s i ks)[j]? = some (if j < i then shE d s k else k) := by simp [shL, h]
theorem shL_zero (d : Nat) (s : Int) (ks : List E7) : shL d s 0 ks = ks := by
  apply List.ext_getElem?
  intro j
  cases h : ks[j]? with
  | none => have := List.getElem?_eq_none_iff.1 h; rw [List.getElem?_eq_none (by rw [shL_len]; exact this)]
  | some x => rw [shL_at h, if_neg (by omega)]
theorem shL_all (d : Nat) (s : Int) (ks : List E7) : shL d s ks.length ks = ks.map (shE d s) := by
  apply List.ext_getElem?
  intro j
  cases h : ks[j]? with
  | none => have := List.getElem?_eq_none_iff.1 h; rw [List.getElem?_eq_none (by rw [shL_len]; exact this), List.getElem?_eq_none (by simpa using this)]
  | some x => rw [shL_at h, if_pos (List.getElem?_eq_some_iff.1 h).1]; simp [h]
/-- one of a list's expressions is written anew. -/
theorem ELies.put {w w' : World} {d B o i : Nat} {s : Int} {ks : List E7} {G : List (List Nat)} {e : E7} {u : Value} {g : List Nat} (h : ELies w d B o (shL d s i ks) G) (hG : G.length = ks.length) (hnd : (B :: G.flatten).Nodup) (hk : ks[i]? = some e)
    (hw : (shE d s e).wf) (hK : KidsIs w d u (shE d s e).ks g) (hgd : ∀ b ∈ g, b ≠ B) (hs : w.heap.size ≤ w'.heap.size)
    (hc : cellsE w' B (o + i * 7) (shE d s e)) (hu : w'.cell? ⟨B, o + i * 7 + 6, none⟩ = some u) (hfar : ∀ q, (q < o + i * 7 ∨ o + i * 7 + 7 ≤ q) → w'.cell? ⟨B, q, none⟩ = w.cell? ⟨B, q, none⟩) (hblk : ∀ b, b ≠ B → w'.heap[b]? = w.heap[b]?) :
    ELies w' d B o (shL d s (i + 1) ks) (G.set i g) := by
  have hi : i < ks.length := (List.getElem?_eq_some_iff.1 hk).1
  intro j e' g' he hg'
  have hj : j < ks.length := by have := (List.getElem?_eq_some_iff.1 he).1; rwa [shL_len] at this
  obtain ⟨k, hkj⟩ : ∃ k, ks[j]? = some k := ⟨ks[j], by simp [hj]⟩
  rw [shL_at hkj] at he
  by_cases e0 : j = i
  · subst e0
    obtain rfl : k = e := by rw [hk] at hkj; exact (Option.some.inj hkj).symm
    rw [if_pos (by omega)] at he
    obtain rfl := Option.some.inj he
    obtain rfl : g = g' := by rw [List.getElem?_set_self (by omega)] at hg'; exact Option.some.inj hg'
    exact ⟨hw, hc, u, hu, hK.keep hs fun b hb => hblk b (hgd b hb)⟩
  · rw [List.getElem?_set_ne (Ne.symm e0)] at hg'
    have he2 : (if j < i then shE d s k else k) = e' := by
      rw [← Option.some.inj he]
      by_cases hji : j < i
      · rw [if_pos hji, if_pos (by omega)]
      · rw [if_neg hji, if_neg (by omega)]
    obtain ⟨h1, ⟨c0, c1, c2, c3, c4, c5⟩, u', h6, h7⟩ := h j e' g' (by rw [shL_at hkj, he2]) hg'
    have far : ∀ r, r < 7 → w'.cell? ⟨B, o + j * 7 + r, none⟩ = w.cell? ⟨B, o + j * 7 + r, none⟩ := fun r hr => hfar _ (by omega)
    have hBg : B ∉ g' := fun hb => (List.nodup_cons.1 hnd).1 (List.mem_flatten.2 ⟨g', List.mem_of_getElem? hg', hb⟩)
    exact ⟨h1, ⟨(far 0 (by omega)).trans c0, (far 1 (by omega)).trans c1, (far 2 (by omega)).trans c2, (far 3 (by omega)).trans c3, (far 4 (by omega)).trans c4, (far 5 (by omega)).trans c5⟩, u', (far 6 (by omega)).trans h6, h7.keep hs fun b hb => hblk b (by rintro rfl; exact hBg hb)⟩
theorem set_own {w w' : World} {N M B i : Nat} {G : List (List Nat)} {g : List Nat} (h : Own w N (B :: G.flatten)) (hi : i < G.length) (hg : Own w M g) (hM : ∀ b ∈ B :: G.flatten, b < M) (hN : N ≤ M) (hf : ∀ b q, w'.frozen? ⟨b, q, none⟩ = w.frozen? ⟨b, q, none⟩) : Own w' N (B :: (G.set i g).flatten) := by
  have hm : ∀ b ∈ (G.set i g).flatten, b ∈ G.flatten ∨ b ∈ g := by
    intro b hb
    obtain ⟨q, hq, hbq⟩ := List.mem_flatten.1 hb
    rcases List.mem_or_eq_of_mem_set hq with hq | rfl
    · exact .inl (List.mem_flatten.2 ⟨q, hq, hbq⟩)
    · exact .inr hbq
  obtain ⟨hnd, hfr⟩ := h
  obtain ⟨hB, hnd2⟩ := List.nodup_cons.1 hnd
  refine ⟨List.nodup_cons.2 ⟨fun hb => ?_, ?_⟩, fun b hb => ?_⟩
  · rcases hm B hb with hb | hb
    · exact hB hb
    · have := (hg.2 B hb).1; have := hM B List.mem_cons_self; omega
  · rw [List.Nodup, List.pairwise_flatten] at hnd2 ⊢
    constructor
    · intro q hq
      rcases List.mem_or_eq_of_mem_set hq with hq | rfl
      · exact hnd2.1 q hq
      · exact hg.1
    · rw [List.pairwise_iff_getElem]
      intro a b ha hb hab x hx y hy
      have ha' : a < G.length := by simpa using ha
      have hb' : b < G.length := by simpa using hb
      rw [List.getElem_set] at hx hy
      have old : ∀ c (hc : c < G.length) x, x ∈ G[c] → x < M := fun c hc x hx => hM x (List.mem_cons_of_mem _ (List.mem_flatten.2 ⟨G[c], List.getElem_mem hc, hx⟩))
      by_cases h1 : i = a
      · rw [if_pos h1] at hx
        rw [if_neg (by omega)] at hy
        have := (hg.2 x hx).1
        have := old b hb' y hy
        omega
      · rw [if_neg h1] at hx
        by_cases h2 : i = b
        · rw [if_pos h2] at hy
          have := (hg.2 y hy).1
          have := old a ha' x hx
          omega
        · rw [if_neg h2] at hy
          exact List.pairwise_iff_getElem.1 hnd2.2 a b ha' hb' hab x hx y hy
  · rcases List.mem_cons.1 hb with rfl | hb
    · exact ⟨(hfr b List.mem_cons_self).1, fun q => (hf b q).trans ((hfr b List.mem_cons_self).2 q)⟩
    · rcases hm b hb with hb | hb
      · exact ⟨(hfr b (List.mem_cons_of_mem _ hb)).1, fun q => (hf b q).trans ((hfr b (List.mem_cons_of_mem _ hb)).2 q)⟩
      · exact ⟨Nat.le_trans hN (hg.2 b hb).1, fun q => (hf b q).trans ((hg.2 b hb).2 q)⟩
/-- all done, and each column's number s more: each node's kids hang as they should, shifted. -/
theorem NQ.shift {w w1 wr : World} {D : Nat} {s : Int} {hang : Nat → Nat × Nat} {P : E7 → Prop} {ns : List Nd} (h : NQ w D hang P w1 ns.length ns) (hs : w1.heap.size ≤ wr.heap.size)
    (hc : ∀ (j : Nat) (x : Nd), ns[j]? = some x → wr.cell? ⟨x.b, x.o, none⟩ = some (.int .i64 x.e.k) ∧ wr.cell? ⟨x.b, x.o + 1, none⟩ = some (.int .i64 (if x.e.k = 0 then x.e.n + s else x.e.n)) ∧ (∀ q, 2 ≤ q → q < 7 → wr.cell? ⟨x.b, x.o + q, none⟩ = w1.cell? ⟨x.b, x.o + q, none⟩) ∧ ∀ q, wr.frozen? ⟨x.b, q, none⟩ = w1.frozen? ⟨x.b, q, none⟩)
    (hok : ∀ (j : Nat) (x : Nd) (d : Nat), ns[j]? = some x → DE d x.e.ks → ShOk (colsL d x.e) s) : ∀ {d j : Nat} {x : Nd} {u : Value}, ns[j]? = some x → DE d x.e.ks → w1.cell? ⟨x.b, x.o + 6, none⟩ = some u → KidsU wr w.heap.size hang d u (shE d s x.e).ks (x.b, x.o + 6)
  | 0, _, _, _, _, hd, _ => hd.elim
  | d + 1, j, x, u, hx, hd, hu => by
    have hj : j < ns.length := (List.getElem?_eq_some_iff.1 hx).1
    obtain ⟨_, _, u', hu', _, hdn⟩ := h.at' j x hx
    obtain rfl : u' = u := by rw [hu] at hu'; exact (Option.some.inj hu').symm
    obtain ⟨a, c, he, hl, hcm, hk⟩ := hdn hj
    have hml : (x.e.ks.map (shE d s)).length = x.e.ks.length := by simp
    show KidsU wr w.heap.size hang (d + 1) u' (x.e.ks.map (shE d s)) (x.b, x.o + 6)
    refine ⟨a, c, by rw [hml]; exact he, by rw [hml]; exact hl, hcm, fun hne => ?_⟩
    have hne' : x.e.ks ≠ [] := fun h0 => hne (by rw [h0]; rfl)
    obtain ⟨b, ha, hN, hlt, hp, hm⟩ := hk hne'
    have h0 : 0 < x.e.ks.length := List.length_pos_iff.2 hne'
    obtain ⟨m0, hm0⟩ := hm 0 x.e.ks[0] (by simp)
    refine ⟨b, ha, by omega, hN, fun q => ((hc m0 _ hm0).2.2.2 q).trans ((h.at' m0 _ hm0).1.2.2.2.2.1 q), hp, fun i e he => ?_⟩
    have hi : i < x.e.ks.length := by have := (List.getElem?_eq_some_iff.1 he).1; rwa [hml] at this
    obtain ⟨k, hki⟩ : ∃ k, x.e.ks[i]? = some k := ⟨x.e.ks[i], by simp [hi]⟩
    obtain rfl : shE d s k = e := by simp [hki] at he; exact he
    obtain ⟨m, hm⟩ := hm i k hki
    have hdk := hd k (List.mem_of_getElem? hki)
    obtain ⟨⟨ew, _⟩, ⟨_, _, e2, e3, e4, e5⟩, ue, hue, _⟩ := h.at' m _ hm
    obtain ⟨f0, f1, fq, _⟩ := hc m _ hm
    dsimp only at e2 e3 e4 e5 hue f0 f1 fq ew
    have hrec := NQ.shift h hs hc hok hm hdk hue
    cases d with
    | zero => exact hdk.elim
    | succ d =>
      rw [Nat.zero_add]
      exact ⟨shE_wf ew (hok m _ (d + 1) hm hdk), ⟨f0, f1, (fq 2 (by omega) (by omega)).trans e2, (fq 3 (by omega) (by omega)).trans e3, (fq 4 (by omega) (by omega)).trans e4, (fq 5 (by omega) (by omega)).trans e5⟩, ue, (fq 6 (by omega) (by omega)).trans hue, hrec⟩
end Go.Proofs.Ytpkebpbflfhbnaa
