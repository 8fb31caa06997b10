/- Own text. Lists of rows: the contracts of how much one weighs, that one is the same as another one, one made anew. -/
import Derived.Test.YtdkbhoichmcodaaRowC
import Derived.Test.YtdkbhoichmcodaaToVS
import Derived.Test.YtdkbhoichmcodaaBagC
import Derived.Test.YtdkbhoichmcodaaOwnF
import Derived.Handy
import Derived.Deep.RegionHeld3
namespace Go.Proofs.Ytdkbhoichmcodaa
open Go.RowKit Go.Deep
set_option linter.unusedVariables false
def RLies (w : World) (b o : Nat) (rs : List (List V3)) : Prop := ∀ i r, rs[i]? = some r → ∃ v, w.cell? ⟨b, o + i, none⟩ = some v ∧ RowIs w v r
/-- the slice value v has the rows rs. -/
def RssIs (w : World) (v : Value) (rs : List (List V3)) : Prop :=
  ∃ a c, v = .slice a rs.length c ∧ rs.length ≤ c ∧ c ≤ maxLen ∧ (rs ≠ [] → ∃ b o, a = some ⟨b, o, none⟩ ∧ b < w.heap.size ∧ RLies w b o rs)
theorem RLies.below {w w' : World} {b o : Nat} {rs : List (List V3)} (h : RLies w b o rs) (hb : Below w.heap.size w w') (hN : b < w.heap.size) : RLies w' b o rs := fun i r hx => by
  obtain ⟨v, h0, h1⟩ := h i r hx
  exact ⟨v, (hb.cell (p := ⟨b, o + i, none⟩) hN).trans h0, h1.below hb⟩
theorem RssIs.below {w w' : World} {v : Value} {rs : List (List V3)} (h : RssIs w v rs) (hb : Below w.heap.size w w') : RssIs w' v rs := by
  obtain ⟨a, c, rfl, hl, hc, h⟩ := h
  refine ⟨a, c, rfl, hl, hc, fun hne => ?_⟩
  obtain ⟨b, o, rfl, hlt, hL⟩ := h hne
  exact ⟨b, o, rfl, Nat.lt_of_lt_of_le hlt hb.size, hL.below hb hlt⟩
theorem RssIs.pick {w : World} {v : Value} {rs : List (List V3)} (h : RssIs w v rs) :
    ∃ a c b o, v = .slice a rs.length c ∧ rs.length ≤ c ∧ c ≤ maxLen ∧ ∀ k, k < rs.length → a = some ⟨b, o, none⟩ ∧ b < w.heap.size ∧ RLies w b o rs := by
  obtain ⟨a, c, rfl, hl, hc, h⟩ := h
  by_cases hne : rs = []
  · exact ⟨a, c, 0, 0, rfl, hl, hc, fun k hk => by rw [hne] at hk; simp at hk⟩
  · obtain ⟨b, o, h⟩ := h hne
    exact ⟨a, c, b, o, rfl, hl, hc, fun _ _ => h⟩
theorem RssIs.shape {w : World} {v : Value} {rs : List (List V3)} (h : RssIs w v rs) : ∃ a l c, v = .slice a l c := by
  obtain ⟨a, c, h, _⟩ := h
  exact ⟨a, _, c, h⟩
theorem RLies.at {w w' : World} {b o : Nat} {rs : List (List V3)} (h : RLies w b o rs) (hlt : b < w.heap.size) (hb : Below w.heap.size w w') {k : Nat} (hk : k < rs.length) :
    ∃ r v, rs[k]? = some r ∧ w'.cell? ⟨b, o + k, none⟩ = some v ∧ RowIs w' v r ∧ b < w'.heap.size := by
  obtain ⟨v, h0, h1⟩ := h.below hb hlt k rs[k] (by simp [hk])
  exact ⟨rs[k], v, by simp [hk], h0, h1, Nat.lt_of_lt_of_le hlt hb.size⟩
/-- what the rows weigh. -/
def wtrs (rs : List (List V3)) : Nat := (rs.map wt).sum
def wtss (rs : List (List V3)) : Nat := rs.length + wtrs rs
def RsWf2 (rs : List (List V3)) : Prop := ∀ r ∈ rs, VsWf r
theorem wtrs_take {rs : List (List V3)} {k : Nat} {r : List V3} (h : rs[k]? = some r) : wtrs (rs.take (k + 1)) = wtrs (rs.take k) + wt r := by
  unfold wtrs
  obtain ⟨hk, rfl⟩ := List.getElem?_eq_some_iff.1 h
  rw [List.take_succ_eq_append_getElem hk, List.map_append, List.sum_append]
  simp only [List.map_cons, List.map_nil, List.sum_cons, List.sum_nil, Nat.add_zero]
theorem wt_memR {rs : List (List V3)} {r : List V3} (h : r ∈ rs) : wt r ≤ wtrs rs := by
  unfold wtrs
  induction rs with
  | nil => cases h
  | cons y ys ih =>
    simp only [List.map_cons, List.sum_cons]
    rcases List.mem_cons.1 h with rfl | h
    · omega
    · have := ih h; omega
set_option maxHeartbeats 2000000 in
set_option maxRecDepth 100000 in
theorem szValueSS_any (v : Value) (rs : List (List V3)) (left : Int) (w : World) (hr : RssIs w v rs) (hw : RsWf2 rs) (h0 : 0 ≤ left) (h1 : left ≤ 1048576) :
    Calls Try.prog 10 #[v, .int .i64 left] w fun e w' => (∃ z : Int, e = .returned (.int .i64 z) ∧ -1 ≤ z ∧ z ≤ left ∧ (0 ≤ z → z + wtss rs = left)) ∧ Below w.heap.size w w' := by
  obtain ⟨a, c, b, o, rfl, hl, hc, ha⟩ := hr.pick
  unfold maxLen at hc
  by_cases hbig : left - rs.length < 0
  · go_enter Try.func10, Try.ntmps10
    go_wp2
    go_returns
    exact ⟨⟨-1, rfl, by omega, by omega, by omega⟩, by go_grown⟩
  go_enter Try.func10, Try.ntmps10
  go_wp2
  go_loopw [1, 5] (fun l i wr => ∃ k : Nat, k ≤ rs.length ∧ i = .int .i64 k ∧ l = .int .i64 (left - rs.length - wtrs (rs.take k)) ∧ 0 ≤ left - rs.length - wtrs (rs.take k) ∧ Below w.heap.size w wr) (fun _ i _ => rs.length - (intOf i).toNat)
  case atStart => exact ⟨0, Nat.zero_le _, rfl, by simp [wtrs], by simp [wtrs]; omega, by go_grown⟩
  case round =>
    obtain ⟨k, hk, rfl, rfl, hp, hb⟩ := hrel
    by_cases hlt : k < rs.length
    · have hzb := hb.size
      obtain ⟨rfl, hblt, hL⟩ := ha k hlt
      obtain ⟨x, u, hx, c0, hR, hbr⟩ := hL.at hblt hb hlt
      have hxw : VsWf x := hw x (List.mem_of_getElem? hx)
      have hT : Hid (wtrs (rs.take (k + 1)) = wtrs (rs.take k) + wt x) := wtrs_take hx
      have hp1 : left - rs.length - wtrs (rs.take k) ≤ 1048576 := by omega
      clear ha hL hw hx
      go_wp2_with (go_at_call 39; refine (szValueS_any _ _ _ _ hR hxw hp hp1).mono ?_; rintro e w1 ⟨⟨z1, rfl, l1, g1, s1⟩, hb1⟩)
      · go_returns
        exact ⟨⟨-1, rfl, by omega, by omega, by omega⟩, hb.trans (hb1.mono hb.size)⟩
      · have h9 : 0 ≤ z1 := by assumption
        have e1 := s1 h9
        have hT := hT.out
        refine ⟨⟨k + 1, hlt, by simp, by congr 1; omega, by omega, hb.trans (hb1.mono hb.size)⟩, by simp [intOf]; omega⟩
    · go_wp2
      go_returns
      have hkk : k = rs.length := by omega
      subst hkk
      refine ⟨⟨_, rfl, by omega, by omega, fun _ => ?_⟩, hb⟩
      rw [List.take_length]; unfold wtss; omega
set_option maxHeartbeats 2000000 in
set_option maxRecDepth 100000 in
theorem eqValueSS_same (v u : Value) (rs : List (List V3)) (w : World) (hr : RssIs w v rs) (hu : RssIs w u rs) :
    Calls Try.prog 15 #[v, u] w fun e w' => e = .returned (.bool true) ∧ Below w.heap.size w w' := by
  obtain ⟨a, c, b, o, rfl, hl, hc, ha⟩ := hr.pick
  obtain ⟨a', c', b', o', rfl, hl', hc', ha'⟩ := hu.pick
  unfold maxLen at hc hc'
  clear hr hu
  go_enter Try.func15, Try.ntmps15
  go_wp2
  go_loopw [5] (fun i wr => ∃ k : Nat, k ≤ rs.length ∧ i = .int .i64 k ∧ Below w.heap.size w wr) (fun i _ => rs.length - (intOf i).toNat)
  case atStart => exact ⟨0, Nat.zero_le _, rfl, by go_grown⟩
  case round =>
    obtain ⟨k, hk, rfl, hb⟩ := hrel
    by_cases hlt : k < rs.length
    · have hzb := hb.size
      obtain ⟨rfl, hblt, hL⟩ := ha k hlt
      obtain ⟨rfl, hblt', hL'⟩ := ha' k hlt
      obtain ⟨x, v, hx, c0, hR, hbr⟩ := hL.at hblt hb hlt
      obtain ⟨x', u, hx', c0', hR', hbr'⟩ := hL'.at hblt' hb hlt
      obtain rfl : x = x' := by rw [hx] at hx'; exact Option.some.inj hx'
      clear ha ha' hL hL' hx hx'
      go_wp2_with fail
      go_region_held3 (fun w' => w'.cell? ⟨b, o + k, none⟩ = some v ∧ w'.cell? ⟨b', o' + k, none⟩ = some u) (refine ⟨?_, ?_⟩ <;> first | (go_simp; done) | (exact cell_later (by assumption) (by go_simp))) (first | (go_at_call 48; refine (eqValueS_same v u x _ (hR.below (by repeat (first | exact Below.refl _ _ | refine Below.drew ?_ | refine Below.alloc ?_ (by first | (simp; done) | (simp; omega) | omega) _ | refine Below.setCell ?_ (by first | (simp; done) | (simp; omega) | omega) _ | refine bstep (by assumption) (by first | (simp; done) | (simp; omega) | omega) ?_))) (hR'.below (by repeat (first | exact Below.refl _ _ | refine Below.drew ?_ | refine Below.alloc ?_ (by first | (simp; done) | (simp; omega) | omega) _ | refine Below.setCell ?_ (by first | (simp; done) | (simp; omega) | omega) _ | refine bstep (by assumption) (by first | (simp; done) | (simp; omega) | omega) ?_)))).mono ?_; rintro e w1 ⟨rfl, hb1⟩))
      go_wp2
      go_roundw
      case rel => exact ⟨k + 1, hlt, by simp, by repeat (first | exact Below.refl _ _ | refine Below.drew ?_ | refine Below.alloc ?_ (by first | (simp; done) | (simp; omega) | omega) _ | refine Below.setCell ?_ (by first | (simp; done) | (simp; omega) | omega) _ | refine bstep (by assumption) (by first | (simp; done) | (simp; omega) | omega) ?_)⟩
      case measure => simp [intOf]; omega
    · go_wp2
      go_returns
      exact ⟨rfl, hb⟩
/-- the slice value v has the rows rs, in the blocks F. -/
def RssF (w : World) (v : Value) (rs : List (List V3)) (F : List Nat) : Prop :=
  ∃ (a : Option Addr) (c : Nat) (G : List (List Nat)), v = .slice a rs.length c ∧ rs.length ≤ c ∧ c ≤ maxLen ∧ (a = none → c = 0) ∧ G.length = rs.length ∧ (rs = [] → F = []) ∧
    (rs ≠ [] → ∃ b o, a = some ⟨b, o, none⟩ ∧ b < w.heap.size ∧ F = b :: G.flatten ∧ ∀ i x g, rs[i]? = some x → G[i]? = some g → ∃ u, w.cell? ⟨b, o + i, none⟩ = some u ∧ RowF w u x g)
theorem RssF.is {w : World} {v : Value} {rs : List (List V3)} {F : List Nat} (h : RssF w v rs F) : RssIs w v rs := by
  obtain ⟨a, c, G, rfl, hl, hc, _, hG, _, h⟩ := h
  refine ⟨a, c, rfl, hl, hc, fun hne => ?_⟩
  obtain ⟨b, o, rfl, hlt, _, hL⟩ := h hne
  refine ⟨b, o, rfl, hlt, fun i x hx => ?_⟩
  have hi : i < rs.length := (List.getElem?_eq_some_iff.1 hx).1
  have hi' : i < G.length := by omega
  obtain ⟨u, h0, h1⟩ := hL i x G[i] hx (by simp)
  exact ⟨u, h0, h1.is⟩
theorem RssF.lt {w : World} {v : Value} {rs : List (List V3)} {F : List Nat} (h : RssF w v rs F) : ∀ b ∈ F, b < w.heap.size := by
  obtain ⟨a, c, G, rfl, hl, hc, _, hG, h0, h⟩ := h
  intro x hx
  by_cases hne : rs = []
  · rw [h0 hne] at hx; cases hx
  obtain ⟨b, o, rfl, hlt, rfl, hL⟩ := h hne
  rcases List.mem_cons.1 hx with rfl | hx
  · exact hlt
  obtain ⟨g, hg, hxg⟩ := List.mem_flatten.1 hx
  obtain ⟨i, hi, rfl⟩ := List.mem_iff_getElem.1 hg
  have hi' : i < rs.length := by omega
  obtain ⟨u, _, hk⟩ := hL i rs[i] G[i] (by simp) (by simp)
  exact hk.lt x hxg
theorem RssF.keep {w w' : World} {v : Value} {rs : List (List V3)} {F : List Nat} (h : RssF w v rs F) (hs : w.heap.size ≤ w'.heap.size) (hF : ∀ b ∈ F, w'.heap[b]? = w.heap[b]?) : RssF w' v rs F := by
  obtain ⟨a, c, G, rfl, hl, hc, hz, hG, h0, h⟩ := h
  refine ⟨a, c, G, rfl, hl, hc, hz, hG, h0, fun hne => ?_⟩
  obtain ⟨b, o, rfl, hlt, rfl, hL⟩ := h hne
  refine ⟨b, o, rfl, Nat.lt_of_lt_of_le hlt hs, rfl, fun i x g hx hg => ?_⟩
  obtain ⟨u, a0, a1⟩ := hL i x g hx hg
  have hb := hF b List.mem_cons_self
  exact ⟨u, (cell_blk hb).trans a0, a1.keep hs (fun y hy => hF y (List.mem_cons_of_mem _ (List.mem_flatten.2 ⟨g, List.mem_of_getElem? hg, hy⟩)))⟩
theorem RssF.below {w w' : World} {v : Value} {rs : List (List V3)} {F : List Nat} (h : RssF w v rs F) (hb : Below w.heap.size w w') : RssF w' v rs F := h.keep hb.size fun b hF => hb.block b (h.lt b hF)
theorem RssF.chg {w w' : World} {v : Value} {rs : List (List V3)} {F G : List Nat} (h : RssF w v rs F) (hb : Chg G w w') (hd : ∀ b ∈ F, b ∉ G) : RssF w' v rs F := h.keep hb.size fun b hF => hb.block b (h.lt b hF) (hd b hF)
end Go.Proofs.Ytdkbhoichmcodaa
