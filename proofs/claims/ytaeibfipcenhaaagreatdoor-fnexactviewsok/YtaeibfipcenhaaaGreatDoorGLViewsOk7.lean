/- Own texts, joined: contracts that the law's proof goes by. -/
import Derived.Test.YtaeibfipcenhaaaGreatDoorGLViewsOk4
import Derived.Handy
import Derived.Deep.RegionHeld3
import Derived.Test.YtaeibfipcenhaaaGreatDoorGLViewsOk3
import Derived.Test.YtaeibfipcenhaaaGreatDoorGLViewsOk18
namespace Go.Proofs.YtaeibfipcenhaaaGreatDoor
open Go.RowKit
set_option linter.unusedVariables false
set_option maxHeartbeats 1000000 in
theorem szRel_any (s : ByteArray) (W : Int) (v : Value) (cs : List C2) (left : Int) (w : World) (hs : s.size ≤ maxLen) (hr : RowsIs w v cs) (hw : CsWf cs) (h0 : 0 ≤ left) (h1 : left ≤ 1048576) :
    Calls Tryz.prog 12 #[.agg #[.string s, .int .i64 W, v], .int .i64 left] w fun e w' => (∃ z : Int, e = .returned (.int .i64 z) ∧ -1 ≤ z ∧ z ≤ left ∧ (0 ≤ z → z + (s.size + wtb cs) = left)) ∧ Below w.heap.size w w' := by
  unfold maxLen at hs
  by_cases hbig : left - s.size < 0
  · go_enter Tryz.func12, Tryz.ntmps12
    go_wp2_with fail
    go_returns
    exact ⟨⟨-1, rfl, by omega, by omega, by omega⟩, by repeat (first | exact Below.refl _ _ | refine Below.drew ?_ | refine Below.alloc ?_ (by first | (simp; done) | (simp; omega) | omega) _ | refine Below.setCell ?_ (by first | (simp; done) | (simp; omega) | omega) _ | refine bstep (by assumption) (by first | (simp; done) | (simp; omega) | omega) ?_)⟩
  obtain ⟨a, l, c, rfl⟩ := hr.shape
  go_enter Tryz.func12, Tryz.ntmps12
  go_wp2_with fail
  refine Calls.mono (szBag_any W (.slice a l c) cs (left - s.size) _ (hr.below ?hb) hw (by omega) (by omega)) ?_
  case hb => repeat (first | exact Below.refl _ _ | refine Below.drew ?_ | refine Below.alloc ?_ (by first | (simp; done) | (simp; omega) | omega) _ | refine Below.setCell ?_ (by first | (simp; done) | (simp; omega) | omega) _ | refine bstep (by assumption) (by first | (simp; done) | (simp; omega) | omega) ?_)
  rintro e w1 ⟨⟨z1, rfl, l1, g1, s1⟩, hb1⟩
  have hz1 := hb1.size
  simp only [World.size_alloc] at hz1
  by_cases hn1 : z1 < 0
  · go_wp2_with fail
    go_returns
    exact ⟨⟨-1, rfl, by omega, by omega, by omega⟩, by repeat (first | exact Below.refl _ _ | refine Below.drew ?_ | refine Below.alloc ?_ (by first | (simp; done) | (simp; omega) | omega) _ | refine Below.setCell ?_ (by first | (simp; done) | (simp; omega) | omega) _ | refine bstep (by assumption) (by first | (simp; done) | (simp; omega) | omega) ?_)⟩
  · go_wp2_with fail
    go_returns
    exact ⟨⟨z1, rfl, by omega, by omega, fun h => by have := s1 h; omega⟩, by repeat (first | exact Below.refl _ _ | refine Below.drew ?_ | refine Below.alloc ?_ (by first | (simp; done) | (simp; omega) | omega) _ | refine Below.setCell ?_ (by first | (simp; done) | (simp; omega) | omega) _ | refine bstep (by assumption) (by first | (simp; done) | (simp; omega) | omega) ?_)⟩
set_option maxHeartbeats 2000000 in
set_option maxRecDepth 100000 in
theorem szRelS_any (v : Value) (rs : List R3) (left : Int) (w : World) (hr : RelsIs w v rs) (hw : RsWf rs) (h0 : 0 ≤ left) (h1 : left ≤ 1048576) :
    Calls Tryz.prog 4 #[v, .int .i64 left] w fun e w' => (∃ z : Int, e = .returned (.int .i64 z) ∧ -1 ≤ z ∧ z ≤ left ∧ (0 ≤ z → z + wtR rs = left)) ∧ Below w.heap.size w w' := by
  obtain ⟨a, c, b, o, rfl, hl, hc, ha⟩ := hr.pick
  unfold maxLen at hc
  by_cases hbig : left - rs.length < 0
  · go_enter Tryz.func4, Tryz.ntmps4
    go_wp2
    go_returns
    exact ⟨⟨-1, rfl, by omega, by omega, by omega⟩, by go_grown⟩
  go_enter Tryz.func4, Tryz.ntmps4
  go_wp2
  go_loopw [1, 5] (fun l i wr => ∃ k : Nat, k ≤ rs.length ∧ i = .int .i64 k ∧ l = .int .i64 (left - rs.length - wtrs (rs.take k)) ∧ 0 ≤ left - rs.length - wtrs (rs.take k) ∧ Below w.heap.size w wr) (fun _ i _ => rs.length - (intOf i).toNat)
  case atStart => exact ⟨0, Nat.zero_le _, rfl, by simp [wtrs], by simp [wtrs]; omega, by go_grown⟩
  case round =>
    obtain ⟨k, hk, rfl, rfl, hp, hb⟩ := hrel
    by_cases hlt : k < rs.length
    · have hzb := hb.size
      obtain ⟨rfl, hblt, hL⟩ := ha k hlt
      obtain ⟨x, u, hx, c0, c1, c2, hR, hbr⟩ := hL.at hblt hb hlt
      obtain ⟨hxs, _, hxw⟩ := hw x (List.mem_of_getElem? hx)
      have hT : Hid (wtrs (rs.take (k + 1)) = wtrs (rs.take k) + wtr x) := wtrs_take hx
      have hp1 : left - rs.length - wtrs (rs.take k) ≤ 1048576 := by omega
      clear ha hL hw hx
      go_wp2_with (go_at_call 12; refine (szRel_any _ _ _ _ _ _ hxs hR hxw hp hp1).mono ?_; rintro e w1 ⟨⟨z1, rfl, l1, g1, s1⟩, hb1⟩)
      · go_returns
        exact ⟨⟨-1, rfl, by omega, by omega, by omega⟩, hb.trans (hb1.mono hb.size)⟩
      · have h9 : 0 ≤ z1 := by assumption
        have e1 := s1 h9
        have hT := hT.out
        unfold wtr at hT
        refine ⟨⟨k + 1, hlt, by simp, by congr 1; omega, by omega, hb.trans (hb1.mono hb.size)⟩, by simp [intOf]; omega⟩
    · go_wp2
      go_returns
      have hkk : k = rs.length := by omega
      subst hkk
      refine ⟨⟨_, rfl, by omega, by omega, fun _ => ?_⟩, hb⟩
      rw [List.take_length]; unfold wtR; omega
set_option maxHeartbeats 1000000 in
theorem eqRel_same (s : ByteArray) (W : Int) (v u : Value) (cs : List C2) (w : World) (hr : RowsIs w v cs) (hu : RowsIs w u cs) :
    Calls Tryz.prog 25 #[.agg #[.string s, .int .i64 W, v], .agg #[.string s, .int .i64 W, u]] w fun e w' => e = .returned (.bool true) ∧ Below w.heap.size w w' := by
  obtain ⟨a, l, c, rfl⟩ := hr.shape
  obtain ⟨a', l', c', rfl⟩ := hu.shape
  go_enter Tryz.func25, Tryz.ntmps25
  go_wp2_with fail
  refine Calls.mono (eqBag_same W _ _ cs _ (hr.below ?hb) (hu.below ?hc)) ?_
  case hb => repeat (first | exact Below.refl _ _ | refine Below.drew ?_ | refine Below.alloc ?_ (by first | (simp; done) | (simp; omega) | omega) _ | refine Below.setCell ?_ (by first | (simp; done) | (simp; omega) | omega) _ | refine bstep (by assumption) (by first | (simp; done) | (simp; omega) | omega) ?_)
  case hc => repeat (first | exact Below.refl _ _ | refine Below.drew ?_ | refine Below.alloc ?_ (by first | (simp; done) | (simp; omega) | omega) _ | refine Below.setCell ?_ (by first | (simp; done) | (simp; omega) | omega) _ | refine bstep (by assumption) (by first | (simp; done) | (simp; omega) | omega) ?_)
  rintro e w1 ⟨rfl, hb1⟩
  have hz1 := hb1.size
  simp only [World.size_alloc] at hz1
  go_wp2
  go_returns
  exact ⟨rfl, by repeat (first | exact Below.refl _ _ | refine Below.drew ?_ | refine Below.alloc ?_ (by first | (simp; done) | (simp; omega) | omega) _ | refine Below.setCell ?_ (by first | (simp; done) | (simp; omega) | omega) _ | refine bstep (by assumption) (by first | (simp; done) | (simp; omega) | omega) ?_)⟩
set_option maxHeartbeats 2000000 in
set_option maxRecDepth 100000 in
theorem eqRelS_same (v u : Value) (rs : List R3) (w : World) (hr : RelsIs w v rs) (hu : RelsIs w u rs) :
    Calls Tryz.prog 10 #[v, u] w fun e w' => e = .returned (.bool true) ∧ Below w.heap.size w w' := by
  obtain ⟨a, c, b, o, rfl, hl, hc, ha⟩ := hr.pick
  obtain ⟨a', c', b', o', rfl, hl', hc', ha'⟩ := hu.pick
  unfold maxLen at hc hc'
  clear hr hu
  go_enter Tryz.func10, Tryz.ntmps10
  go_wp2
  go_loopw [5] (fun i wr => ∃ k : Nat, k ≤ rs.length ∧ i = .int .i64 k ∧ Below w.heap.size w wr) (fun i _ => rs.length - (intOf i).toNat)
  case atStart => exact ⟨0, Nat.zero_le _, rfl, by go_grown⟩
  case round =>
    obtain ⟨k, hk, rfl, hb⟩ := hrel
    by_cases hlt : k < rs.length
    · have hzb := hb.size
      obtain ⟨rfl, hblt, hL⟩ := ha k hlt
      obtain ⟨rfl, hblt', hL'⟩ := ha' k hlt
      obtain ⟨x, v, hx, c0, c1, c2, hR, hbr⟩ := hL.at hblt hb hlt
      obtain ⟨x', u, hx', c0', c1', c2', hR', hbr'⟩ := hL'.at hblt' hb hlt
      obtain rfl : x = x' := by rw [hx] at hx'; exact Option.some.inj hx'
      clear ha ha' hL hL' hx hx'
      go_wp2_with fail
      go_region_held3 (fun w' => w'.cell? ⟨b, o + k * 3, none⟩ = some (.string x.s) ∧ w'.cell? ⟨b, o + k * 3 + 1, none⟩ = some (.int .i64 x.W) ∧ w'.cell? ⟨b, o + k * 3 + 2, none⟩ = some v ∧ w'.cell? ⟨b', o' + k * 3, none⟩ = some (.string x.s) ∧ w'.cell? ⟨b', o' + k * 3 + 1, none⟩ = some (.int .i64 x.W) ∧ w'.cell? ⟨b', o' + k * 3 + 2, none⟩ = some u) (refine ⟨?_, ?_, ?_, ?_, ?_, ?_⟩ <;> first | (go_simp; done) | (exact cell_later (by assumption) (by go_simp))) (first | (go_at_call 25; refine (eqRel_same x.s x.W v u x.cs _ (hR.below (by repeat (first | exact Below.refl _ _ | refine Below.drew ?_ | refine Below.alloc ?_ (by first | (simp; done) | (simp; omega) | omega) _ | refine Below.setCell ?_ (by first | (simp; done) | (simp; omega) | omega) _ | refine bstep (by assumption) (by first | (simp; done) | (simp; omega) | omega) ?_))) (hR'.below (by repeat (first | exact Below.refl _ _ | refine Below.drew ?_ | refine Below.alloc ?_ (by first | (simp; done) | (simp; omega) | omega) _ | refine Below.setCell ?_ (by first | (simp; done) | (simp; omega) | omega) _ | refine bstep (by assumption) (by first | (simp; done) | (simp; omega) | omega) ?_)))).mono ?_; rintro e w1 ⟨rfl, hb1⟩))
      go_wp2
      go_roundw
      case rel => exact ⟨k + 1, hlt, by simp, by repeat (first | exact Below.refl _ _ | refine Below.drew ?_ | refine Below.alloc ?_ (by first | (simp; done) | (simp; omega) | omega) _ | refine Below.setCell ?_ (by first | (simp; done) | (simp; omega) | omega) _ | refine bstep (by assumption) (by first | (simp; done) | (simp; omega) | omega) ?_)⟩
      case measure => simp [intOf]; omega
    · go_wp2
      go_returns
      exact ⟨rfl, hb⟩
end Go.Proofs.YtaeibfipcenhaaaGreatDoor
namespace Go.Proofs.YtaeibfipcenhaaaGreatDoor
open Go.RowKit Go.Deep
set_option linter.unusedVariables false
theorem HalfB.rowsF {w : World} {B : Nat} {cs : List C2} {g : Nat → Nat} (h : HalfB w B cs g cs.length) (hl : ∀ x ∈ cs, x.r.length ≤ maxLen) (hm : cs.length ≤ maxLen) : ∃ F, RowsF w (.slice (some ⟨B, 0, none⟩) cs.length cs.length) cs F ∧ OwnB w B F := by
  obtain ⟨f, hf, he⟩ := h.own
  by_cases hne : cs = []
  · exact ⟨[], ⟨_, _, [], rfl, Nat.le_refl _, hm, (fun x => by cases x), by rw [hne]; rfl, fun _ => rfl, fun x => absurd hne x⟩, by simp [OwnB, Free]⟩
  let G : List (List Nat) := (List.range cs.length).map fun i => if (cs.getD i ⟨[], 0⟩).r = [] then [] else [g i]
  have hGl : G.length = cs.length := by simp [G]
  have hGi : ∀ i q, G[i]? = some q → i < cs.length ∧ q = if (cs.getD i ⟨[], 0⟩).r = [] then [] else [g i] := by
    intro i q hq
    have hi : i < cs.length := by have := (List.getElem?_eq_some_iff.1 hq).1; omega
    refine ⟨hi, ?_⟩
    simp [G, hi] at hq
    rw [← hq]
    simp [hi]
  have hmem : ∀ b ∈ G.flatten, ∃ i, i < cs.length ∧ b = g i := by
    intro b hb
    obtain ⟨q, hq, hbq⟩ := List.mem_flatten.1 hb
    obtain ⟨i, hi, rfl⟩ := List.mem_iff_getElem.1 hq
    obtain ⟨hi', e⟩ := hGi i G[i] (by simp)
    rw [e] at hbq
    split at hbq
    · cases hbq
    · exact ⟨i, hi', List.mem_singleton.1 hbq⟩
  refine ⟨B :: G.flatten, ⟨_, _, G, rfl, Nat.le_refl _, hm, (fun x => by cases x), hGl, fun x => absurd x hne, fun _ => ⟨B, 0, rfl, hf.lt, rfl, fun i x q hx hq => ?_⟩⟩, ?_, fun b hb => ?_, fun b hb o => ?_⟩
  · obtain ⟨hi, eq⟩ := hGi i q hq
    obtain ⟨e0, e1⟩ := he i x hi hx
    have ex : cs.getD i ⟨[], 0⟩ = x := by simp [List.getD, hx]
    rw [ex] at eq
    have hrow := h.row i x hi hx
    refine ⟨.slice (some ⟨g i, 0, none⟩) x.r.length x.r.length, by rw [Nat.zero_add, hf.cell (by omega), e0], ⟨_, _, rfl, Nat.le_refl _, hl x (List.mem_of_getElem? hx), (fun x => by cases x), fun e => by rw [eq, if_pos e], fun hn => ⟨g i, 0, rfl, hrow.lt, by rw [eq, if_neg hn], ?_⟩⟩, by rw [Nat.zero_add, hf.cell (by omega), e1]⟩
    refine lies_cells.2 fun j hj => ?_
    rw [Nat.zero_add]
    exact hrow.cell hj
  · refine List.nodup_cons.2 ⟨fun hb => ?_, ?_⟩
    · obtain ⟨i, hi, e⟩ := hmem B hb
      have := h.above i hi
      omega
    · rw [List.Nodup, List.pairwise_flatten]
      constructor
      · intro q hq
        obtain ⟨i, hi, rfl⟩ := List.mem_iff_getElem.1 hq
        obtain ⟨hi', e⟩ := hGi i G[i] (by simp)
        rw [e]
        split <;> simp
      · rw [List.pairwise_iff_getElem]
        intro i j hi hj hij x hx y hy
        obtain ⟨hi', ei⟩ := hGi i G[i] (by simp)
        obtain ⟨hj', ej⟩ := hGi j G[j] (by simp)
        rw [ei] at hx
        rw [ej] at hy
        split at hx
        · cases hx
        · split at hy
          · cases hy
          · have := h.up i j hij hj'
            have e1 := List.mem_singleton.1 hx
            have e2 := List.mem_singleton.1 hy
            omega
  · rcases List.mem_cons.1 hb with rfl | hb
    · exact Nat.le_refl _
    · obtain ⟨i, hi, rfl⟩ := hmem b hb
      exact Nat.le_of_lt (h.above i hi)
  · rcases List.mem_cons.1 hb with rfl | hb
    · exact hf.frozen o
    · obtain ⟨i, hi, rfl⟩ := hmem b hb
      exact (h.row i cs[i] hi (by simp)).frozen o
/-- toBag, with the blocks of what it makes. -/
theorem toBag_F (W : Int) (v : Value) (cs : List C2) (w : World) (hr : RowsIs w v cs) (hn : wtb cs ≤ 1048576) :
    Calls Tryz.prog 32 #[.agg #[.int .i64 W, v]] w fun e w' => (∃ u F, e = .returned (.agg #[.int .i64 W, u]) ∧ RowsF w' u cs F ∧ OwnB w' w.heap.size F) ∧ Below w.heap.size w w' :=
  (toBag_any W v cs w hr hn).mono fun e w' ⟨⟨B, g, hB, he, h⟩, hb⟩ => by
    obtain ⟨F, h1, h2⟩ := h.rowsF (fun x hx => by have := wt_mem hx; unfold wt at this; unfold wtb at hn; unfold maxLen; omega) (by unfold wtb at hn; unfold maxLen; omega)
    exact ⟨⟨_, F, he, h1, h2.1, fun b hb => Nat.le_trans hB (h2.2.1 b hb), h2.2.2⟩, hb⟩
end Go.Proofs.YtaeibfipcenhaaaGreatDoor
namespace Go.Proofs.YtaeibfipcenhaaaGreatDoor
open Go.RowKit Go.Deep
set_option linter.unusedVariables false
theorem Tryz.infoRel : (Tryz.prog.info? 69).map (fun i => (i.zero, i.size, i.bytes)) = some (some (.agg #[.string ⟨#[]⟩, .int .i64 0, .slice none 0 0]), 3, 48) := by kernel_rfl
/-- relations of the call's own: block B0 has them, the first k are laid; each bag lies above it. -/
def HalfR (w : World) (B0 : Nat) (rs : List R3) (k : Nat) : Prop :=
  ∃ f, w.rowIs B0 69 (rs.length * 3) f ∧ ∀ i x, i < k → rs[i]? = some x → f (i * 3) = .string x.s ∧ f (i * 3 + 1) = .int .i64 x.W ∧ ∃ B g, B0 < B ∧ f (i * 3 + 2) = .slice (some ⟨B, 0, none⟩) x.cs.length x.cs.length ∧ HalfB w B x.cs g x.cs.length
theorem HalfR.cells {w : World} {B : Nat} {rs : List R3} {k : Nat} (h : HalfR w B rs k) (hk : k < rs.length) :
    (∃ u, w.cell? ⟨B, k * 3, none⟩ = some u) ∧ (∃ u, w.cell? ⟨B, k * 3 + 1, none⟩ = some u) ∧ (∃ u, w.cell? ⟨B, k * 3 + 2, none⟩ = some u) ∧ (∀ i, w.frozen? ⟨B, i, none⟩ = false) ∧ B < w.heap.size := by
  obtain ⟨f, h, _⟩ := h
  exact ⟨⟨_, h.cell (by omega)⟩, ⟨_, h.cell (by omega)⟩, ⟨_, h.cell (by omega)⟩, fun i => h.frozen i, h.lt⟩
theorem HalfR.below {w w' : World} {B : Nat} {rs : List R3} {k : Nat} (h : HalfR w B rs k) (hb : Below w.heap.size w w') : HalfR w' B rs k := by
  obtain ⟨f, hf, he⟩ := h
  refine ⟨f, hf.of_block (hb.block _ hf.lt), fun i x hi hx => ?_⟩
  obtain ⟨h0, h1, B, g, hB, h2, hH⟩ := he i x hi hx
  exact ⟨h0, h1, B, g, hB, h2, hH.below (Nat.le_refl _) hb⟩
theorem HalfR.step {w : World} {B D : Nat} {rs : List R3} {g : Nat → Nat} {k : Nat} {x : R3} (h : HalfR w B rs k) (hx : rs[k]? = some x) (hD : HalfB w D x.cs g x.cs.length) (hB : B < D) :
    HalfR (((w.setCell ⟨B, k * 3, none⟩ (.string x.s)).setCell ⟨B, k * 3 + 1, none⟩ (.int .i64 x.W)).setCell ⟨B, k * 3 + 2, none⟩ (.slice (some ⟨D, 0, none⟩) x.cs.length x.cs.length)) B rs (k + 1) := by
  obtain ⟨f, hf, he⟩ := h
  have hblk : ∀ b, B < b → (((w.setCell ⟨B, k * 3, none⟩ (.string x.s)).setCell ⟨B, k * 3 + 1, none⟩ (.int .i64 x.W)).setCell ⟨B, k * 3 + 2, none⟩ (.slice (some ⟨D, 0, none⟩) x.cs.length x.cs.length)).heap[b]? = w.heap[b]? := by
    intro b hb
    repeat rw [Below.heap_setCell _ _ _ _ (by show b ≠ B; omega)]
  refine ⟨_, ((hf.set _ _).set _ _).set _ _, fun i y hi hy => ?_⟩
  by_cases e : i = k
  · subst e
    obtain rfl : y = x := by rw [hx] at hy; exact (Option.some.inj hy).symm
    refine ⟨by simp, by simp, D, g, hB, by simp, hD.keep (Nat.le_refl _) fun b hb => hblk b (by omega)⟩
  · have n : ∀ p q : Nat, p < 3 → q < 3 → i * 3 + p ≠ k * 3 + q := by intro p q hp hq; omega
    have n0 : ∀ q : Nat, q < 3 → i * 3 ≠ k * 3 + q := by intro q hq; omega
    have n1 : ∀ p : Nat, p < 3 → i * 3 + p ≠ k * 3 := by intro q hq; omega
    have n2 : i * 3 ≠ k * 3 := by omega
    obtain ⟨h0, h1, D', g', hB', h2, hH⟩ := he i y (by omega) hy
    refine ⟨?_, ?_, D', g', hB', ?_, hH.keep (Nat.le_refl _) fun b hb => hblk b (by omega)⟩
    · simp only [if_neg n2, if_neg (n0 1 (by omega)), if_neg (n0 2 (by omega))]; exact h0
    · simp only [if_neg (n1 1 (by omega)), if_neg (n 1 1 (by omega) (by omega)), if_neg (n 1 2 (by omega) (by omega))]; exact h1
    · simp only [if_neg (n1 2 (by omega)), if_neg (n 2 1 (by omega) (by omega)), if_neg (n 2 2 (by omega) (by omega))]; exact h2
theorem wtb_rows {cs : List C2} (h : wtb cs ≤ 1048576) : (∀ x ∈ cs, x.r.length ≤ maxLen) ∧ cs.length ≤ maxLen :=
  ⟨fun x hx => by have := wt_mem hx; unfold wt at this; unfold wtb at h; unfold maxLen; omega, by unfold wtb at h; unfold maxLen; omega⟩
set_option maxHeartbeats 1000000 in
theorem toRel_any (s : ByteArray) (W : Int) (v : Value) (cs : List C2) (w : World) (hr : RowsIs w v cs) (hn : wtb cs ≤ 1048576) :
    Calls Tryz.prog 18 #[.agg #[.string s, .int .i64 W, v]] w fun e w' => (∃ B g, w.heap.size ≤ B ∧ e = .returned (.agg #[.string s, .int .i64 W, .slice (some ⟨B, 0, none⟩) cs.length cs.length]) ∧ HalfB w' B cs g cs.length) ∧ Below w.heap.size w w' := by
  obtain ⟨a, l, c, rfl⟩ := hr.shape
  go_enter Tryz.func18, Tryz.ntmps18
  go_wp2_with fail
  refine Calls.mono (toBag_any W (.slice a l c) cs _ (hr.below ?hb) hn) ?_
  case hb => repeat (first | exact Below.refl _ _ | refine Below.drew ?_ | refine Below.alloc ?_ (by first | (simp; done) | (simp; omega) | omega) _ | refine Below.setCell ?_ (by first | (simp; done) | (simp; omega) | omega) _ | refine bstep (by assumption) (by first | (simp; done) | (simp; omega) | omega) ?_)
  rintro e w1 ⟨⟨B, g, hB, rfl, hH1⟩, hb1⟩
  have hz1 := hb1.size
  simp only [World.size_alloc] at hz1 hB
  have hf1 := (bcell hb1).2
  have hy : w.heap.size + 1 + 1 < w1.heap.size := by omega
  have hy1 : w.heap.size + 1 < w1.heap.size := by omega
  have hy0 : w.heap.size < w1.heap.size := by omega
  have p0 : w1.cell? ⟨w.heap.size + 1, 0, none⟩ = some (.string ⟨#[]⟩) := cell_later hb1 (by go_simp)
  have p1 : w1.cell? ⟨w.heap.size + 1, 1, none⟩ = some (.int .i64 0) := cell_later hb1 (by go_simp)
  have p2 : w1.cell? ⟨w.heap.size + 1, 2, none⟩ = some (.slice none 0 0) := cell_later hb1 (by go_simp)
  have t0 : w1.cell? ⟨w.heap.size + 1 + 1, 0, none⟩ = some (.string s) := cell_later hb1 (by go_simp)
  have t1 : w1.cell? ⟨w.heap.size + 1 + 1, 1, none⟩ = some (.int .i64 0) := cell_later hb1 (by go_simp)
  have t2 : w1.cell? ⟨w.heap.size + 1 + 1, 2, none⟩ = some (.slice none 0 0) := cell_later hb1 (by go_simp)
  go_wp2
  refine bodyPost_ret (v := .agg #[.string s, .int .i64 W, .slice (some ⟨B, 0, none⟩) cs.length cs.length]) (by simp [results, Tryz.results18, go_sem, *]) rfl ⟨⟨B, g, by omega, by simp, ?_⟩, ?_⟩
  · refine hH1.keep (Nat.le_refl _) fun b hb => ?_
    repeat rw [Below.heap_setCell _ _ _ _ (by simp; try omega)]
  · repeat (first | exact Below.refl _ _ | refine Below.drew ?_ | refine Below.alloc ?_ (by first | (simp; done) | (simp; omega) | omega) _ | refine Below.setCell ?_ (by first | (simp; done) | (simp; omega) | omega) _ | refine bstep (by assumption) (by first | (simp; done) | (simp; omega) | omega) ?_)
end Go.Proofs.YtaeibfipcenhaaaGreatDoor
namespace Go.Proofs.YtaeibfipcenhaaaGreatDoor
open Go.RowKit Go.Deep
set_option linter.unusedVariables false
/-- relations of the call's own: block B0 has them, the first k are laid, their rows in the blocks G. -/
structure HalfRF (w : World) (B0 : Nat) (rs : List R3) (k : Nat) (G : List (List Nat)) : Prop where
  row : ∃ f, w.rowIs B0 69 (rs.length * 3) f ∧ ∀ i x g, i < k → rs[i]? = some x → G[i]? = some g → f (i * 3) = .string x.s ∧ f (i * 3 + 1) = .int .i64 x.W ∧ RowsF w (f (i * 3 + 2)) x.cs g
  gl : G.length = k
  kl : k ≤ rs.length
  own : OwnB w (B0 + 1) G.flatten
theorem HalfRF.cells {w : World} {B : Nat} {rs : List R3} {k : Nat} {G : List (List Nat)} (h : HalfRF w B rs k G) (hk : k < rs.length) :
    (∃ u, w.cell? ⟨B, k * 3, none⟩ = some u) ∧ (∃ u, w.cell? ⟨B, k * 3 + 1, none⟩ = some u) ∧ (∃ u, w.cell? ⟨B, k * 3 + 2, none⟩ = some u) ∧ (∀ i, w.frozen? ⟨B, i, none⟩ = false) ∧ B < w.heap.size := by
  obtain ⟨f, h, _⟩ := h.row
  exact ⟨⟨_, h.cell (by omega)⟩, ⟨_, h.cell (by omega)⟩, ⟨_, h.cell (by omega)⟩, fun i => h.frozen i, h.lt⟩
theorem HalfRF.lt {w : World} {B : Nat} {rs : List R3} {k : Nat} {G : List (List Nat)} (h : HalfRF w B rs k G) : ∀ b ∈ G.flatten, b < w.heap.size := by
  intro b hb
  obtain ⟨g, hg, hbg⟩ := List.mem_flatten.1 hb
  obtain ⟨i, hi, rfl⟩ := List.mem_iff_getElem.1 hg
  have h1 := h.gl
  have h2 := h.kl
  obtain ⟨f, _, he⟩ := h.row
  have hi' : i < rs.length := by omega
  exact (he i rs[i] G[i] (by omega) (by simp) (by simp)).2.2.lt b hbg
theorem HalfRF.below {w w' : World} {B : Nat} {rs : List R3} {k : Nat} {G : List (List Nat)} (h : HalfRF w B rs k G) (hb : Below w.heap.size w w') : HalfRF w' B rs k G := by
  have hlt := h.lt
  obtain ⟨⟨f, hf, he⟩, gl, kl, own⟩ := h
  refine ⟨⟨f, hf.of_block (hb.block _ hf.lt), fun i x g hi hx hg => ?_⟩, gl, kl, own.below hlt hb⟩
  obtain ⟨h0, h1, h2⟩ := he i x g hi hx hg
  exact ⟨h0, h1, h2.below hb⟩
theorem HalfRF.step {w : World} {B : Nat} {rs : List R3} {k : Nat} {G : List (List Nat)} {x : R3} {u : Value} {g : List Nat} {M : Nat} (h : HalfRF w B rs k G) (hx : rs[k]? = some x) (hR : RowsF w u x.cs g) (hO : OwnB w M g) (hM : B < M) (hd : ∀ b ∈ G.flatten, b < M) :
    HalfRF (((w.setCell ⟨B, k * 3, none⟩ (.string x.s)).setCell ⟨B, k * 3 + 1, none⟩ (.int .i64 x.W)).setCell ⟨B, k * 3 + 2, none⟩ u) B rs (k + 1) (G ++ [g]) := by
  obtain ⟨⟨f, hf, he⟩, gl, kl, own⟩ := h
  have hblk : ∀ b, B < b → (((w.setCell ⟨B, k * 3, none⟩ (.string x.s)).setCell ⟨B, k * 3 + 1, none⟩ (.int .i64 x.W)).setCell ⟨B, k * 3 + 2, none⟩ u).heap[b]? = w.heap[b]? := by
    intro b hb
    repeat rw [Below.heap_setCell _ _ _ _ (by show b ≠ B; omega)]
  refine ⟨⟨_, ((hf.set _ _).set _ _).set _ _, fun i y g' hi hy hg' => ?_⟩, by simp [gl], (List.getElem?_eq_some_iff.1 hx).1, ?_⟩
  · by_cases e : i = k
    · subst e
      obtain rfl : y = x := by rw [hx] at hy; exact (Option.some.inj hy).symm
      obtain rfl : g' = g := by rw [List.getElem?_append_right (by omega), gl] at hg'; simp at hg'; exact hg'.symm
      refine ⟨by simp, by simp, ?_⟩
      simp only [if_true]
      exact hR.keep (by simp) fun b hb => hblk b (by have := hO.2.1 b hb; omega)
    · have n : ∀ p q : Nat, p < 3 → q < 3 → i * 3 + p ≠ k * 3 + q := by intro p q hp hq; omega
      have n0 : ∀ q : Nat, q < 3 → i * 3 ≠ k * 3 + q := by intro q hq; omega
      have n1 : ∀ p : Nat, p < 3 → i * 3 + p ≠ k * 3 := by intro q hq; omega
      have n2 : i * 3 ≠ k * 3 := by omega
      rw [List.getElem?_append_left (by omega)] at hg'
      obtain ⟨h0, h1, h2⟩ := he i y g' (by omega) hy hg'
      refine ⟨?_, ?_, ?_⟩
      · simp only [if_neg n2, if_neg (n0 1 (by omega)), if_neg (n0 2 (by omega))]; exact h0
      · simp only [if_neg (n1 1 (by omega)), if_neg (n 1 1 (by omega) (by omega)), if_neg (n 1 2 (by omega) (by omega))]; exact h1
      · simp only [if_neg (n1 2 (by omega)), if_neg (n 2 1 (by omega) (by omega)), if_neg (n 2 2 (by omega) (by omega))]
        exact h2.keep (by simp) fun b hb => hblk b (by have := own.2.1 b (List.mem_flatten.2 ⟨g', List.mem_of_getElem? hg', hb⟩); omega)
  · have hm : ∀ b ∈ (G ++ [g]).flatten, b ∈ G.flatten ∨ b ∈ g := by intro b hb; simpa using hb
    have hgt : ∀ b ∈ (G ++ [g]).flatten, B + 1 ≤ b := fun b hb => (hm b hb).elim (own.2.1 b) (fun h => by have := hO.2.1 b h; omega)
    refine OwnB.keep (w := w) ⟨?_, hgt, fun b hb => (hm b hb).elim (own.2.2 b) (hO.2.2 b)⟩ fun b hb => hblk b (hgt b hb)
    rw [List.flatten_append, List.nodup_append]
    refine ⟨own.1, by simpa using hO.1, fun a ha b hb => ?_⟩
    rintro rfl
    have h1 := hd a ha
    have h2 := hO.2.1 a (by simpa using hb)
    omega
theorem HalfRF.relsF {w : World} {B : Nat} {rs : List R3} {G : List (List Nat)} (h : HalfRF w B rs rs.length G) (hn : wtR rs ≤ 1048576) : ∃ F, RelsF w (.slice (some ⟨B, 0, none⟩) rs.length rs.length) rs F ∧ OwnB w B F := by
  obtain ⟨⟨f, hf, he⟩, gl, kl, own⟩ := h
  have hm : rs.length ≤ maxLen := by unfold wtR at hn; unfold maxLen; omega
  by_cases hne : rs = []
  · exact ⟨[], ⟨_, _, G, rfl, Nat.le_refl _, hm, (fun x => by cases x), gl, fun _ => rfl, fun x => absurd hne x⟩, by simp [OwnB, Free]⟩
  refine ⟨B :: G.flatten, ⟨_, _, G, rfl, Nat.le_refl _, hm, (fun x => by cases x), gl, fun x => absurd x hne, fun _ => ⟨B, 0, rfl, hf.lt, rfl, fun i x g hx hg => ?_⟩⟩, List.nodup_cons.2 ⟨fun hb => by have := own.2.1 B hb; omega, own.1⟩, fun b hb => ?_, fun b hb o => ?_⟩
  · have hi : i < rs.length := (List.getElem?_eq_some_iff.1 hx).1
    obtain ⟨e0, e1, e2⟩ := he i x g hi hx hg
    exact ⟨_, by rw [Nat.zero_add, hf.cell (by omega), e0], by rw [Nat.zero_add, hf.cell (by omega), e1], by rw [Nat.zero_add, hf.cell (by omega)], e2⟩
  · rcases List.mem_cons.1 hb with rfl | hb
    · exact Nat.le_refl _
    · have := own.2.1 b hb; omega
  · rcases List.mem_cons.1 hb with rfl | hb
    · exact hf.frozen o
    · exact own.2.2 b hb o
theorem halfRF_made (w : World) (z : Array Value) (rs : List R3) : HalfRF (w.alloc (.cells (madeCells z (rs.length * 3)) 69)) w.heap.size rs 0 [] :=
  ⟨⟨fun i => (madeCells z (rs.length * 3))[i]?.getD undef, ⟨_, blk_alloc_new _ _, size_madeCells _ _, fun i hi => by
    have : i < (madeCells z (rs.length * 3)).size := by rw [size_madeCells]; exact hi
    simp [this]⟩, fun i x g hi => by omega⟩, rfl, Nat.zero_le _, by simp [OwnB, Free]⟩
theorem toRel_F (s : ByteArray) (W : Int) (v : Value) (cs : List C2) (w : World) (hr : RowsIs w v cs) (hn : wtb cs ≤ 1048576) :
    Calls Tryz.prog 18 #[.agg #[.string s, .int .i64 W, v]] w fun e w' => (∃ a l c F, e = .returned (.agg #[.string s, .int .i64 W, .slice a l c]) ∧ RowsF w' (.slice a l c) cs F ∧ OwnB w' w.heap.size F) ∧ Below w.heap.size w w' :=
  (toRel_any s W v cs w hr hn).mono fun e w' ⟨⟨B, g, hB, he, h⟩, hb⟩ => by
    obtain ⟨F, h1, h2⟩ := h.rowsF (wtb_rows hn).1 (wtb_rows hn).2
    exact ⟨⟨_, _, _, F, he, h1, h2.1, fun b hb => Nat.le_trans hB (h2.2.1 b hb), h2.2.2⟩, hb⟩
set_option maxHeartbeats 2000000 in
set_option maxRecDepth 100000 in
theorem toRelS_F (v : Value) (rs : List R3) (w : World) (hr : RelsIs w v rs) (hn : wtR rs ≤ 1048576) :
    Calls Tryz.prog 7 #[v] w fun e w' => (∃ u F, e = .returned u ∧ RelsF w' u rs F ∧ OwnB w' w.heap.size F) ∧ Below w.heap.size w w' := by
  obtain ⟨a, c, b, o, rfl, hl, hc, ha⟩ := hr.pick
  unfold maxLen at hc
  clear hr
  have hn1 : rs.length ≤ 1048576 := by unfold wtR at hn; omega
  have hmk := run_make_wide (P := Tryz.prog) 27 69 _ 3 48 Tryz.underlying27 Tryz.infoRel rs.length (by omega) (by omega)
  go_enter Tryz.func7, Tryz.ntmps7
  go_wp2
  go_loopw [4] (fun i wr => ∃ (k : Nat) (G : List (List Nat)), k ≤ rs.length ∧ i = .int .i64 k ∧ Below w.heap.size w wr ∧ HalfRF wr w.heap.size rs k G) (fun i _ => rs.length - (intOf i).toNat)
  case atStart => exact ⟨0, [], Nat.zero_le _, rfl, by go_grown, halfRF_made _ _ _⟩
  case round =>
    obtain ⟨k, G, hk, rfl, hb, hH⟩ := hrel
    clear hmk
    by_cases hlt : k < rs.length
    · have hzb := hb.size
      obtain ⟨rfl, hblt, hL⟩ := ha k hlt
      obtain ⟨x, u, hx, c0, c1, c2, hR, hbr⟩ := hL.at hblt hb hlt
      have HX : Hid (rs[k]? = some x) := hx
      have hxn : wtb x.cs ≤ 1048576 := by have := wtr_mem (List.mem_of_getElem? hx); unfold wtr at this; unfold wtR at hn; omega
      have hBr := (hH.cells hlt).2.2.2.2
      have hGl := hH.lt
      clear ha hL hx
      go_wp2_with (go_at_call 18; refine (toRel_F _ _ _ _ _ hR hxn).mono ?_; rintro e w1 ⟨⟨a1, l1, d1, g, rfl, hRD, hOD⟩, hb1⟩; have hz1 := hb1.size; have hH1 := hH.below hb1; obtain ⟨⟨y0, g0⟩, ⟨y1, g1⟩, ⟨y2, g2⟩, gf, gs⟩ := hH1.cells hlt)
      refine ⟨⟨k + 1, _, hlt, by simp, by repeat (first | exact Below.refl _ _ | refine Below.drew ?_ | refine Below.alloc ?_ (by first | (simp; done) | (simp; omega) | omega) _ | refine Below.setCell ?_ (by first | (simp; done) | (simp; omega) | omega) _ | refine bstep (by assumption) (by first | (simp; done) | (simp; omega) | omega) ?_), hH1.step HX.out hRD hOD (by omega) hGl⟩, by simp [intOf]; omega⟩
    · go_wp2
      go_returns
      obtain rfl : k = rs.length := by omega
      obtain ⟨F, h1, h2⟩ := hH.relsF hn
      exact ⟨⟨_, F, rfl, h1, h2⟩, hb⟩
end Go.Proofs.YtaeibfipcenhaaaGreatDoor
