/- Own text. The contract of toSchemaS: new schemas with the same names and columns, all of it in memory of the call's own. -/
import Derived.Test.YtfmdleomfpampaaSchC
import Derived.Handy
import Derived.Deep.OwnRows
namespace Go.Proofs.Ytfmdleomfpampaa
open Go.RowKit Go.Deep
set_option linter.unusedVariables false
theorem Try.infoSch : (Try.prog.info? 42).map (fun i => (i.zero, i.size, i.bytes)) = some (some (.agg #[.string ⟨#[]⟩, .slice none 0 0]), 2, 40) := by kernel_rfl
/-- schemas of the call's own: block B0 has them, the first k are laid; each list of columns lies above it. -/
def HalfH (w : World) (B0 : Nat) (rs : List S2) (k : Nat) : Prop :=
  ∃ f, w.rowIs B0 42 (rs.length * 2) f ∧ ∀ i x, i < k → rs[i]? = some x → f (i * 2) = .string x.s ∧ ∃ g, StrsF w (f (i * 2 + 1)) x.cs g ∧ ∀ b ∈ g, B0 < b
theorem HalfH.cells {w : World} {B : Nat} {rs : List S2} {k : Nat} (h : HalfH w B rs k) (hk : k < rs.length) :
    (∃ u, w.cell? ⟨B, k * 2, none⟩ = some u) ∧ (∃ u, w.cell? ⟨B, k * 2 + 1, none⟩ = some u) ∧ (∀ i, w.frozen? ⟨B, i, none⟩ = false) ∧ B < w.heap.size := by
  obtain ⟨f, h, _⟩ := h
  exact ⟨⟨_, h.cell (by omega)⟩, ⟨_, h.cell (by omega)⟩, fun i => h.frozen i, h.lt⟩
theorem HalfH.below {w w' : World} {B : Nat} {rs : List S2} {k : Nat} (h : HalfH w B rs k) (hb : Below w.heap.size w w') : HalfH w' B rs k := by
  obtain ⟨f, hf, he⟩ := h
  refine ⟨f, hf.of_block (hb.block _ hf.lt), fun i x hi hx => ?_⟩
  obtain ⟨h0, g, hg, hB⟩ := he i x hi hx
  exact ⟨h0, g, hg.below hb, hB⟩
theorem HalfH.step {w : World} {B : Nat} {rs : List S2} {g : List Nat} {k : Nat} {x : S2} {u : Value} (h : HalfH w B rs k) (hx : rs[k]? = some x) (hD : StrsF w u x.cs g) (hB : ∀ b ∈ g, B < b) :
    HalfH ((w.setCell ⟨B, k * 2, none⟩ (.string x.s)).setCell ⟨B, k * 2 + 1, none⟩ u) B rs (k + 1) := by
  obtain ⟨f, hf, he⟩ := h
  have hblk : ∀ b, B < b → ((w.setCell ⟨B, k * 2, none⟩ (.string x.s)).setCell ⟨B, k * 2 + 1, none⟩ u).heap[b]? = w.heap[b]? := by
    intro b hb
    repeat rw [Below.heap_setCell _ _ _ _ (by show b ≠ B; omega)]
  have hsz : w.heap.size ≤ ((w.setCell ⟨B, k * 2, none⟩ (.string x.s)).setCell ⟨B, k * 2 + 1, none⟩ u).heap.size := by simp
  refine ⟨_, (hf.set _ _).set _ _, fun i y hi hy => ?_⟩
  by_cases e : i = k
  · subst e
    obtain rfl : y = x := by rw [hx] at hy; exact (Option.some.inj hy).symm
    refine ⟨by simp, g, ?_, hB⟩
    have : (if i * 2 + 1 = i * 2 + 1 then u else if i * 2 + 1 = i * 2 then Value.string y.s else f (i * 2 + 1)) = u := by simp
    simp only [if_true]
    exact hD.keep hsz fun b hb => hblk b (hB b hb)
  · have n1 : i * 2 + 1 ≠ k * 2 := by omega
    have n0 : i * 2 ≠ k * 2 + 1 := by omega
    have n2 : i * 2 ≠ k * 2 := by omega
    have n3 : i * 2 + 1 ≠ k * 2 + 1 := by omega
    obtain ⟨h0, g', hg', hB'⟩ := he i y (by omega) hy
    refine ⟨?_, g', ?_, hB'⟩
    · simp only [if_neg n2, if_neg n0]; exact h0
    · simp only [if_neg n1, if_neg n3]; exact hg'.keep hsz fun b hb => hblk b (hB' b hb)
theorem HalfH.schs {w : World} {B : Nat} {rs : List S2} (h : HalfH w B rs rs.length) (hn : wtH rs ≤ 1048576) : SchsIs w (.slice (some ⟨B, 0, none⟩) rs.length rs.length) rs := by
  obtain ⟨f, hf, he⟩ := h
  refine ⟨_, _, rfl, Nat.le_refl _, by unfold wtH at hn; unfold maxLen; omega, fun _ => ⟨B, 0, rfl, hf.lt, fun i x hx => ?_⟩⟩
  have hi : i < rs.length := (List.getElem?_eq_some_iff.1 hx).1
  obtain ⟨e0, g, hg, _⟩ := he i x hi hx
  exact ⟨_, g, by rw [Nat.zero_add, hf.cell (by omega), e0], by rw [Nat.zero_add, hf.cell (by omega)], hg⟩
theorem halfH_made (w : World) (z : Array Value) (rs : List S2) : HalfH (w.alloc (.cells (madeCells z (rs.length * 2)) 42)) w.heap.size rs 0 :=
  ⟨fun i => (madeCells z (rs.length * 2))[i]?.getD undef, ⟨_, blk_alloc_new _ _, size_madeCells _ _, fun i hi => by
    have : i < (madeCells z (rs.length * 2)).size := by rw [size_madeCells]; exact hi
    simp [this]⟩, fun i x hi => by omega⟩
set_option maxHeartbeats 1000000 in
theorem toSchema_any (s : ByteArray) (v : Value) (cs : List ByteArray) (g : List Nat) (w : World) (hr : StrsF w v cs g) (hn : cs.length ≤ 1048576) :
    Calls Try.prog 22 #[.agg #[.string s, v]] w fun e w' => (∃ a c g', e = .returned (.agg #[.string s, .slice a cs.length c]) ∧ StrsF w' (.slice a cs.length c) cs g' ∧ ∀ b ∈ g', w.heap.size ≤ b) ∧ Below w.heap.size w w' := by
  obtain ⟨a, c, rfl, _, _⟩ := hr.shape
  go_enter Try.func22, Try.ntmps22
  go_wp2_with fail
  refine Calls.mono (toStringS_any (.slice a cs.length c) cs g _ (hr.below ?hb) hn) ?_
  case hb => repeat (first | exact Below.refl _ _ | refine Below.drew ?_ | refine Below.alloc ?_ (by first | (simp; done) | (simp; omega) | omega) _ | refine Below.setCell ?_ (by first | (simp; done) | (simp; omega) | omega) _ | refine bstep (by assumption) (by first | (simp; done) | (simp; omega) | omega) ?_)
  rintro e w1 ⟨⟨u, g', rfl, hU, hO⟩, hb1⟩
  obtain ⟨a1, c1, rfl, _, _⟩ := hU.shape
  have hz1 := hb1.size
  simp only [World.size_alloc] at hz1
  have hB : ∀ b ∈ g', w.heap.size + 1 + 1 + 1 ≤ b := fun b hb => by have := (hO.2 b hb).1; simpa using this
  clear hO
  have hf1 := (bcell hb1).2
  have hy : w.heap.size + 1 + 1 < w1.heap.size := by omega
  have hy1 : w.heap.size + 1 < w1.heap.size := by omega
  have hy0 : w.heap.size < w1.heap.size := by omega
  have p0 : w1.cell? ⟨w.heap.size + 1, 0, none⟩ = some (.string ⟨#[]⟩) := cell_later hb1 (by go_simp)
  have p1 : w1.cell? ⟨w.heap.size + 1, 1, none⟩ = some (.slice none 0 0) := cell_later hb1 (by go_simp)
  have t0 : w1.cell? ⟨w.heap.size + 1 + 1, 0, none⟩ = some (.string s) := cell_later hb1 (by go_simp)
  have t1 : w1.cell? ⟨w.heap.size + 1 + 1, 1, none⟩ = some (.slice none 0 0) := cell_later hb1 (by go_simp)
  go_wp2
  refine bodyPost_ret (v := .agg #[.string s, .slice a1 cs.length c1]) (by simp [results, Try.results22, go_sem, *]) rfl ⟨⟨a1, c1, g', by simp, ?_, fun b hb => by have := hB b hb; omega⟩, ?_⟩
  · refine hU.keep (by simp) fun b hb => ?_
    have := hB b hb
    repeat rw [Below.heap_setCell _ _ _ _ (by simp; try omega)]
  · repeat (first | exact Below.refl _ _ | refine Below.drew ?_ | refine Below.alloc ?_ (by first | (simp; done) | (simp; omega) | omega) _ | refine Below.setCell ?_ (by first | (simp; done) | (simp; omega) | omega) _ | refine bstep (by assumption) (by first | (simp; done) | (simp; omega) | omega) ?_)
set_option maxHeartbeats 2000000 in
set_option maxRecDepth 100000 in
theorem toSchemaS_schs (v : Value) (rs : List S2) (w : World) (hr : SchsIs w v rs) (hn : wtH rs ≤ 1048576) :
    Calls Try.prog 8 #[v] w fun e w' => (∃ u, e = .returned u ∧ SchsIs w' u rs) ∧ Below w.heap.size w w' := by
  obtain ⟨a, c, b, o, rfl, hl, hc, ha⟩ := hr.pick
  unfold maxLen at hc
  clear hr
  have hn1 : rs.length ≤ 1048576 := by unfold wtH at hn; omega
  have hmk := run_make_wide (P := Try.prog) 25 42 _ 2 40 Try.underlying25 Try.infoSch rs.length (by omega) (by omega)
  go_enter Try.func8, Try.ntmps8
  go_wp2
  go_loopw [4] (fun i wr => ∃ (k : Nat), k ≤ rs.length ∧ i = .int .i64 k ∧ Below w.heap.size w wr ∧ HalfH wr w.heap.size rs k) (fun i _ => rs.length - (intOf i).toNat)
  case atStart => exact ⟨0, Nat.zero_le _, rfl, by go_grown, halfH_made _ _ _⟩
  case round =>
    obtain ⟨k, hk, rfl, hb, hH⟩ := hrel
    clear hmk
    by_cases hlt : k < rs.length
    · have hzb := hb.size
      obtain ⟨rfl, hblt, hL⟩ := ha k hlt
      obtain ⟨x, u, g, hx, c0, c1, hR, hbr⟩ := hL.at hblt hb hlt
      have HX : Hid (rs[k]? = some x) := hx
      have hxn : x.cs.length ≤ 1048576 := by have := wth_mem (List.mem_of_getElem? hx); unfold wth at this; unfold wtH at hn; omega
      have hBr := (hH.cells hlt).2.2.2
      clear ha hL hx
      go_wp2_with (go_at_call 22; refine (toSchema_any _ _ _ _ _ hR hxn).mono ?_; rintro e w1 ⟨⟨a1, n1, g1, rfl, hRD, hg1⟩, hb1⟩; have hz1 := hb1.size; have hH1 := hH.below hb1; obtain ⟨⟨y0, g0⟩, ⟨y1, g2⟩, gf, gs⟩ := hH1.cells hlt)
      refine ⟨⟨k + 1, hlt, by simp, by repeat (first | exact Below.refl _ _ | refine Below.drew ?_ | refine Below.alloc ?_ (by first | (simp; done) | (simp; omega) | omega) _ | refine Below.setCell ?_ (by first | (simp; done) | (simp; omega) | omega) _ | refine bstep (by assumption) (by first | (simp; done) | (simp; omega) | omega) ?_), hH1.step HX.out hRD (fun b hb => by have := hg1 b hb; omega)⟩, by simp [intOf]; omega⟩
    · go_wp2
      go_returns
      obtain rfl : k = rs.length := by omega
      exact ⟨⟨_, rfl, hH.schs hn⟩, hb⟩
end Go.Proofs.Ytfmdleomfpampaa
