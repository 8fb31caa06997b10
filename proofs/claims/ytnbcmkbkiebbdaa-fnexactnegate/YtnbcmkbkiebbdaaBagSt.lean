/- Own text. What a statement on a function from bags to a bag holds together: the boxes of its variables, the model's answer, the argument made anew, the program's answer; and how it stays so behind calls and marks. -/
import Derived.Test.YtnbcmkbkiebbdaaTimesS
import Derived.Handy
namespace Go.Proofs.Ytnbcmkbkiebbdaa
open Go.RowKit Go.Deep
set_option linter.unusedVariables false
theorem HalfB.rowsF {w : World} {B : Nat} {cs : List C2} {g : Nat → Nat} (h : HalfB w B cs g cs.length) (hl : ∀ x ∈ cs, x.r.length ≤ maxLen) (hm : cs.length ≤ maxLen) : ∃ F, RowsF w (.slice (some ⟨B, 0, none⟩) cs.length cs.length) cs F ∧ Own w B F := by
  obtain ⟨f, hf, he⟩ := h.own
  by_cases hne : cs = []
  · exact ⟨[], ⟨_, _, [], rfl, Nat.le_refl _, hm, (fun x => by cases x), by rw [hne]; rfl, fun _ => rfl, fun x => absurd hne x⟩, by simp [Own, Free]⟩
  let G : List (List Nat) := (List.range cs.length).map fun i => if (cs.getD i ⟨[], 0⟩).r = [] then [] else [g i]
  have hGl : G.length = cs.length := by simp [G]
  have hGi : ∀ i q, G[i]? = some q → i < cs.length ∧ q = if (cs.getD i ⟨[], 0⟩).r = [] then [] else [g i] := by
    intro i q hq
    have hi : i < cs.length := by have := (List.getElem?_eq_some_iff.1 hq).1; omega
    refine ⟨hi, ?_⟩
    simp [G, hi] at hq
    rw [← hq]
    simp [hi]
  have hmem : ∀ b ∈ G.flatten, ∃ i, i < cs.length ∧ b = g i := by
    intro b hb
    obtain ⟨q, hq, hbq⟩ := List.mem_flatten.1 hb
    obtain ⟨i, hi, rfl⟩ := List.mem_iff_getElem.1 hq
    obtain ⟨hi', e⟩ := hGi i G[i] (by simp)
    rw [e] at hbq
    split at hbq
    · cases hbq
    · exact ⟨i, hi', List.mem_singleton.1 hbq⟩
  refine ⟨B :: G.flatten, ⟨_, _, G, rfl, Nat.le_refl _, hm, (fun x => by cases x), hGl, fun x => absurd x hne, fun _ => ⟨B, 0, rfl, hf.lt, rfl, fun i x q hx hq => ?_⟩⟩, ?_, fun b hb => ?_, fun b hb o => ?_⟩
  · obtain ⟨hi, eq⟩ := hGi i q hq
    obtain ⟨e0, e1⟩ := he i x hi hx
    have ex : cs.getD i ⟨[], 0⟩ = x := by simp [List.getD, hx]
    rw [ex] at eq
    have hrow := h.row i x hi hx
    refine ⟨.slice (some ⟨g i, 0, none⟩) x.r.length x.r.length, by rw [Nat.zero_add, hf.cell (by omega), e0], ⟨_, _, rfl, Nat.le_refl _, hl x (List.mem_of_getElem? hx), (fun x => by cases x), fun e => by rw [eq, if_pos e], fun hn => ⟨g i, 0, rfl, hrow.lt, by rw [eq, if_neg hn], ?_⟩⟩, by rw [Nat.zero_add, hf.cell (by omega), e1]⟩
    refine lies_cells.2 fun j hj => ?_
    rw [Nat.zero_add]
    exact hrow.cell hj
  · refine List.nodup_cons.2 ⟨fun hb => ?_, ?_⟩
    · obtain ⟨i, hi, e⟩ := hmem B hb
      have := h.above i hi
      omega
    · rw [List.Nodup, List.pairwise_flatten]
      constructor
      · intro q hq
        obtain ⟨i, hi, rfl⟩ := List.mem_iff_getElem.1 hq
        obtain ⟨hi', e⟩ := hGi i G[i] (by simp)
        rw [e]
        split <;> simp
      · rw [List.pairwise_iff_getElem]
        intro i j hi hj hij x hx y hy
        obtain ⟨hi', ei⟩ := hGi i G[i] (by simp)
        obtain ⟨hj', ej⟩ := hGi j G[j] (by simp)
        rw [ei] at hx
        rw [ej] at hy
        split at hx
        · cases hx
        · split at hy
          · cases hy
          · have := h.up i j hij hj'
            have e1 := List.mem_singleton.1 hx
            have e2 := List.mem_singleton.1 hy
            omega
  · rcases List.mem_cons.1 hb with rfl | hb
    · exact Nat.le_refl _
    · obtain ⟨i, hi, rfl⟩ := hmem b hb
      exact Nat.le_of_lt (h.above i hi)
  · rcases List.mem_cons.1 hb with rfl | hb
    · exact hf.frozen o
    · obtain ⟨i, hi, rfl⟩ := hmem b hb
      exact (h.row i cs[i] hi (by simp)).frozen o
/-- toBag, with the blocks of what it makes. -/
theorem toBag_F (W : Int) (v : Value) (cs : List C2) (w : World) (hr : RowsIs w v cs) (hn : wtb cs ≤ 1048576) :
    Calls Try.prog 24 #[.agg #[.int .i64 W, v]] w fun e w' => (∃ u F, e = .returned (.agg #[.int .i64 W, u]) ∧ RowsF w' u cs F ∧ Own w' w.heap.size F) ∧ Below w.heap.size w w' :=
  (toBag_any W v cs w hr hn).mono fun e w' ⟨⟨B, g, hB, he, h⟩, hb⟩ => by
    obtain ⟨F, h1, h2⟩ := h.rowsF (fun x hx => by have := wt_mem hx; unfold wt at this; unfold wtb at hn; unfold maxLen; omega) (by unfold wtb at hn; unfold maxLen; omega)
    exact ⟨⟨_, F, he, h1, h2.1, fun b hb => Nat.le_trans hB (h2.2.1 b hb), h2.2.2⟩, hb⟩
structure St (w wi : World) (A6 A7 A8 : Nat) (W : Int) (v s u g : Value) (R X Y : List C2) (F3 F4 F5 : List Nat) : Prop where
  bel : Below w.heap.size w wi
  h0 : wi.cell? ⟨w.heap.size, 0, none⟩ = some (.int .i64 W)
  h1 : wi.cell? ⟨w.heap.size, 1, none⟩ = some v
  a0 : wi.cell? ⟨A6, 0, none⟩ = some (.int .i64 W)
  a1 : wi.cell? ⟨A6, 1, none⟩ = some s
  x0 : wi.cell? ⟨A7, 0, none⟩ = some (.int .i64 W)
  x1 : wi.cell? ⟨A7, 1, none⟩ = some u
  g0 : wi.cell? ⟨A8, 0, none⟩ = some (.int .i64 W)
  g1 : wi.cell? ⟨A8, 1, none⟩ = some g
  sp : RowsF wi s R F3
  xx : RowsF wi u X F4
  gg : RowsF wi g Y F5
  o4 : Own wi w.heap.size F4
  o5 : Own wi w.heap.size F5
  l6 : w.heap.size < A6
  l7 : A6 < A7
  l8 : A7 < A8
  l9 : A8 < wi.heap.size
  d4 : w.heap.size ∉ F4 ∧ A6 ∉ F4 ∧ A7 ∉ F4 ∧ A8 ∉ F4
  d5 : w.heap.size ∉ F5 ∧ A6 ∉ F5 ∧ A7 ∉ F5 ∧ A8 ∉ F5
  d34 : ∀ b ∈ F3, b ∉ F4
  d35 : ∀ b ∈ F3, b ∉ F5
  d45 : ∀ b ∈ F4, b ∉ F5
section
variable {w wi wj : World} {A6 A7 A8 : Nat} {W : Int} {v s u g : Value} {R X Y : List C2} {F3 F4 F5 : List Nat}
theorem St.below (h : St w wi A6 A7 A8 W v s u g R X Y F3 F4 F5) (hb : Below wi.heap.size wi wj) : St w wj A6 A7 A8 W v s u g R X Y F3 F4 F5 := by
  have l6 := h.l6
  have l7 := h.l7
  have l8 := h.l8
  have l9 := h.l9
  have c : ∀ b o, b < wi.heap.size → wj.cell? ⟨b, o, none⟩ = wi.cell? ⟨b, o, none⟩ := (bcell hb).1
  exact ⟨h.bel.trans (hb.mono (by omega)), (c _ _ (by omega)).trans h.h0, (c _ _ (by omega)).trans h.h1, (c _ _ (by omega)).trans h.a0, (c _ _ (by omega)).trans h.a1, (c _ _ (by omega)).trans h.x0, (c _ _ (by omega)).trans h.x1, (c _ _ (by omega)).trans h.g0, (c _ _ (by omega)).trans h.g1,
    h.sp.below hb, h.xx.below hb, h.gg.below hb, h.o4.below h.xx.lt hb, h.o5.below h.gg.lt hb, l6, l7, l8, Nat.lt_of_lt_of_le l9 hb.size, h.d4, h.d5, h.d34, h.d35, h.d45⟩
theorem St.cells (h : St w wi A6 A7 A8 W v s u g R X Y F3 F4 F5) {F : List Nat} (hc : Chg F wi wj) (hd : w.heap.size ∉ F ∧ A6 ∉ F ∧ A7 ∉ F ∧ A8 ∉ F) : wj.cell? ⟨w.heap.size, 0, none⟩ = some (.int .i64 W) ∧ wj.cell? ⟨w.heap.size, 1, none⟩ = some v ∧ wj.cell? ⟨A6, 0, none⟩ = some (.int .i64 W) ∧ wj.cell? ⟨A6, 1, none⟩ = some s ∧ wj.cell? ⟨A7, 0, none⟩ = some (.int .i64 W) ∧ wj.cell? ⟨A7, 1, none⟩ = some u ∧ wj.cell? ⟨A8, 0, none⟩ = some (.int .i64 W) ∧ wj.cell? ⟨A8, 1, none⟩ = some g := by
  have l6 := h.l6
  have l7 := h.l7
  have l8 := h.l8
  have l9 := h.l9
  have c : ∀ b o, b < wi.heap.size → b ∉ F → wj.cell? ⟨b, o, none⟩ = wi.cell? ⟨b, o, none⟩ := fun b o hb hF => cell_blk (hc.block b hb hF)
  exact ⟨(c _ _ (by omega) hd.1).trans h.h0, (c _ _ (by omega) hd.1).trans h.h1, (c _ _ (by omega) hd.2.1).trans h.a0, (c _ _ (by omega) hd.2.1).trans h.a1, (c _ _ (by omega) hd.2.2.1).trans h.x0, (c _ _ (by omega) hd.2.2.1).trans h.x1, (c _ _ (by omega) hd.2.2.2).trans h.g0, (c _ _ (by omega) hd.2.2.2).trans h.g1⟩
theorem St.markX (h : St w wi A6 A7 A8 W v s u g R X Y F3 F4 F5) {X' : List C2} (hc : Chg F4 wi wj) (hx : RowsF wj u X' F4) : St w wj A6 A7 A8 W v s u g R X' Y F3 F4 F5 := by
  obtain ⟨e0, e1, e2, e3, e4, e5, e6, e7⟩ := h.cells hc h.d4
  exact ⟨h.bel.trans (hc.below h.o4.2.1 (by have := h.l6; have := h.l7; have := h.l8; have := h.l9; omega)), e0, e1, e2, e3, e4, e5, e6, e7, h.sp.chg hc h.d34, hx, h.gg.chg hc (fun b hb hb' => h.d45 b hb' hb), ⟨h.o4.1, h.o4.2.1, hc.free h.o4.2.2⟩, h.o5.keep (fun b hb => hc.block b (h.gg.lt b hb) (fun hb' => h.d45 b hb' hb)), h.l6, h.l7, h.l8, Nat.lt_of_lt_of_le h.l9 hc.size, h.d4, h.d5, h.d34, h.d35, h.d45⟩
theorem St.markG (h : St w wi A6 A7 A8 W v s u g R X Y F3 F4 F5) {Y' : List C2} (hc : Chg F5 wi wj) (hy : RowsF wj g Y' F5) : St w wj A6 A7 A8 W v s u g R X Y' F3 F4 F5 := by
  obtain ⟨e0, e1, e2, e3, e4, e5, e6, e7⟩ := h.cells hc h.d5
  exact ⟨h.bel.trans (hc.below h.o5.2.1 (by have := h.l6; have := h.l7; have := h.l8; have := h.l9; omega)), e0, e1, e2, e3, e4, e5, e6, e7, h.sp.chg hc h.d35, h.xx.chg hc h.d45, hy, h.o4.keep (fun b hb => hc.block b (h.xx.lt b hb) (h.d45 b hb)), ⟨h.o5.1, h.o5.2.1, hc.free h.o5.2.2⟩, h.l6, h.l7, h.l8, Nat.lt_of_lt_of_le h.l9 hc.size, h.d4, h.d5, h.d34, h.d35, h.d45⟩
end
theorem wtb_timesC (W n : Int) (cs : List C2) : wtb (timesC W n cs) ≤ wtb cs := by
  unfold timesC
  split
  · unfold wtb wtcs timesL; simp [Function.comp_def]
  · unfold wtb wtcs; simp
end Go.Proofs.Ytnbcmkbkiebbdaa
