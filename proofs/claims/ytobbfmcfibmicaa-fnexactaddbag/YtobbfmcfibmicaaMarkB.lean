/- Own text. The contracts of markBag and heldBag: a bag that is written over with marks, and that has them still. -/
import Derived.Test.YtobbfmcfibmicaaMarkV
import Derived.Test.YtobbfmcfibmicaaBagC
import Derived.Handy
namespace Go.Proofs.Ytobbfmcfibmicaa
open Go.RowKit Go.Deep
set_option linter.unusedVariables false
/-- the mark that row i of counted rows begins with. -/
def offC (k : Nat) (cs : List C2) (i : Nat) : Nat := k + ((cs.take i).map fun x => 3 * x.r.length + 1).sum
theorem offC_zero (k : Nat) (cs : List C2) : offC k cs 0 = k := by simp [offC]
theorem offC_succ {k i : Nat} {cs : List C2} {x : C2} (h : cs[i]? = some x) : offC k cs (i + 1) = offC k cs i + (3 * x.r.length + 1) := by
  obtain ⟨hk, rfl⟩ := List.getElem?_eq_some_iff.1 h
  unfold offC
  rw [List.take_succ_eq_append_getElem hk, List.map_append, List.sum_append]
  simp only [List.map_cons, List.map_nil, List.sum_cons, List.sum_nil]
  omega
theorem sum_le (l : List C2) : (l.map fun x => 3 * x.r.length + 1).sum ≤ 3 * wtb l := by
  unfold wtb wtcs
  induction l with
  | nil => simp
  | cons x xs ih =>
    simp only [List.map_cons, List.sum_cons, List.length_cons] at ih ⊢
    unfold wt at ih ⊢
    omega
theorem offC_le (k : Nat) (cs : List C2) : ∀ i, offC k cs i ≤ k + 3 * wtb cs := by
  intro i
  have h1 := sum_le cs
  have h2 : ((cs.take i).map fun x => 3 * x.r.length + 1).sum ≤ (cs.map fun x => 3 * x.r.length + 1).sum := by
    conv => rhs; rw [← List.take_append_drop i cs]
    rw [List.map_append, List.sum_append]
    omega
  unfold offC
  omega
/-- counted rows of which the first n are marked. -/
def mCi (k n : Nat) (cs : List C2) : List C2 := cs.mapIdx fun i x => if i < n then ⟨mV (offC k cs i) x.r, ((offC k cs i + 3 * x.r.length : Nat) : Int)⟩ else x
theorem mCi_len (k n : Nat) (cs : List C2) : (mCi k n cs).length = cs.length := by simp [mCi]
theorem mCi_at {k n i : Nat} {cs : List C2} {x : C2} (h : cs[i]? = some x) : (mCi k n cs)[i]? = some (if i < n then ⟨mV (offC k cs i) x.r, ((offC k cs i + 3 * x.r.length : Nat) : Int)⟩ else x) := by
  simp [mCi, h]
theorem mCi_zero (k : Nat) (cs : List C2) : mCi k 0 cs = cs := by
  apply List.ext_getElem?
  intro i
  cases h : cs[i]? with
  | none => have := List.getElem?_eq_none_iff.1 h; rw [List.getElem?_eq_none (by rw [mCi_len]; exact this)]
  | some x => rw [mCi_at h, if_neg (by omega)]
def CLF (w : World) (b o : Nat) (cs : List C2) (G : List (List Nat)) : Prop :=
  ∀ i x g, cs[i]? = some x → G[i]? = some g → ∃ u, w.cell? ⟨b, o + i * 2, none⟩ = some u ∧ RowF w u x.r g ∧ w.cell? ⟨b, o + i * 2 + 1, none⟩ = some (.int .i64 x.n)
theorem disj_of {b : Nat} {G : List (List Nat)} (h : (b :: G.flatten).Nodup) {i j : Nat} {g g' : List Nat} (hi : G[i]? = some g) (hj : G[j]? = some g') (hne : i ≠ j) : ∀ y ∈ g, y ∉ g' := by
  have h2 := (List.nodup_cons.1 h).2
  rw [List.Nodup, List.pairwise_flatten] at h2
  have h3 := List.pairwise_iff_getElem.1 h2.2
  obtain ⟨hi', rfl⟩ := List.getElem?_eq_some_iff.1 hi
  obtain ⟨hj', rfl⟩ := List.getElem?_eq_some_iff.1 hj
  intro y hy hy'
  rcases Nat.lt_or_gt_of_ne hne with hlt | hlt
  · exact h3 i j hi' hj' hlt y hy y hy' rfl
  · exact h3 j i hj' hi' hlt y hy' y hy rfl
theorem head_out {b : Nat} {G : List (List Nat)} (h : (b :: G.flatten).Nodup) {i : Nat} {g : List Nat} (hi : G[i]? = some g) : b ∉ g := fun hb =>
  (List.nodup_cons.1 h).1 (List.mem_flatten.2 ⟨g, List.mem_of_getElem? hi, hb⟩)
theorem CLF.step {w w2 : World} {b o k n : Nat} {cs : List C2} {G : List (List Nat)} {x : C2} {g : List Nat} {u : Value} (h : CLF w b o (mCi k n cs) G) (hG : G.length = cs.length) (hnd : (b :: G.flatten).Nodup) (hb : b < w.heap.size) (hx : cs[n]? = some x) (hg : G[n]? = some g)
    (hu : w.cell? ⟨b, o + n * 2, none⟩ = some u) (hR : RowF w2 u (mV (offC k cs n) x.r) g) (hc : Chg g w w2) :
    CLF (w2.setCell ⟨b, o + n * 2 + 1, none⟩ (.int .i64 ((offC k cs n + 3 * x.r.length : Nat) : Int))) b o (mCi k (n + 1) cs) G := by
  have hbb : w2.heap[b]? = w.heap[b]? := hc.block b hb (head_out hnd hg)
  intro i y g' hy hg'
  have hi : i < cs.length := by have := (List.getElem?_eq_some_iff.1 hy).1; rwa [mCi_len] at this
  obtain ⟨z, hz⟩ : ∃ z, cs[i]? = some z := ⟨cs[i], by simp [hi]⟩
  rw [mCi_at hz] at hy
  have hy := (Option.some.inj hy).symm
  obtain ⟨u', a0, a1, a2⟩ := h i _ g' (mCi_at hz) hg'
  have hgb : b ∉ g' := head_out hnd hg'
  by_cases e : i = n
  · subst e
    obtain rfl : z = x := by rw [hx] at hz; exact (Option.some.inj hz).symm
    obtain rfl : g' = g := by rw [hg] at hg'; exact (Option.some.inj hg').symm
    obtain rfl : u' = u := by rw [hu] at a0; exact (Option.some.inj a0).symm
    rw [if_pos (by omega)] at hy
    subst hy
    refine ⟨u', ?_, hR.keep (by simp) (fun c hc => Below.heap_setCell _ _ _ _ (by rintro rfl; exact hgb hc)), ?_⟩
    · rw [World.cell?_setCell_other _ _ _ _ (by intro q; have := congrArg Addr.off q; simp at this)]
      exact (cell_blk hbb).trans hu
    · exact World.cell?_setCell_same _ _ _ ((cell_blk hbb).trans a2)
  · have ey : y = if i < n then ⟨mV (offC k cs i) z.r, ((offC k cs i + 3 * z.r.length : Nat) : Int)⟩ else z := by
      rw [hy]
      by_cases hin : i < n
      · rw [if_pos hin, if_pos (by omega)]
      · rw [if_neg hin, if_neg (by omega)]
    rw [← ey] at a1 a2
    have hd := disj_of hnd hg' hg e
    have k1 : RowF w2 u' y.r g' := a1.keep hc.size fun c hcg => hc.block c (a1.lt c hcg) (hd c hcg)
    refine ⟨u', ?_, k1.keep (by simp) (fun c hc => Below.heap_setCell _ _ _ _ (by rintro rfl; exact hgb hc)), ?_⟩
    · rw [World.cell?_setCell_other _ _ _ _ (by intro q; have := congrArg Addr.off q; simp at this; omega)]
      exact (cell_blk hbb).trans a0
    · rw [World.cell?_setCell_other _ _ _ _ (by intro q; have := congrArg Addr.off q; simp at this; omega)]
      exact (cell_blk hbb).trans a2
theorem RowsF.pick {w : World} {v : Value} {cs : List C2} {F : List Nat} (h : RowsF w v cs F) :
    ∃ a c b o G, v = .slice a cs.length c ∧ cs.length ≤ c ∧ c ≤ maxLen ∧ (a = none → c = 0) ∧ G.length = cs.length ∧ (cs = [] → F = []) ∧ CLF w b o cs G ∧ ∀ n, n < cs.length → a = some ⟨b, o, none⟩ ∧ b < w.heap.size ∧ F = b :: G.flatten := by
  obtain ⟨a, c, G, rfl, hl, hc, hz, hG, h0, h⟩ := h
  by_cases hne : cs = []
  · exact ⟨a, c, 0, 0, G, rfl, hl, hc, hz, hG, h0, fun i x g hx => by rw [hne] at hx; simp at hx, fun k hk => by rw [hne] at hk; simp at hk⟩
  · obtain ⟨b, o, rfl, hlt, hF, hL⟩ := h hne
    exact ⟨_, c, b, o, G, rfl, hl, hc, hz, hG, h0, hL, fun _ _ => ⟨rfl, hlt, hF⟩⟩
/-- counted rows that are marked from k on. -/
def mC (k : Nat) (cs : List C2) : List C2 := mCi k cs.length cs
set_option maxHeartbeats 2000000 in
set_option maxRecDepth 100000 in
theorem markCountedS_any (k : Nat) (v : Value) (cs : List C2) (F : List Nat) (w : World) (hr : RowsF w v cs F) (hnd : F.Nodup) (hf : Free w F) (h0 : 0 < k) (h1 : k + 3 * wtb cs ≤ 999999900) :
    Calls Try.prog 19 #[v, .int .i64 k] w fun e w' => e = .returned (.int .i64 ((offC k cs cs.length : Nat) : Int)) ∧ RowsF w' v (mC k cs) F ∧ Chg F w w' := by
  obtain ⟨a, c, b, o, G, rfl, hl, hc, hzz, hG, hF0, hC, ha⟩ := hr.pick
  have hlt0 := hr.lt
  have hcm := hc
  unfold maxLen at hc
  clear hr
  have hoff := offC_le k cs
  go_enter Try.func19, Try.ntmps19
  go_wp2
  go_loopw [1, 5] (fun kk i wr => ∃ n : Nat, n ≤ cs.length ∧ i = .int .i64 n ∧ kk = .int .i64 ((offC k cs n : Nat) : Int) ∧ CLF wr b o (mCi k n cs) G ∧ Chg F w wr) (fun _ i _ => cs.length - (intOf i).toNat)
  case atStart => exact ⟨0, Nat.zero_le _, rfl, by rw [offC_zero], by rw [mCi_zero]; exact hC, Chg.refl _ _⟩
  case round =>
    obtain ⟨n, hn, rfl, rfl, hH, hch⟩ := hrel
    by_cases hlt : n < cs.length
    · obtain ⟨rfl, hblt, rfl⟩ := ha n hlt
      have hzb := hch.size
      have hbr : b < wr.heap.size := by omega
      have hlt' : n < G.length := by omega
      obtain ⟨x, hx⟩ : ∃ x, cs[n]? = some x := ⟨cs[n], by simp [hlt]⟩
      obtain ⟨g, hg⟩ : ∃ g, G[n]? = some g := ⟨G[n], by simp [hlt']⟩
      obtain ⟨u, c0, hR, c1⟩ := hH n _ g (mCi_at hx) hg
      rw [if_neg (by omega)] at hR c1
      have hgF : ∀ y ∈ g, y ∈ b :: G.flatten := fun y hy => List.mem_cons_of_mem _ (List.mem_flatten.2 ⟨g, List.mem_of_getElem? hg, hy⟩)
      have hfr := hch.free hf
      have hfr0 : ∀ i, wr.frozen? ⟨b, i, none⟩ = false := hfr b (by simp)
      have hgf : Free wr g := fun y hy => hfr y (hgF y hy)
      have hs := offC_succ (k := k) hx
      have ho1 := hoff n
      have ho2 := hoff (n + 1)
      have HS : Hid (offC k cs (n + 1) = offC k cs n + (3 * x.r.length + 1)) := hs
      have hko : 0 < offC k cs n := by unfold offC; omega
      have hb1 : offC k cs n + 3 * x.r.length ≤ 999999990 := by omega
      have hkn := fun w2 => CLF.step (w2 := w2) hH hG hnd hbr hx hg c0
      generalize offC k cs n = t at *
      obtain ⟨au, cu, rfl, _, _⟩ := hR.is.shape'
      clear hs hoff ha hC hf
      go_wp2_with fail
      refine Calls.mono (markValueS_any t _ x.r g wr hR hgf hko hb1) ?_
      rintro e w2 ⟨rfl, hR2, hc2⟩
      have hz2 := hc2.size
      have hbb : w2.heap[b]? = wr.heap[b]? := hc2.block b hbr (head_out hnd hg)
      have q1 : w2.cell? ⟨b, o + n * 2 + 1, none⟩ = some (.int .i64 x.n) := (cell_blk hbb).trans c1
      have hfr2 : ∀ i, w2.frozen? ⟨b, i, none⟩ = false := fun i => (frozen_blk hbb).trans (hfr0 i)
      have hS2 := hkn w2 hR2 hc2
      have hch2 : Chg (b :: G.flatten) w w2 := hch.trans (hc2.wide hgF fun y hy _ => by have := hlt0 y hy; omega)
      clear hkn hc2 hR2 hch hfr hfr0 hgf c0 c1 hR hbb hH
      have e1 : ((t + 3 * x.r.length : Nat) : Int) = (t : Int) + 3 * (x.r.length : Int) := by omega
      rw [e1] at hS2
      clear e1
      go_wp2
      exact ⟨⟨n + 1, hlt, by simp, by rw [HS.out]; congr 1, hS2, hch2.setCell (p := ⟨b, _, none⟩) (by simp) _⟩, by simp [intOf]; omega⟩
    · go_wp2
      go_returns
      obtain rfl : n = cs.length := by omega
      refine ⟨rfl, ⟨a, c, G, by rw [mC, mCi_len], by rw [mC, mCi_len]; exact hl, hcm, hzz, by rw [mC, mCi_len]; exact hG, fun e => hF0 (by have := congrArg List.length e; rw [mC, mCi_len] at this; exact List.length_eq_zero_iff.1 this), fun hne => ?_⟩, hch⟩
      have hp : 0 < cs.length := by have := List.length_pos_iff.2 hne; rwa [mC, mCi_len] at this
      obtain ⟨e, hlt, hF⟩ := ha 0 hp
      exact ⟨b, o, e, by have := hch.size; omega, hF, hH⟩
set_option maxHeartbeats 2000000 in
set_option maxRecDepth 100000 in
theorem heldCountedS_any (k : Nat) (v : Value) (cs : List C2) (w : World) (hr : RowsIs w v (mC k cs)) (h0 : 0 < k) (h1 : k + 3 * wtb cs ≤ 999999900) :
    Calls Try.prog 20 #[v, .int .i64 k] w fun e w' => e = .returned (.int .i64 ((offC k cs cs.length : Nat) : Int)) ∧ Below w.heap.size w w' := by
  obtain ⟨a, c, b, o, rfl, hl, hc, ha⟩ := hr.pick
  have hln : (mC k cs).length = cs.length := mCi_len _ _ _
  rw [hln] at hl ha
  rw [hln]
  unfold maxLen at hc
  clear hr hln
  have hoff := offC_le k cs
  go_enter Try.func20, Try.ntmps20
  go_wp2
  go_loopw [1, 5] (fun kk i wr => ∃ n : Nat, n ≤ cs.length ∧ i = .int .i64 n ∧ kk = .int .i64 ((offC k cs n : Nat) : Int) ∧ Below w.heap.size w wr) (fun _ i _ => cs.length - (intOf i).toNat)
  case atStart => exact ⟨0, Nat.zero_le _, rfl, by rw [offC_zero], by go_grown⟩
  case round =>
    obtain ⟨n, hn, rfl, rfl, hb⟩ := hrel
    by_cases hlt : n < cs.length
    · obtain ⟨rfl, hblt, hL⟩ := ha n hlt
      have hzb := hb.size
      have hbr : b < wr.heap.size := by omega
      obtain ⟨x, hx⟩ : ∃ x, cs[n]? = some x := ⟨cs[n], by simp [hlt]⟩
      obtain ⟨u, c0, hR, c1⟩ := hL.below hb hblt n _ (mCi_at hx)
      rw [if_pos hlt] at hR c1
      have hs := offC_succ (k := k) hx
      have ho1 := hoff n
      have ho2 := hoff (n + 1)
      have HS : Hid (offC k cs (n + 1) = offC k cs n + (3 * x.r.length + 1)) := hs
      have hko : 0 < offC k cs n := by unfold offC; omega
      have hb1 : offC k cs n + 3 * x.r.length ≤ 999999990 := by omega
      generalize offC k cs n = t at *
      have e1 : ((t + 3 * x.r.length : Nat) : Int) = (t : Int) + 3 * (x.r.length : Int) := by omega
      obtain ⟨au, lu, cu, rfl⟩ := hR.shape
      clear hs hoff ha hL hx
      go_wp2_with fail
      refine Calls.mono (heldValueS_any t _ x.r wr hR hko hb1) ?_
      rintro e w2 ⟨rfl, hb2⟩
      have hz2 := hb2.size
      have q1 : w2.cell? ⟨b, o + n * 2 + 1, none⟩ = some (.int .i64 ((t + 3 * x.r.length : Nat) : Int)) := (hb2.cell (p := ⟨b, _, none⟩) hbr).trans c1
      rw [e1] at q1
      clear e1 c0 c1
      go_wp2
      exact ⟨⟨n + 1, hlt, by simp, by rw [HS.out]; congr 1, by repeat (first | (with_reducible exact Below.refl _ _) | (with_reducible refine Below.drew ?_) | (with_reducible refine Below.alloc ?_ ?hh _; case hh => first | (simp; done) | (simp; omega) | omega) | (with_reducible refine Below.setCell ?_ ?hh _; case hh => first | (simp; done) | (simp; omega) | omega) | refine bstep (by assumption) (by first | (simp; done) | (simp; omega) | omega) ?_)⟩, by simp [intOf]; omega⟩
    · go_wp2
      go_returns
      obtain rfl : n = cs.length := by omega
      exact ⟨rfl, hb⟩
set_option maxHeartbeats 1000000 in
set_option maxRecDepth 100000 in
theorem markBag_any (W : Int) (k : Nat) (v : Value) (cs : List C2) (F : List Nat) (w : World) (hr : RowsF w v cs F) (hnd : F.Nodup) (hf : Free w F) (h0 : 0 < k) (h1 : k + 3 * wtb cs ≤ 999999900) :
    Calls Try.prog 9 #[.agg #[.int .i64 W, v], .int .i64 k] w fun e w' => e = .returned (.int .i64 ((offC k cs cs.length : Nat) : Int)) ∧ RowsF w' v (mC k cs) F ∧ Chg F w w' := by
  have hlt := hr.lt
  obtain ⟨a, l, c, rfl⟩ := hr.is.shape
  go_enter Try.func9, Try.ntmps9
  have hb1 : Below w.heap.size w (w.alloc (.cells #[.int .i64 W, .slice a l c] 28)) := (Below.refl _ _).alloc (Nat.le_refl _) _
  have hc1 := Chg.of_below hb1 hlt
  go_wp2_with fail
  refine Calls.mono (markCountedS_any k (.slice a l c) cs F _ (hr.below hb1) hnd (hc1.free hf) h0 h1) ?_
  rintro e w2 ⟨rfl, hR2, hc2⟩
  have hch := hc1.trans hc2
  clear hc1 hc2 hb1 hf hr
  go_wp2
  go_returns
  exact ⟨rfl, hR2, hch⟩
set_option maxHeartbeats 1000000 in
set_option maxRecDepth 100000 in
theorem heldBag_any (W : Int) (k : Nat) (v : Value) (cs : List C2) (w : World) (hr : RowsIs w v (mC k cs)) (h0 : 0 < k) (h1 : k + 3 * wtb cs ≤ 999999900) :
    Calls Try.prog 10 #[.agg #[.int .i64 W, v], .int .i64 k] w fun e w' => e = .returned (.int .i64 ((offC k cs cs.length : Nat) : Int)) ∧ Below w.heap.size w w' := by
  obtain ⟨a, l, c, rfl⟩ := hr.shape
  have hoff := offC_le k cs cs.length
  go_enter Try.func10, Try.ntmps10
  go_wp2_with fail
  refine Calls.mono (heldCountedS_any k (.slice a l c) cs _ (hr.below ?hb) h0 h1) ?_
  case hb => repeat (first | (with_reducible exact Below.refl _ _) | (with_reducible refine Below.drew ?_) | (with_reducible refine Below.alloc ?_ ?hh _; case hh => first | (simp; done) | (simp; omega) | omega) | (with_reducible refine Below.setCell ?_ ?hh _; case hh => first | (simp; done) | (simp; omega) | omega) | refine bstep (by assumption) (by first | (simp; done) | (simp; omega) | omega) ?_)
  rintro e w2 ⟨rfl, hb2⟩
  have hz2 := hb2.size
  simp only [World.size_alloc] at hz2
  go_wp2
  go_returns
  exact ⟨rfl, by repeat (first | (with_reducible exact Below.refl _ _) | (with_reducible refine Below.drew ?_) | (with_reducible refine Below.alloc ?_ ?hh _; case hh => first | (simp; done) | (simp; omega) | omega) | (with_reducible refine Below.setCell ?_ ?hh _; case hh => first | (simp; done) | (simp; omega) | omega) | refine bstep (by assumption) (by first | (simp; done) | (simp; omega) | omega) ?_)⟩
end Go.Proofs.Ytobbfmcfibmicaa
