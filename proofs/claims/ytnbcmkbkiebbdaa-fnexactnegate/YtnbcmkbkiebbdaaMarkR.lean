/- Own text. The contracts of markRelS and heldRelS: relations that are written over with marks, and that have them still. -/
import Derived.Test.YtnbcmkbkiebbdaaMarkB
import Derived.Test.YtnbcmkbkiebbdaaRelF
import Derived.Handy
namespace Go.Proofs.Ytnbcmkbkiebbdaa
open Go.RowKit Go.Deep
set_option linter.unusedVariables false
/-- how many marks counted rows take. -/
def sC (cs : List C2) : Nat := (cs.map fun x => 3 * x.r.length + 1).sum
theorem offC_all (k : Nat) (cs : List C2) : offC k cs cs.length = k + sC cs := by unfold offC sC; rw [List.take_length]
theorem sC_le (cs : List C2) : sC cs ≤ 3 * wtb cs := sum_le cs
/-- the mark that relation i begins with. -/
def offR (k : Nat) (rs : List R3) (i : Nat) : Nat := k + ((rs.take i).map fun x => 2 + sC x.cs).sum
theorem offR_zero (k : Nat) (rs : List R3) : offR k rs 0 = k := by simp [offR]
theorem offR_succ {k i : Nat} {rs : List R3} {x : R3} (h : rs[i]? = some x) : offR k rs (i + 1) = offR k rs i + (2 + sC x.cs) := by
  obtain ⟨hk, rfl⟩ := List.getElem?_eq_some_iff.1 h
  unfold offR
  rw [List.take_succ_eq_append_getElem hk, List.map_append, List.sum_append]
  simp only [List.map_cons, List.map_nil, List.sum_cons, List.sum_nil]
  omega
theorem sumR_le (l : List R3) : (l.map fun x => 2 + sC x.cs).sum ≤ 3 * wtR l := by
  unfold wtR wtrs
  induction l with
  | nil => simp
  | cons x xs ih =>
    simp only [List.map_cons, List.sum_cons, List.length_cons] at ih ⊢
    have := sC_le x.cs
    unfold wtr at ih ⊢
    omega
theorem offR_le (k : Nat) (rs : List R3) : ∀ i, offR k rs i ≤ k + 3 * wtR rs := by
  intro i
  have h1 := sumR_le rs
  have h2 : ((rs.take i).map fun x => 2 + sC x.cs).sum ≤ (rs.map fun x => 2 + sC x.cs).sum := by
    conv => rhs; rw [← List.take_append_drop i rs]
    rw [List.map_append, List.sum_append]
    omega
  unfold offR
  omega
/-- relations of which the first n are marked. -/
def mRi (k n : Nat) (rs : List R3) : List R3 := rs.mapIdx fun i x => if i < n then ⟨mt ((offR k rs i : Nat) : Int), ((offR k rs i : Nat) : Int) + 1, mC (offR k rs i + 2) x.cs⟩ else x
theorem mRi_len (k n : Nat) (rs : List R3) : (mRi k n rs).length = rs.length := by simp [mRi]
theorem mRi_at {k n i : Nat} {rs : List R3} {x : R3} (h : rs[i]? = some x) : (mRi k n rs)[i]? = some (if i < n then ⟨mt ((offR k rs i : Nat) : Int), ((offR k rs i : Nat) : Int) + 1, mC (offR k rs i + 2) x.cs⟩ else x) := by
  simp [mRi, h]
theorem mRi_zero (k : Nat) (rs : List R3) : mRi k 0 rs = rs := by
  apply List.ext_getElem?
  intro i
  cases h : rs[i]? with
  | none => have := List.getElem?_eq_none_iff.1 h; rw [List.getElem?_eq_none (by rw [mRi_len]; exact this)]
  | some x => rw [mRi_at h, if_neg (by omega)]
theorem RLF.step {w w1 w3 : World} {b o k n : Nat} {rs : List R3} {G : List (List Nat)} {x : R3} {g : List Nat} {u : Value} (h : RLF w b o (mRi k n rs) G) (hnd : (b :: G.flatten).Nodup) (hb : b < w.heap.size) (hx : rs[n]? = some x) (hg : G[n]? = some g)
    (hu : w.cell? ⟨b, o + n * 3 + 2, none⟩ = some u) (h1 : Below w.heap.size w w1)
    (hR : RowsF w3 u (mC (offR k rs n + 2) x.cs) g) (hc : Chg g ((w1.setCell ⟨b, o + n * 3, none⟩ (.string (mt ((offR k rs n : Nat) : Int)))).setCell ⟨b, o + n * 3 + 1, none⟩ (.int .i64 (((offR k rs n : Nat) : Int) + 1))) w3) :
    RLF w3 b o (mRi k (n + 1) rs) G := by
  have hb1 : b < w1.heap.size := Nat.lt_of_lt_of_le hb h1.size
  have hcell : ∀ q, w3.cell? ⟨b, q, none⟩ = ((w1.setCell ⟨b, o + n * 3, none⟩ (.string (mt ((offR k rs n : Nat) : Int)))).setCell ⟨b, o + n * 3 + 1, none⟩ (.int .i64 (((offR k rs n : Nat) : Int) + 1))).cell? ⟨b, q, none⟩ := fun q => cell_blk (hc.block b (by simpa using hb1) (head_out hnd hg))
  have hw1 : ∀ q, w1.cell? ⟨b, q, none⟩ = w.cell? ⟨b, q, none⟩ := fun q => cell_blk (h1.block b hb)
  have hs13 : w.heap.size ≤ w3.heap.size := Nat.le_trans h1.size (by have := hc.size; simpa using this)
  have hblk : ∀ c, c < w.heap.size → c ≠ b → c ∉ g → w3.heap[c]? = w.heap[c]? := fun c hcw hcb hcg => by
    rw [hc.block c (by have := h1.size; simp; omega) hcg, Below.heap_setCell _ _ _ _ hcb, Below.heap_setCell _ _ _ _ hcb]
    exact h1.block c hcw
  intro i y g' hy hg'
  have hi : i < rs.length := by have := (List.getElem?_eq_some_iff.1 hy).1; rwa [mRi_len] at this
  obtain ⟨z, hz⟩ : ∃ z, rs[i]? = some z := ⟨rs[i], by simp [hi]⟩
  rw [mRi_at hz] at hy
  have hy := (Option.some.inj hy).symm
  obtain ⟨u', a0, a1, a2, a3⟩ := h i _ g' (mRi_at hz) hg'
  have hgb : b ∉ g' := head_out hnd hg'
  rw [hcell, hcell, hcell]
  by_cases e : i = n
  · subst e
    obtain rfl : z = x := by rw [hx] at hz; exact (Option.some.inj hz).symm
    obtain rfl : g' = g := by rw [hg] at hg'; exact (Option.some.inj hg').symm
    obtain rfl : u' = u := by rw [hu] at a2; exact (Option.some.inj a2).symm
    rw [if_pos (by omega)] at hy
    subst hy
    refine ⟨u', ?_, ?_, ?_, hR⟩
    · rw [World.cell?_setCell_other _ _ _ _ (by intro q; have := congrArg Addr.off q; simp at this)]
      exact World.cell?_setCell_same _ _ _ ((hw1 _).trans a0)
    · exact World.cell?_setCell_same _ _ _ ((World.cell?_setCell_other _ _ _ _ (by intro q; have := congrArg Addr.off q; simp at this)).trans ((hw1 _).trans a1))
    · rw [World.cell?_setCell_other _ _ _ _ (by intro q; have := congrArg Addr.off q; simp at this), World.cell?_setCell_other _ _ _ _ (by intro q; have := congrArg Addr.off q; simp at this)]
      exact (hw1 _).trans a2
  · have ey : y = if i < n then ⟨mt ((offR k rs i : Nat) : Int), ((offR k rs i : Nat) : Int) + 1, mC (offR k rs i + 2) z.cs⟩ else z := by
      rw [hy]
      by_cases hin : i < n
      · rw [if_pos hin, if_pos (by omega)]
      · rw [if_neg hin, if_neg (by omega)]
    rw [← ey] at a0 a1 a3
    have hd := disj_of hnd hg' hg e
    have far : ∀ p q : Nat, p < 3 → q < 3 → o + i * 3 + p ≠ o + n * 3 + q := by intro p q hp hq; omega
    refine ⟨u', ?_, ?_, ?_, a3.keep hs13 fun c hcg => hblk c (a3.lt c hcg) (by rintro rfl; exact hgb hcg) (hd c hcg)⟩
    · rw [World.cell?_setCell_other _ _ _ _ (by intro q; have := congrArg Addr.off q; simp at this; omega), World.cell?_setCell_other _ _ _ _ (by intro q; have := congrArg Addr.off q; simp at this; omega)]
      exact (hw1 _).trans a0
    · rw [World.cell?_setCell_other _ _ _ _ (by intro q; have := congrArg Addr.off q; simp at this; omega), World.cell?_setCell_other _ _ _ _ (by intro q; have := congrArg Addr.off q; simp at this; omega)]
      exact (hw1 _).trans a1
    · rw [World.cell?_setCell_other _ _ _ _ (by intro q; have := congrArg Addr.off q; simp at this; omega), World.cell?_setCell_other _ _ _ _ (by intro q; have := congrArg Addr.off q; simp at this; omega)]
      exact (hw1 _).trans a2
/-- relations that are marked from k on. -/
def mR (k : Nat) (rs : List R3) : List R3 := mRi k rs.length rs
set_option maxHeartbeats 2000000 in
set_option maxRecDepth 100000 in
theorem markRelS_any (k : Nat) (v : Value) (rs : List R3) (F : List Nat) (w : World) (hr : RelsF w v rs F) (hnd : F.Nodup) (hf : Free w F) (h0 : 0 < k) (h1 : k + 6 * wtR rs ≤ 999999800) :
    Calls Try.prog 63 #[v, .int .i64 k] w fun e w' => e = .returned (.int .i64 ((offR k rs rs.length : Nat) : Int)) ∧ RelsF w' v (mR k rs) F ∧ Chg F w w' := by
  obtain ⟨a, c, b, o, G, rfl, hl, hc, hzz, hG, hF0, hC, ha⟩ := hr.pick
  have hlt0 := hr.lt
  have hcm := hc
  unfold maxLen at hc
  clear hr
  have hoff := offR_le k rs
  go_enter Try.func63, Try.ntmps63
  go_wp2
  go_loopw [1, 5] (fun kk i wr => ∃ n : Nat, n ≤ rs.length ∧ i = .int .i64 n ∧ kk = .int .i64 ((offR k rs n : Nat) : Int) ∧ RLF wr b o (mRi k n rs) G ∧ Chg F w wr) (fun _ i _ => rs.length - (intOf i).toNat)
  case atStart => exact ⟨0, Nat.zero_le _, rfl, by rw [offR_zero], by rw [mRi_zero]; exact hC, Chg.refl _ _⟩
  case round =>
    obtain ⟨n, hn, rfl, rfl, hH, hch⟩ := hrel
    by_cases hlt : n < rs.length
    · obtain ⟨rfl, hblt, rfl⟩ := ha n hlt
      have hzb := hch.size
      have hbr : b < wr.heap.size := by omega
      have hlt' : n < G.length := by omega
      obtain ⟨x, hx⟩ : ∃ x, rs[n]? = some x := ⟨rs[n], by simp [hlt]⟩
      obtain ⟨g, hg⟩ : ∃ g, G[n]? = some g := ⟨G[n], by simp [hlt']⟩
      obtain ⟨u, c0, c1, c2, hR⟩ := hH n _ g (mRi_at hx) hg
      rw [if_neg (by omega)] at hR c0 c1
      have hgF : ∀ y ∈ g, y ∈ b :: G.flatten := fun y hy => List.mem_cons_of_mem _ (List.mem_flatten.2 ⟨g, List.mem_of_getElem? hg, hy⟩)
      have hgb : b ∉ g := head_out hnd hg
      have hgnd : g.Nodup := by
        have h2 := (List.nodup_cons.1 hnd).2
        rw [List.Nodup, List.pairwise_flatten] at h2
        exact h2.1 g (List.mem_of_getElem? hg)
      have hfr := hch.free hf
      have hfr0 : ∀ i, wr.frozen? ⟨b, i, none⟩ = false := hfr b (by simp)
      have hgf : Free wr g := fun y hy => hfr y (hgF y hy)
      have hs := offR_succ (k := k) hx
      have ho1 := hoff n
      have ho2 := hoff (n + 1)
      have HS : Hid (offR k rs (n + 1) = offR k rs n + 2 + sC x.cs) := by show _ = _; omega
      have hko : 0 < offR k rs n := by unfold offR; omega
      have hxw : wtb x.cs ≤ wtR rs := by have := wtr_mem (List.mem_of_getElem? hx); unfold wtr at this; unfold wtR; omega
      have hM := fun w => markText_any (offR k rs n) w (by omega) (by omega)
      have hkn := fun w1 w3 => RLF.step (w1 := w1) (w3 := w3) hH hnd hbr hx hg c2
      have hMC := fun v w' => markCountedS_any (offR k rs n + 2) v x.cs g w'
      have hT : offR k rs n + 2 + 3 * wtb x.cs ≤ 999999900 := by omega
      generalize offR k rs n = t at *
      have e2 : ((t + 2 : Nat) : Int) = (t : Int) + 1 + 1 := by omega
      simp only [e2] at hMC
      clear e2
      have hRs := hR.is.shape
      obtain ⟨au, lu, cu, rfl⟩ := hRs
      clear hs hoff ha hC hf
      go_wp2_with fail
      refine Calls.mono (hM _) ?_
      rintro e w1 ⟨rfl, hb1⟩
      have hz1 := hb1.size
      (try simp only [World.size_alloc] at hz1)
      have hbb : w1.heap[b]? = wr.heap[b]? := hb1.block b hbr
      have q0 : w1.cell? ⟨b, o + n * 3, none⟩ = some (.string x.s) := (cell_blk hbb).trans c0
      have q1 : w1.cell? ⟨b, o + n * 3 + 1, none⟩ = some (.int .i64 x.W) := (cell_blk hbb).trans c1
      have q2 : w1.cell? ⟨b, o + n * 3 + 2, none⟩ = some (.slice au lu cu) := (cell_blk hbb).trans c2
      have hfr1 : ∀ i, w1.frozen? ⟨b, i, none⟩ = false := fun i => (frozen_blk hbb).trans (hfr0 i)
      have hbr1 : b < w1.heap.size := by omega
      have hR1 : RowsF ((w1.setCell ⟨b, o + n * 3, none⟩ (.string (mt (t : Int)))).setCell ⟨b, o + n * 3 + 1, none⟩ (.int .i64 ((t : Int) + 1))) (.slice au lu cu) x.cs g :=
        (hR.below hb1).keep (by simp) fun c hc => by rw [Below.heap_setCell _ _ _ _ (by rintro rfl; exact hgb hc), Below.heap_setCell _ _ _ _ (by rintro rfl; exact hgb hc)]
      have hf1 : Free ((w1.setCell ⟨b, o + n * 3, none⟩ (.string (mt (t : Int)))).setCell ⟨b, o + n * 3 + 1, none⟩ (.int .i64 ((t : Int) + 1))) g := fun y hy i => by
        simp only [World.frozen?_setCell]
        exact (frozen_blk (hb1.block y (hR.lt y hy))).trans (hgf y hy i)
      have hkn1 := fun w3 => hkn w1 w3 hb1
      have hch1 : Chg (b :: G.flatten) w ((w1.setCell ⟨b, o + n * 3, none⟩ (.string (mt (t : Int)))).setCell ⟨b, o + n * 3 + 1, none⟩ (.int .i64 ((t : Int) + 1))) :=
        ((hch.trans (Chg.of_below hb1 fun y hy => by have := hlt0 y hy; omega)).setCell (p := ⟨b, _, none⟩) (by simp) _).setCell (p := ⟨b, _, none⟩) (by simp) _
      have hsz1 : ((w1.setCell ⟨b, o + n * 3, none⟩ (.string (mt (t : Int)))).setCell ⟨b, o + n * 3 + 1, none⟩ (.int .i64 ((t : Int) + 1))).heap.size = w1.heap.size := by simp
      clear hkn hb1 hR hH hM hch hfr hfr0 hgf c0 c1 c2 hbb
      go_wp2_with fail
      refine Calls.mono (hMC _ _ hR1 hgnd hf1 (by omega) hT) ?_
      rintro e w3 ⟨rfl, hR3, hc3⟩
      have hS3 := hkn1 w3 hR3 hc3
      have hch3 : Chg (b :: G.flatten) w w3 := hch1.trans (hc3.wide hgF fun y hy _ => by have := hlt0 y hy; rw [hsz1]; omega)
      have e3 : offC (t + 2) x.cs x.cs.length = t + 2 + sC x.cs := offC_all _ _
      rw [e3]
      clear e3 hc3 hR3 hkn1 hR1 hf1 hch1 hMC hsz1
      go_wp2
      exact ⟨⟨n + 1, hlt, by simp, by rw [HS.out]; first | (congr 1; done) | (congr 1; omega), hS3, hch3⟩, by simp [intOf]; omega⟩
    · go_wp2
      go_returns
      obtain rfl : n = rs.length := by omega
      refine ⟨rfl, ⟨a, c, G, by rw [mR, mRi_len], by rw [mR, mRi_len]; exact hl, hcm, hzz, by rw [mR, mRi_len]; exact hG, fun e => hF0 (by have := congrArg List.length e; rw [mR, mRi_len] at this; exact List.length_eq_zero_iff.1 this), fun hne => ?_⟩, hch⟩
      have hp : 0 < rs.length := by have := List.length_pos_iff.2 hne; rwa [mR, mRi_len] at this
      obtain ⟨e, hlt, hF⟩ := ha 0 hp
      exact ⟨b, o, e, by have := hch.size; omega, hF, hH⟩
set_option maxHeartbeats 2000000 in
set_option maxRecDepth 100000 in
theorem heldRelS_any (k : Nat) (v : Value) (rs : List R3) (w : World) (hr : RelsIs w v (mR k rs)) (h0 : 0 < k) (h1 : k + 6 * wtR rs ≤ 999999800) :
    Calls Try.prog 64 #[v, .int .i64 k] w fun e w' => e = .returned (.int .i64 ((offR k rs rs.length : Nat) : Int)) ∧ Below w.heap.size w w' := by
  obtain ⟨a, c, b, o, rfl, hl, hc, ha⟩ := hr.pick
  have hln : (mR k rs).length = rs.length := mRi_len _ _ _
  rw [hln] at hl ha
  rw [hln]
  unfold maxLen at hc
  clear hr hln
  have hoff := offR_le k rs
  go_enter Try.func64, Try.ntmps64
  go_wp2
  go_loopw [1, 5] (fun kk i wr => ∃ n : Nat, n ≤ rs.length ∧ i = .int .i64 n ∧ kk = .int .i64 ((offR k rs n : Nat) : Int) ∧ Below w.heap.size w wr) (fun _ i _ => rs.length - (intOf i).toNat)
  case atStart => exact ⟨0, Nat.zero_le _, rfl, by rw [offR_zero], by go_grown⟩
  case round =>
    obtain ⟨n, hn, rfl, rfl, hb⟩ := hrel
    by_cases hlt : n < rs.length
    · obtain ⟨rfl, hblt, hL⟩ := ha n hlt
      have hzb := hb.size
      have hbr : b < wr.heap.size := by omega
      obtain ⟨x, hx⟩ : ∃ x, rs[n]? = some x := ⟨rs[n], by simp [hlt]⟩
      obtain ⟨u, c0, c1, c2, hR⟩ := hL.below hb hblt n _ (mRi_at hx)
      rw [if_pos hlt] at hR c0 c1
      have hs := offR_succ (k := k) hx
      have ho1 := hoff n
      have ho2 := hoff (n + 1)
      have HS : Hid (offR k rs (n + 1) = offR k rs n + 2 + sC x.cs) := by show _ = _; omega
      have hko : 0 < offR k rs n := by unfold offR; omega
      have hxw : wtb x.cs ≤ wtR rs := by have := wtr_mem (List.mem_of_getElem? hx); unfold wtr at this; unfold wtR; omega
      have hM := fun w => markText_any (offR k rs n) w (by omega) (by omega)
      have hMC := fun v w' => heldCountedS_any (offR k rs n + 2) v x.cs w'
      have hT : offR k rs n + 2 + 3 * wtb x.cs ≤ 999999900 := by omega
      generalize offR k rs n = t at *
      have e2 : ((t + 2 : Nat) : Int) = (t : Int) + 1 + 1 := by omega
      simp only [e2] at hMC
      clear e2
      obtain ⟨au, lu, cu, rfl⟩ := hR.shape
      dsimp only at c0 c1 hR
      clear hs hoff ha hL hx
      go_wp2_with fail
      go_region_with (first | (go_at_call 99; refine (hM _).mono ?_; rintro x w2 ⟨rfl, hb2⟩; have hz2 := hb2.size; (try simp at hz2); have p0 : w2.cell? ⟨b, o + n * 3, none⟩ = some (.string (mt (t : Int))) := cell_later hb2 (by go_simp); have p1 : w2.cell? ⟨b, o + n * 3 + 1, none⟩ = some (.int .i64 ((t : Int) + 1)) := cell_later hb2 (by go_simp); have p2 : w2.cell? ⟨b, o + n * 3 + 2, none⟩ = some (.slice au lu cu) := cell_later hb2 (by go_simp)))
      all_goals go_wp2_with fail
      all_goals refine Calls.mono (hMC _ _ (hR.below (by repeat (first | (with_reducible exact Below.refl _ _) | (with_reducible refine Below.drew ?_) | (with_reducible refine Below.alloc ?_ ?hh _; case hh => first | (simp; done) | (simp; omega) | omega) | (with_reducible refine Below.setCell ?_ ?hh _; case hh => first | (simp; done) | (simp; omega) | omega) | refine bstep (by assumption) (by first | (simp; done) | (simp; omega) | omega) ?_))) (by omega) hT) ?_
      all_goals rintro e w3 ⟨rfl, hb3⟩
      all_goals rw [offC_all]
      all_goals have hz3 := hb3.size
      all_goals go_wp2
      all_goals exact ⟨⟨n + 1, hlt, by simp, by rw [HS.out]; first | (congr 1; done) | (congr 1; omega), by repeat (first | (with_reducible exact Below.refl _ _) | (with_reducible refine Below.drew ?_) | (with_reducible refine Below.alloc ?_ ?hh _; case hh => first | (simp; done) | (simp; omega) | omega) | (with_reducible refine Below.setCell ?_ ?hh _; case hh => first | (simp; done) | (simp; omega) | omega) | refine bstep (by assumption) (by first | (simp; done) | (simp; omega) | omega) ?_)⟩, by simp [intOf]; omega⟩
    · go_wp2
      go_returns
      obtain rfl : n = rs.length := by omega
      exact ⟨rfl, hb⟩
end Go.Proofs.Ytnbcmkbkiebbdaa
