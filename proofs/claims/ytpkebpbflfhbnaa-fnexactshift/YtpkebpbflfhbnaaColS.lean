/- Own text. The contract of spec.ColsOf. -/
import Derived.Test.YtpkebpbflfhbnaaColA
import Derived.Handy
namespace Go.Proofs.Ytpkebpbflfhbnaa
open Go.RowKit Go.Deep Go.ChangeShapes Go.WideShapes
set_option linter.unusedVariables false
theorem take_snocC {α : Type} {l : List α} {k : Nat} {x : α} (h : l[k]? = some x) : l.take (k + 1) = l.take k ++ [x] := by
  obtain ⟨hk, rfl⟩ := List.getElem?_eq_some_iff.1 h
  exact List.take_succ_eq_append_getElem hk
/-- the columns of e and of its first k kids. -/
def accC (d : Nat) (e : E7) (k : Nat) : List Int := (e.ks.take k).foldl (fun acc k => (colsL d k).foldl addL acc) (if e.k = 0 then [e.n] else [])
theorem accC_zero (d : Nat) (e : E7) : accC d e 0 = if e.k = 0 then [e.n] else [] := by simp [accC]
theorem accC_all (d : Nat) (e : E7) : accC d e e.ks.length = colsL (d + 1) e := by rw [accC, List.take_length, colsL]
theorem accC_succ {d : Nat} {e : E7} {k : Nat} {x : E7} (h : e.ks[k]? = some x) : accC d e (k + 1) = (colsL d x).foldl addL (accC d e k) := by
  unfold accC
  rw [take_snocC h, List.foldl_append]
  rfl
theorem foldl_addL_len : ∀ (l acc : List Int), (l.foldl addL acc).length ≤ acc.length + l.length
  | [], acc => by simp
  | x :: l, acc => by
    have h1 := foldl_addL_len l (addL acc x)
    have h2 := addL_len acc x
    simp only [List.foldl_cons, List.length_cons]
    omega
theorem foldl_cols_len (f : E7 → List Int) (hf : ∀ k, (f k).length ≤ 1 + wtE k) : ∀ (ks : List E7) (acc : List Int), (ks.foldl (fun acc k => (f k).foldl addL acc) acc).length ≤ acc.length + (ks.length + wtEs ks)
  | [], acc => by simp
  | k :: ks, acc => by
    have h1 := foldl_cols_len f hf ks ((f k).foldl addL acc)
    have h2 := foldl_addL_len (f k) acc
    have h3 := hf k
    have h4 : wtEs (k :: ks) = wtE k + wtEs ks := by rw [← wtEs_sum, ← wtEs_sum]; simp
    simp only [List.foldl_cons, List.length_cons]
    omega
theorem colsL_len : ∀ (d : Nat) (e : E7), (colsL d e).length ≤ 1 + wtE e
  | 0, e => by simp [colsL]
  | d + 1, e => by
    rw [colsL]
    have h1 := foldl_cols_len (colsL d) (colsL_len d) e.ks (if e.k = 0 then [e.n] else [])
    have h2 : (if e.k = 0 then [e.n] else []).length ≤ 1 := by split <;> simp
    have h3 := wtE_eq e
    omega
theorem accC_len (d : Nat) (e : E7) (k : Nat) : (accC d e k).length ≤ 1 + wtE e := by
  unfold accC
  have h1 := foldl_cols_len (colsL d) (colsL_len d) (e.ks.take k) (if e.k = 0 then [e.n] else [])
  have h2 : (if e.k = 0 then [e.n] else []).length ≤ 1 := by split <;> simp
  have h3 := wtE_eq e
  have h4 : (e.ks.take k).length + wtEs (e.ks.take k) ≤ e.ks.length + wtEs e.ks := by
    have : wtEs e.ks = wtEs (e.ks.take k) + wtEs (e.ks.drop k) := by rw [← wtEs_app, List.take_append_drop]
    simp
    omega
  omega
/-- ColsOf of an expression whose kids are at most d deep. -/
def ClS (d : Nat) : Prop := ∀ (e : E7) (u : Value) (F : List Nat) (w : World), KidsIs w d u e.ks F → wtE e ≤ 1048576 →
    Calls Try.prog 8 #[(.agg #[.int .i64 e.k, .int .i64 e.n, .int .i64 e.v.k, .int .i64 e.v.n, .string e.v.s, .string e.p, u])] w fun x w' => (∃ v, x = .returned v ∧ IntsI w' v (colsL d e)) ∧ Below w.heap.size w w'
set_option maxHeartbeats 4000000 in
set_option maxRecDepth 100000 in
theorem specCols_step {d : Nat} (ih : ClS d) : ClS (d + 1) := by
  intro e u F w hk hn
  have ih : ∀ (e : E7) (u : Value) (F : List Nat) (w : World), KidsIs w d u e.ks F → wtE e ≤ 1048576 →
    Calls Try.prog 8 #[(.agg #[.int .i64 e.k, .int .i64 e.n, .int .i64 e.v.k, .int .i64 e.v.n, .string e.v.s, .string e.p, u])] w fun x w' => (∃ v, x = .returned v ∧ IntsI w' v (colsL d e)) ∧ Below w.heap.size w w' := ih
  obtain ⟨a, c, b, o, G0, rfl, hl, hc, hG0, _, ha⟩ := hk.pick
  unfold maxLen at hc
  have hwe := wtE_eq e
  clear hk
  by_cases hk0 : e.k = 0
  · have HA : Hid (accC d e 0 = [e.n]) := by show _ = _; rw [accC_zero, if_pos hk0]
    have hkb : (e.k == 0) = true := by simpa using hk0
    have hkd : decide (e.k = 0) = true := by simpa using hk0
    clear hk0
    go_enter Try.func8, Try.ntmps8
    go_wp2_with fail
    refine Calls.mono (l03Add_any (.slice (some ⟨w.heap.size + 1, 0, none⟩) 0 0) [] e.n _ ⟨w.heap.size + 1, 0, 0, rfl, Nat.le_refl _, by simp, by simp, fun i n h => by simp at h⟩ (by simp)) ?_
    rintro q W ⟨⟨v0, rfl, hI0⟩, hbW0⟩
    have hW0 := hbW0.size
    have hbx0 : W.cell? ⟨w.heap.size, 6, none⟩ = some (.slice a e.ks.length c) := cell_later hbW0 (by go_simp)
    have hbW : Below w.heap.size w W := by repeat (first | (with_reducible exact Below.refl _ _) | (with_reducible refine Below.drew ?_) | (with_reducible refine Below.alloc ?_ ?hh _; case hh => first | (simp; done) | (simp; omega) | omega) | (with_reducible refine Below.setCell ?_ ?hh _; case hh => first | (simp; done) | (simp; omega) | omega) | refine bstep (by assumption) (by first | (simp; done) | (simp; omega) | omega) ?_)
    rw [show addL [] e.n = [e.n] from rfl] at hI0
    obtain ⟨yb, yo, yc, e0, _⟩ := id hI0
    subst e0
    clear hbW0
    go_wp2
    go_loopw [3, 4] (fun y i wr => ∃ (k : Nat) (yb yo yc : Nat), k ≤ e.ks.length ∧ i = .int .i64 k ∧ y = .slice (some ⟨yb, yo, none⟩) (accC d e k).length yc ∧ IntsI wr (.slice (some ⟨yb, yo, none⟩) (accC d e k).length yc) (accC d e k) ∧ wr.cell? ⟨w.heap.size, 6, none⟩ = some (.slice a e.ks.length c) ∧ Below w.heap.size w wr ∧ w.heap.size < wr.heap.size) (fun _ i _ => e.ks.length - (intOf i).toNat)
    case atStart => exact ⟨0, yb, yo, yc, Nat.zero_le _, rfl, by first | (rw [HA.out]; done) | (rw [HA.out]; rfl) | (rw [HA.out]; simp), by rw [HA.out]; exact hI0, hbx0, hbW, by simp at hW0 ⊢; omega⟩
    case round =>
      obtain ⟨k, yb, yo, yc, hk, rfl, rfl, hI, hbx, hb, hz⟩ := hrel
      have hzb := hb.size
      by_cases hlt : k < e.ks.length
      · obtain ⟨rfl, hblt, _, hL⟩ := ha k hlt
        obtain ⟨x, g0, u0, hx, _, hxw, ⟨c0, c1, c2, c3, c4, c5⟩, c6, hKx, hbr⟩ := hL.at hG0 hblt hb hlt
        obtain ⟨a0, n0, rfl, _, _⟩ := hKx.shape
        have hxm := List.mem_of_getElem? hx
        have hxn : wtE x ≤ 1048576 := by have := wtE_mem hxm; omega
        have hAk := accC_len d e k
        have hXl := colsL_len d x
        have HK : Hid (accC d e (k + 1) = (colsL d x).foldl addL (accC d e k)) := accC_succ hx
        clear hL hx HA hI0 hbW hW0
        go_wp2_with fail
        refine Calls.mono (ih x (.slice a0 x.ks.length n0) g0 wr hKx hxn) ?_
        rintro q w1 ⟨⟨v1, rfl, hI1⟩, hb1⟩
        have hz1 := hb1.size
        have hbw1 : Below w.heap.size w w1 := hb.trans (hb1.mono hzb)
        have hIy := hI.below hb1
        have hbx1 := ((bcell hb1).1 _ _ hz).trans hbx
        have hz1w : w.heap.size < w1.heap.size := by omega
        obtain ⟨mb, mo, mc, rfl, hml, hmc, hmlt, hmcell⟩ := hI1
        unfold maxLen at hmc
        generalize accC d e k = ac at *
        generalize colsL d x = xl at *
        clear hI hbx hb1 hb c0 c1 c2 c3 c4 c5 c6 hKx
        go_wp2
        go_loopw [3, 6] (fun y j wr' => ∃ (m : Nat) (yb yo yc : Nat), m ≤ xl.length ∧ j = .int .i64 m ∧ y = .slice (some ⟨yb, yo, none⟩) ((xl.take m).foldl addL ac).length yc ∧ IntsI wr' (.slice (some ⟨yb, yo, none⟩) ((xl.take m).foldl addL ac).length yc) ((xl.take m).foldl addL ac) ∧ Below w1.heap.size w1 wr') (fun _ j _ => xl.length - (intOf j).toNat)
        case atStart => exact ⟨0, yb, yo, yc, Nat.zero_le _, rfl, by simp, by simpa using hIy, Below.refl _ _⟩
        case round =>
          obtain ⟨m, yb, yo, yc, hm, rfl, rfl, hIm, hbm⟩ := hrel
          have hzm := hbm.size
          by_cases hml2 : m < xl.length
          · obtain ⟨z, hz0⟩ : ∃ z, xl[m]? = some z := ⟨xl[m], by simp [hml2]⟩
            have cz := ((bcell hbm).1 _ _ hmlt).trans (hmcell m z hz0)
            have HF : Hid ((xl.take (m + 1)).foldl addL ac = addL ((xl.take m).foldl addL ac) z) := by
              show _ = _
              rw [take_snocC hz0, List.foldl_append]; rfl
            have hfl := foldl_addL_len (xl.take m) ac
            have hfl2 : (xl.take m).length ≤ m := by simp; omega
            generalize (xl.take m).foldl addL ac = af at *
            clear hmcell hIy hz0
            go_wp2_with fail
            refine Calls.mono (l03Add_any (.slice (some ⟨yb, yo, none⟩) af.length yc) af z _ hIm (by omega)) ?_
            rintro q w2 ⟨⟨v2, rfl, hI2⟩, hb2⟩
            have hI2' := hI2
            rw [← HF.out] at hI2'
            obtain ⟨b2, o2, k2, e2, _⟩ := id hI2'
            subst e2
            have hbm2 : Below w1.heap.size w1 w2 := hbm.trans (hb2.mono hzm)
            clear hI2 hb2 hIm
            go_wp2
            exact ⟨⟨m + 1, b2, o2, k2, hml2, by simp, rfl, hI2', hbm2⟩, by simp [intOf]; omega⟩
          · obtain rfl : m = xl.length := by omega
            rw [List.take_length] at hIm
            have hbx2 := ((bcell hbm).1 _ _ hz1w).trans hbx1
            have hbw2 : Below w.heap.size w wr := hbw1.trans (hbm.mono (by omega))
            have hz2w : w.heap.size < wr.heap.size := by omega
            clear hmcell hIy hbm
            simp only [List.take_length]
            go_wp2
            exact ⟨⟨k + 1, yb, yo, yc, hlt, by simp, by rw [HK.out], by rw [HK.out]; exact hIm, hbx2, hbw2, hz2w⟩, by simp [intOf]; omega⟩
      · obtain rfl : k = e.ks.length := by omega
        have HC : Hid (IntsI wr (.slice (some ⟨yb, yo, none⟩) (accC d e e.ks.length).length yc) (colsL (d + 1) e)) := by
          have := hI
          rw [show colsL (d + 1) e = accC d e e.ks.length from (accC_all d e).symm]
          exact hI
        clear hI HA hI0 hbW hW0
        go_wp2
        refine bodyPost_ret (v := .slice (some ⟨yb, yo, none⟩) (accC d e e.ks.length).length yc) (by simp [results, Try.results8, go_sem]) rfl ⟨⟨_, rfl, HC.out⟩, hb⟩
  · have HA : Hid (accC d e 0 = []) := by show _ = _; rw [accC_zero, if_neg hk0]
    have hkb : (e.k == 0) = false := by simpa using hk0
    have hkd : decide (e.k = 0) = false := by simpa using hk0
    clear hk0
    have hI0 : IntsI ((w.alloc (.cells #[.int .i64 e.k, .int .i64 e.n, .int .i64 e.v.k, .int .i64 e.v.n, .string e.v.s, .string e.p, .slice a e.ks.length c] 33)).alloc (.cells #[] 3)) (.slice (some ⟨w.heap.size + 1, 0, none⟩) 0 0) [] := ⟨w.heap.size + 1, 0, 0, rfl, Nat.le_refl _, by simp, by simp, fun i n h => by simp at h⟩
    have hbW : Below w.heap.size w ((w.alloc (.cells #[.int .i64 e.k, .int .i64 e.n, .int .i64 e.v.k, .int .i64 e.v.n, .string e.v.s, .string e.p, .slice a e.ks.length c] 33)).alloc (.cells #[] 3)) := by repeat (first | (with_reducible exact Below.refl _ _) | (with_reducible refine Below.drew ?_) | (with_reducible refine Below.alloc ?_ ?hh _; case hh => first | (simp; done) | (simp; omega) | omega) | (with_reducible refine Below.setCell ?_ ?hh _; case hh => first | (simp; done) | (simp; omega) | omega) | refine bstep (by assumption) (by first | (simp; done) | (simp; omega) | omega) ?_)
    have hW0 : w.heap.size + 1 + 1 ≤ ((w.alloc (.cells #[.int .i64 e.k, .int .i64 e.n, .int .i64 e.v.k, .int .i64 e.v.n, .string e.v.s, .string e.p, .slice a e.ks.length c] 33)).alloc (.cells #[] 3)).heap.size := by simp
    obtain ⟨yb, hyb⟩ : ∃ yb, yb = w.heap.size + 1 := ⟨_, rfl⟩
    obtain ⟨yo, hyo⟩ : ∃ yo, yo = 0 := ⟨_, rfl⟩
    obtain ⟨yc, hyc⟩ : ∃ yc, yc = 0 := ⟨_, rfl⟩
    go_enter Try.func8, Try.ntmps8
    go_wp2
    go_loopw [3, 4] (fun y i wr => ∃ (k : Nat) (yb yo yc : Nat), k ≤ e.ks.length ∧ i = .int .i64 k ∧ y = .slice (some ⟨yb, yo, none⟩) (accC d e k).length yc ∧ IntsI wr (.slice (some ⟨yb, yo, none⟩) (accC d e k).length yc) (accC d e k) ∧ wr.cell? ⟨w.heap.size, 6, none⟩ = some (.slice a e.ks.length c) ∧ Below w.heap.size w wr ∧ w.heap.size < wr.heap.size) (fun _ i _ => e.ks.length - (intOf i).toNat)
    case atStart => exact ⟨0, w.heap.size + 1, 0, 0, Nat.zero_le _, rfl, by rw [HA.out]; rfl, by rw [HA.out]; exact hI0, by go_simp, hbW, by simp; omega⟩
    case round =>
      obtain ⟨k, yb, yo, yc, hk, rfl, rfl, hI, hbx, hb, hz⟩ := hrel
      have hzb := hb.size
      by_cases hlt : k < e.ks.length
      · obtain ⟨rfl, hblt, _, hL⟩ := ha k hlt
        obtain ⟨x, g0, u0, hx, _, hxw, ⟨c0, c1, c2, c3, c4, c5⟩, c6, hKx, hbr⟩ := hL.at hG0 hblt hb hlt
        obtain ⟨a0, n0, rfl, _, _⟩ := hKx.shape
        have hxm := List.mem_of_getElem? hx
        have hxn : wtE x ≤ 1048576 := by have := wtE_mem hxm; omega
        have hAk := accC_len d e k
        have hXl := colsL_len d x
        have HK : Hid (accC d e (k + 1) = (colsL d x).foldl addL (accC d e k)) := accC_succ hx
        clear hL hx HA hI0 hbW hW0 hyb hyo hyc
        go_wp2_with fail
        refine Calls.mono (ih x (.slice a0 x.ks.length n0) g0 wr hKx hxn) ?_
        rintro q w1 ⟨⟨v1, rfl, hI1⟩, hb1⟩
        have hz1 := hb1.size
        have hbw1 : Below w.heap.size w w1 := hb.trans (hb1.mono hzb)
        have hIy := hI.below hb1
        have hbx1 := ((bcell hb1).1 _ _ hz).trans hbx
        have hz1w : w.heap.size < w1.heap.size := by omega
        obtain ⟨mb, mo, mc, rfl, hml, hmc, hmlt, hmcell⟩ := hI1
        unfold maxLen at hmc
        generalize accC d e k = ac at *
        generalize colsL d x = xl at *
        clear hI hbx hb1 hb c0 c1 c2 c3 c4 c5 c6 hKx
        go_wp2
        go_loopw [3, 6] (fun y j wr' => ∃ (m : Nat) (yb yo yc : Nat), m ≤ xl.length ∧ j = .int .i64 m ∧ y = .slice (some ⟨yb, yo, none⟩) ((xl.take m).foldl addL ac).length yc ∧ IntsI wr' (.slice (some ⟨yb, yo, none⟩) ((xl.take m).foldl addL ac).length yc) ((xl.take m).foldl addL ac) ∧ Below w1.heap.size w1 wr') (fun _ j _ => xl.length - (intOf j).toNat)
        case atStart => exact ⟨0, yb, yo, yc, Nat.zero_le _, rfl, by simp, by simpa using hIy, Below.refl _ _⟩
        case round =>
          obtain ⟨m, yb, yo, yc, hm, rfl, rfl, hIm, hbm⟩ := hrel
          have hzm := hbm.size
          by_cases hml2 : m < xl.length
          · obtain ⟨z, hz0⟩ : ∃ z, xl[m]? = some z := ⟨xl[m], by simp [hml2]⟩
            have cz := ((bcell hbm).1 _ _ hmlt).trans (hmcell m z hz0)
            have HF : Hid ((xl.take (m + 1)).foldl addL ac = addL ((xl.take m).foldl addL ac) z) := by
              show _ = _
              rw [take_snocC hz0, List.foldl_append]; rfl
            have hfl := foldl_addL_len (xl.take m) ac
            have hfl2 : (xl.take m).length ≤ m := by simp; omega
            generalize (xl.take m).foldl addL ac = af at *
            clear hmcell hIy hz0
            go_wp2_with fail
            refine Calls.mono (l03Add_any (.slice (some ⟨yb, yo, none⟩) af.length yc) af z _ hIm (by omega)) ?_
            rintro q w2 ⟨⟨v2, rfl, hI2⟩, hb2⟩
            have hI2' := hI2
            rw [← HF.out] at hI2'
            obtain ⟨b2, o2, k2, e2, _⟩ := id hI2'
            subst e2
            have hbm2 : Below w1.heap.size w1 w2 := hbm.trans (hb2.mono hzm)
            clear hI2 hb2 hIm
            go_wp2
            exact ⟨⟨m + 1, b2, o2, k2, hml2, by simp, rfl, hI2', hbm2⟩, by simp [intOf]; omega⟩
          · obtain rfl : m = xl.length := by omega
            rw [List.take_length] at hIm
            have hbx2 := ((bcell hbm).1 _ _ hz1w).trans hbx1
            have hbw2 : Below w.heap.size w wr := hbw1.trans (hbm.mono (by omega))
            have hz2w : w.heap.size < wr.heap.size := by omega
            clear hmcell hIy hbm
            simp only [List.take_length]
            go_wp2
            exact ⟨⟨k + 1, yb, yo, yc, hlt, by simp, by rw [HK.out], by rw [HK.out]; exact hIm, hbx2, hbw2, hz2w⟩, by simp [intOf]; omega⟩
      · obtain rfl : k = e.ks.length := by omega
        have HC : Hid (IntsI wr (.slice (some ⟨yb, yo, none⟩) (accC d e e.ks.length).length yc) (colsL (d + 1) e)) := by
          have := hI
          rw [show colsL (d + 1) e = accC d e e.ks.length from (accC_all d e).symm]
          exact hI
        clear hI HA hI0 hbW hW0
        go_wp2
        refine bodyPost_ret (v := .slice (some ⟨yb, yo, none⟩) (accC d e e.ks.length).length yc) (by simp [results, Try.results8, go_sem]) rfl ⟨⟨_, rfl, HC.out⟩, hb⟩
theorem specCols_any : ∀ d, ClS d
  | 0 => fun e u F w h => h.elim
  | d + 1 => specCols_step (specCols_any d)
end Go.Proofs.Ytpkebpbflfhbnaa
