/- Own text. When two expressions are the same (sameD); the contract of spec.SameExp. -/
import Derived.Test.YtflnkfjjjacjbaaToE
import Derived.Test.YtflnkfjjjacjbaaNeV
import Derived.Handy
import Derived.Deep.RegionHeld3
namespace Go.Proofs.Ytflnkfjjjacjbaa
open Go.RowKit
set_option linter.unusedVariables false
/-- whether the tops of two expressions are the same, and have as many kids. -/
def topB (a b : E7) : Bool := a.k == b.k && (a.n == b.n && (sameV a.v b.v && (a.p.toList == b.p.toList && a.ks.length == b.ks.length)))
/-- whether two expressions are the same, down to depth d. -/
def sameD : Nat → E7 → E7 → Bool
  | 0, _, _ => true
  | d + 1, a, b => topB a b && (a.ks.zip b.ks).all fun p => sameD d p.1 p.2
def sameL (d : Nat) (xs ys : List E7) : Bool := (xs.zip ys).all fun p => sameD d p.1 p.2
theorem sameD_eq (d : Nat) (a b : E7) : sameD (d + 1) a b = (topB a b && sameL d a.ks b.ks) := rfl
theorem sameL_step {d : Nat} {xs ys : List E7} {k : Nat} {x y : E7} (hx : xs[k]? = some x) (hy : ys[k]? = some y) : sameL d (xs.drop k) (ys.drop k) = (sameD d x y && sameL d (xs.drop (k + 1)) (ys.drop (k + 1))) := by
  obtain ⟨h1, rfl⟩ := List.getElem?_eq_some_iff.1 hx
  obtain ⟨h2, rfl⟩ := List.getElem?_eq_some_iff.1 hy
  rw [List.drop_eq_getElem_cons h1, List.drop_eq_getElem_cons h2]
  unfold sameL
  rw [List.zip_cons_cons, List.all_cons]
theorem topB_no1 {e f : E7} (h : (e.k != f.k) = true) : topB e f = false := by
  unfold topB
  rw [show (e.k == f.k) = false from by simp at h ⊢; exact h, Bool.false_and]
theorem topB_no2 {e f : E7} (h : (e.n != f.n) = true) : topB e f = false := by
  unfold topB
  rw [show (e.n == f.n) = false from by simpa using h, Bool.false_and, Bool.and_false]
theorem topB_no3 {e f : E7} (h : (!(e.v.k == f.v.k && (e.v.n == f.v.n && e.v.s.toList == f.v.s.toList))) = true) : topB e f = false := by
  unfold topB
  rw [show sameV e.v f.v = false from by unfold sameV; exact (Bool.not_eq_true' _).mp h, Bool.false_and, Bool.and_false, Bool.and_false]
theorem topB_no4 {e f : E7} (h : (!(e.p.toList == f.p.toList)) = true) : topB e f = false := by
  unfold topB
  rw [show (e.p.toList == f.p.toList) = false from by simpa using h, Bool.false_and, Bool.and_false, Bool.and_false, Bool.and_false]
theorem topB_no5 {e f : E7} (h : ((e.ks.length : Int) != (f.ks.length : Int)) = true) : topB e f = false := by
  unfold topB
  rw [show (e.ks.length == f.ks.length) = false from by simp at h ⊢; omega, Bool.and_false, Bool.and_false, Bool.and_false, Bool.and_false]
theorem topB_yes {e f : E7} (h1 : (e.k != f.k) = false) (h2 : (e.n != f.n) = false) (h3 : (!(e.v.k == f.v.k && (e.v.n == f.v.n && e.v.s.toList == f.v.s.toList))) = false) (h4 : (!(e.p.toList == f.p.toList)) = false) (h5 : ((e.ks.length : Int) != (f.ks.length : Int)) = false) : topB e f = true := by
  unfold topB
  rw [show (e.k == f.k) = true from by simpa using h1, show (e.n == f.n) = true from by simpa using h2, show sameV e.v f.v = true from by unfold sameV; simpa using h3, show (e.p.toList == f.p.toList) = true from by simpa using h4, show (e.ks.length == f.ks.length) = true from by simp at h5 ⊢; omega]
  rfl
/-- spec.SameExp at two expressions whose kids are at most d deep. -/
def SmS (d : Nat) : Prop := ∀ (e f : E7) (v u : Value) (F F' : List Nat) (w : World), KidsIs w d v e.ks F → KidsIs w d u f.ks F' →
    Calls Try.prog 12 #[(.agg #[.int .i64 e.k, .int .i64 e.n, .int .i64 e.v.k, .int .i64 e.v.n, .string e.v.s, .string e.p, v]), (.agg #[.int .i64 f.k, .int .i64 f.n, .int .i64 f.v.k, .int .i64 f.v.n, .string f.v.s, .string f.p, u])] w fun x w' => x = .returned (.bool (sameD d e f)) ∧ Below w.heap.size w w'
set_option maxHeartbeats 4000000 in
set_option maxRecDepth 100000 in
theorem sameS_step {d : Nat} (hS : SmS d) : SmS (d + 1) := by
  intro e f v u F F' w hv hu
  obtain ⟨a, c, b, o, G, rfl, hl, hc, hG, _, ha⟩ := hv.pick
  obtain ⟨a', c', b', o', G', rfl, hl', hc', hG', _, ha'⟩ := hu.pick
  unfold maxLen at hc hc'
  have hq := neV
  rw [sameD_eq]
  by_cases h1 : (e.k != f.k) = true
  · have ht : Hid (topB e f = false) := topB_no1 h1
    clear ha ha' hv hu
    go_enter Try.func12, Try.ntmps12
    go_wp2_with fail
    go_returns
    exact ⟨ret_bool (by rw [ht.out]; rfl), by repeat (first | (with_reducible exact Below.refl _ _) | (with_reducible refine Below.drew ?_) | (with_reducible refine Below.alloc ?_ ?hh _; case hh => first | (simp; done) | (simp; omega) | omega) | (with_reducible refine Below.setCell ?_ ?hh _; case hh => first | (simp; done) | (simp; omega) | omega) | refine bstep (by assumption) (by first | (simp; done) | (simp; omega) | omega) ?_)⟩
  replace h1 : (e.k != f.k) = false := by simpa using h1
  by_cases h2 : (e.n != f.n) = true
  · have ht : Hid (topB e f = false) := topB_no2 h2
    clear ha ha' hv hu
    go_enter Try.func12, Try.ntmps12
    go_wp2_with fail
    go_returns
    exact ⟨ret_bool (by rw [ht.out]; rfl), by repeat (first | (with_reducible exact Below.refl _ _) | (with_reducible refine Below.drew ?_) | (with_reducible refine Below.alloc ?_ ?hh _; case hh => first | (simp; done) | (simp; omega) | omega) | (with_reducible refine Below.setCell ?_ ?hh _; case hh => first | (simp; done) | (simp; omega) | omega) | refine bstep (by assumption) (by first | (simp; done) | (simp; omega) | omega) ?_)⟩
  replace h2 : (e.n != f.n) = false := by simpa using h2
  by_cases h3 : (!(e.v.k == f.v.k && (e.v.n == f.v.n && e.v.s.toList == f.v.s.toList))) = true
  · have ht : Hid (topB e f = false) := topB_no3 h3
    clear ha ha' hv hu
    go_enter Try.func12, Try.ntmps12
    go_wp2_with fail
    go_returns
    exact ⟨ret_bool (by rw [ht.out]; rfl), by repeat (first | (with_reducible exact Below.refl _ _) | (with_reducible refine Below.drew ?_) | (with_reducible refine Below.alloc ?_ ?hh _; case hh => first | (simp; done) | (simp; omega) | omega) | (with_reducible refine Below.setCell ?_ ?hh _; case hh => first | (simp; done) | (simp; omega) | omega) | refine bstep (by assumption) (by first | (simp; done) | (simp; omega) | omega) ?_)⟩
  replace h3 : (!(e.v.k == f.v.k && (e.v.n == f.v.n && e.v.s.toList == f.v.s.toList))) = false := by simpa using h3
  by_cases h4 : (!(e.p.toList == f.p.toList)) = true
  · have ht : Hid (topB e f = false) := topB_no4 h4
    clear ha ha' hv hu
    go_enter Try.func12, Try.ntmps12
    go_wp2_with fail
    go_returns
    exact ⟨ret_bool (by rw [ht.out]; rfl), by repeat (first | (with_reducible exact Below.refl _ _) | (with_reducible refine Below.drew ?_) | (with_reducible refine Below.alloc ?_ ?hh _; case hh => first | (simp; done) | (simp; omega) | omega) | (with_reducible refine Below.setCell ?_ ?hh _; case hh => first | (simp; done) | (simp; omega) | omega) | refine bstep (by assumption) (by first | (simp; done) | (simp; omega) | omega) ?_)⟩
  replace h4 : (!(e.p.toList == f.p.toList)) = false := by simpa using h4
  by_cases h5 : ((e.ks.length : Int) != (f.ks.length : Int)) = true
  · have ht : Hid (topB e f = false) := topB_no5 h5
    clear ha ha' hv hu
    go_enter Try.func12, Try.ntmps12
    go_wp2_with fail
    go_returns
    exact ⟨ret_bool (by rw [ht.out]; rfl), by repeat (first | (with_reducible exact Below.refl _ _) | (with_reducible refine Below.drew ?_) | (with_reducible refine Below.alloc ?_ ?hh _; case hh => first | (simp; done) | (simp; omega) | omega) | (with_reducible refine Below.setCell ?_ ?hh _; case hh => first | (simp; done) | (simp; omega) | omega) | refine bstep (by assumption) (by first | (simp; done) | (simp; omega) | omega) ?_)⟩
  replace h5 : ((e.ks.length : Int) != (f.ks.length : Int)) = false := by simpa using h5
  have ht : Hid (topB e f = true) := topB_yes h1 h2 h3 h4 h5
  rw [ht.out, Bool.true_and]
  have HL : Hid (e.ks.length = f.ks.length) := by have := h5; simp at this; show e.ks.length = f.ks.length; omega
  go_enter Try.func12, Try.ntmps12
  go_wp2_with fail
  go_loopw [5] (fun i wr => ∃ k : Nat, k ≤ e.ks.length ∧ i = .int .i64 k ∧ Below w.heap.size w wr ∧ w.heap.size + 1 < wr.heap.size ∧ wr.cell? ⟨w.heap.size, 6, none⟩ = some (.slice a e.ks.length c) ∧ wr.cell? ⟨w.heap.size + 1, 6, none⟩ = some (.slice a' f.ks.length c') ∧ sameL d e.ks f.ks = sameL d (e.ks.drop k) (f.ks.drop k)) (fun i _ => e.ks.length - (intOf i).toNat)
  case atStart => exact ⟨0, Nat.zero_le _, rfl, by repeat (first | (with_reducible exact Below.refl _ _) | (with_reducible refine Below.drew ?_) | (with_reducible refine Below.alloc ?_ ?hh _; case hh => first | (simp; done) | (simp; omega) | omega) | (with_reducible refine Below.setCell ?_ ?hh _; case hh => first | (simp; done) | (simp; omega) | omega) | refine bstep (by assumption) (by first | (simp; done) | (simp; omega) | omega) ?_), by simp, by go_simp, by go_simp, by simp⟩
  case round =>
    obtain ⟨k, hk, rfl, hb, hsz, p0, p1, heq⟩ := hrel
    have HE : Hid (sameL d e.ks f.ks = sameL d (e.ks.drop k) (f.ks.drop k)) := heq
    have hzb := hb.size
    clear heq h1 h2 h3 h4 h5 hq
    by_cases hlt : k < e.ks.length
    · have hlt' : k < f.ks.length := by have := HL.out; omega
      obtain ⟨rfl, hblt, _, hL⟩ := ha k hlt
      obtain ⟨rfl, hblt', _, hL'⟩ := ha' k hlt'
      obtain ⟨x, g, vx, hx, _, _, ⟨c0, c1, c2, c3, c4, c5⟩, c6, hK, hbr⟩ := hL.at hG hblt hb hlt
      obtain ⟨y, g', vy, hy, _, _, ⟨d0, d1, d2, d3, d4, d5⟩, d6, hK', hbr'⟩ := hL'.at hG' hblt' hb hlt'
      have HS : Hid (sameL d (e.ks.drop k) (f.ks.drop k) = (sameD d x y && sameL d (e.ks.drop (k + 1)) (f.ks.drop (k + 1)))) := sameL_step hx hy
      have hltI : (k : Int) < f.ks.length := by omega
      clear ha ha' hL hL' hx hy hv hu
      by_cases hsm : sameD d x y = true
      · have HB : Hid (sameD d x y = true) := hsm
        go_wp2_with fail
        go_region_with (first | (go_at_call 12; refine (hS x y vx vy _ _ _ (hK.below (by repeat (first | (with_reducible exact Below.refl _ _) | (with_reducible refine Below.drew ?_) | (with_reducible refine Below.alloc ?_ ?hh _; case hh => first | (simp; done) | (simp; omega) | omega) | (with_reducible refine Below.setCell ?_ ?hh _; case hh => first | (simp; done) | (simp; omega) | omega) | refine bstep (by assumption) (by first | (simp; done) | (simp; omega) | omega) ?_))) (hK'.below (by repeat (first | (with_reducible exact Below.refl _ _) | (with_reducible refine Below.drew ?_) | (with_reducible refine Below.alloc ?_ ?hh _; case hh => first | (simp; done) | (simp; omega) | omega) | (with_reducible refine Below.setCell ?_ ?hh _; case hh => first | (simp; done) | (simp; omega) | omega) | refine bstep (by assumption) (by first | (simp; done) | (simp; omega) | omega) ?_)))).mono ?_; rintro z w1 ⟨rfl, hb1⟩; have hz1 := hb1.size; (try simp at hz1); have q0 : w1.cell? ⟨w.heap.size, 6, none⟩ = some (.slice (some ⟨b, o, none⟩) e.ks.length c) := cell_later hb1 (by go_simp); have q1 : w1.cell? ⟨w.heap.size + 1, 6, none⟩ = some (.slice (some ⟨b', o', none⟩) f.ks.length c') := cell_later hb1 (by go_simp)))
        all_goals (go_wp2; exact ⟨⟨k + 1, hlt, by simp, by repeat (first | (with_reducible exact Below.refl _ _) | (with_reducible refine Below.drew ?_) | (with_reducible refine Below.alloc ?_ ?hh _; case hh => first | (simp; done) | (simp; omega) | omega) | (with_reducible refine Below.setCell ?_ ?hh _; case hh => first | (simp; done) | (simp; omega) | omega) | refine bstep (by assumption) (by first | (simp; done) | (simp; omega) | omega) ?_), by (first | omega | (simp; omega)), by assumption, by assumption, by rw [HE.out, HS.out, HB.out, Bool.true_and]⟩, by simp [intOf]; omega⟩)
      · replace hsm : sameD d x y = false := by simpa using hsm
        have HB : Hid (sameD d x y = false) := hsm
        go_wp2_with fail
        go_region_with (first | (go_at_call 12; refine (hS x y vx vy _ _ _ (hK.below (by repeat (first | (with_reducible exact Below.refl _ _) | (with_reducible refine Below.drew ?_) | (with_reducible refine Below.alloc ?_ ?hh _; case hh => first | (simp; done) | (simp; omega) | omega) | (with_reducible refine Below.setCell ?_ ?hh _; case hh => first | (simp; done) | (simp; omega) | omega) | refine bstep (by assumption) (by first | (simp; done) | (simp; omega) | omega) ?_))) (hK'.below (by repeat (first | (with_reducible exact Below.refl _ _) | (with_reducible refine Below.drew ?_) | (with_reducible refine Below.alloc ?_ ?hh _; case hh => first | (simp; done) | (simp; omega) | omega) | (with_reducible refine Below.setCell ?_ ?hh _; case hh => first | (simp; done) | (simp; omega) | omega) | refine bstep (by assumption) (by first | (simp; done) | (simp; omega) | omega) ?_)))).mono ?_; rintro z w1 ⟨rfl, hb1⟩; have hz1 := hb1.size; (try simp at hz1); have q0 : w1.cell? ⟨w.heap.size, 6, none⟩ = some (.slice (some ⟨b, o, none⟩) e.ks.length c) := cell_later hb1 (by go_simp); have q1 : w1.cell? ⟨w.heap.size + 1, 6, none⟩ = some (.slice (some ⟨b', o', none⟩) f.ks.length c') := cell_later hb1 (by go_simp)))
        all_goals go_wp2
        all_goals go_returns
        all_goals exact ⟨ret_bool (by rw [HE.out, HS.out, HB.out, Bool.false_and]), by repeat (first | (with_reducible exact Below.refl _ _) | (with_reducible refine Below.drew ?_) | (with_reducible refine Below.alloc ?_ ?hh _; case hh => first | (simp; done) | (simp; omega) | omega) | (with_reducible refine Below.setCell ?_ ?hh _; case hh => first | (simp; done) | (simp; omega) | omega) | refine bstep (by assumption) (by first | (simp; done) | (simp; omega) | omega) ?_)⟩
    · clear ha ha' hv hu
      go_wp2_with fail
      go_returns
      exact ⟨ret_bool (by rw [HE.out, List.drop_eq_nil_of_le (by omega)]; rfl), hb⟩
theorem sameS_any : ∀ d, SmS d
  | 0 => fun _ _ _ _ _ _ _ h => h.elim
  | d + 1 => sameS_step (sameS_any d)
end Go.Proofs.Ytflnkfjjjacjbaa
