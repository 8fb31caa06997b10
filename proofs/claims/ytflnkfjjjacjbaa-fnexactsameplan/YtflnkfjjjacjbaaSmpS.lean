/- Own text. When two plans are the same (sameQ); the contract of spec.SamePlan. -/
import Derived.Test.YtflnkfjjjacjbaaToP
import Derived.Test.YtflnkfjjjacjbaaSameS
import Derived.Handy
import Derived.Deep.RegionHeld3
namespace Go.Proofs.Ytflnkfjjjacjbaa
open Go.RowKit
set_option linter.unusedVariables false
/-- whether the tops of two plans are the same, and have as many kids. -/
def topP (D : Nat) (p q : P12) : Bool := p.k == q.k && (p.s.toList == q.s.toList && (p.n == q.n && (p.ks.length == q.ks.length && (sameD D p.e q.e && (p.es.length == q.es.length && sameL (D - 1) p.es q.es)))))
/-- whether two plans are the same, down to depth d. -/
def sameQ (D : Nat) : Nat → P12 → P12 → Bool
  | 0, _, _ => true
  | d + 1, p, q => topP D p q && (p.ks.zip q.ks).all fun x => sameQ D d x.1 x.2
def sameR (D d : Nat) (xs ys : List P12) : Bool := (xs.zip ys).all fun x => sameQ D d x.1 x.2
theorem sameQ_eq (D d : Nat) (p q : P12) : sameQ D (d + 1) p q = (topP D p q && sameR D d p.ks q.ks) := rfl
theorem sameR_step {D d : Nat} {xs ys : List P12} {k : Nat} {x y : P12} (hx : xs[k]? = some x) (hy : ys[k]? = some y) : sameR D d (xs.drop k) (ys.drop k) = (sameQ D d x y && sameR D d (xs.drop (k + 1)) (ys.drop (k + 1))) := by
  obtain ⟨h1, rfl⟩ := List.getElem?_eq_some_iff.1 hx
  obtain ⟨h2, rfl⟩ := List.getElem?_eq_some_iff.1 hy
  rw [List.drop_eq_getElem_cons h1, List.drop_eq_getElem_cons h2]
  unfold sameR
  rw [List.zip_cons_cons, List.all_cons]
theorem topP_no1 {D : Nat} {p q : P12} (h : (p.k != q.k) = true) : topP D p q = false := by
  unfold topP
  rw [show (p.k == q.k) = false from by simp at h ⊢; exact h, Bool.false_and]
theorem topP_no2 {D : Nat} {p q : P12} (h : (!(p.s.toList == q.s.toList)) = true) : topP D p q = false := by
  unfold topP
  rw [(Bool.not_eq_true' _).mp h, Bool.false_and, Bool.and_false]
theorem topP_no3 {D : Nat} {p q : P12} (h : sameD D p.e q.e = false) : topP D p q = false := by
  unfold topP
  rw [h, Bool.false_and, Bool.and_false, Bool.and_false, Bool.and_false, Bool.and_false]
theorem topP_no4 {D : Nat} {p q : P12} (h : ((p.es.length : Int) != (q.es.length : Int)) = true) : topP D p q = false := by
  unfold topP
  rw [show (p.es.length == q.es.length) = false from by simp at h ⊢; omega, Bool.false_and, Bool.and_false, Bool.and_false, Bool.and_false, Bool.and_false, Bool.and_false]
theorem topP_no5 {D : Nat} {p q : P12} (h : (p.n != q.n) = true) : topP D p q = false := by
  unfold topP
  rw [show (p.n == q.n) = false from by simp at h ⊢; exact h, Bool.false_and, Bool.and_false, Bool.and_false]
theorem topP_no6 {D : Nat} {p q : P12} (h : ((p.ks.length : Int) != (q.ks.length : Int)) = true) : topP D p q = false := by
  unfold topP
  rw [show (p.ks.length == q.ks.length) = false from by simp at h ⊢; omega, Bool.false_and, Bool.and_false, Bool.and_false, Bool.and_false]
theorem topP_yes {D : Nat} {p q : P12} (h1 : (p.k != q.k) = false) (h2 : (!(p.s.toList == q.s.toList)) = false) (h3 : sameD D p.e q.e = true) (h4 : ((p.es.length : Int) != (q.es.length : Int)) = false) (h5 : (p.n != q.n) = false) (h6 : ((p.ks.length : Int) != (q.ks.length : Int)) = false) : topP D p q = sameL (D - 1) p.es q.es := by
  unfold topP
  rw [show (p.k == q.k) = true from by simpa using h1, show (p.s.toList == q.s.toList) = true from by simpa using h2, h3, show (p.es.length == q.es.length) = true from by simp at h4 ⊢; omega, show (p.n == q.n) = true from by simpa using h5, show (p.ks.length == q.ks.length) = true from by simp at h6 ⊢; omega]
  simp
/-- spec.SamePlan at two plans whose kids are at most d deep. -/
def SmP (D d : Nat) : Prop := ∀ (p q : P12) (ue us u ue' us' u' : Value) (g g' : List Nat) (w : World), ListsP w D (PlansIs w D d) p ue us u g → ListsP w D (PlansIs w D d) q ue' us' u' g' →
    Calls Try.prog 5 #[(.agg #[.int .i64 p.k, .string p.s, .int .i64 p.e.k, .int .i64 p.e.n, .int .i64 p.e.v.k, .int .i64 p.e.v.n, .string p.e.v.s, .string p.e.p, ue, us, .int .i64 p.n, u]), (.agg #[.int .i64 q.k, .string q.s, .int .i64 q.e.k, .int .i64 q.e.n, .int .i64 q.e.v.k, .int .i64 q.e.v.n, .string q.e.v.s, .string q.e.p, ue', us', .int .i64 q.n, u'])] w fun x w' => x = .returned (.bool (sameQ D d p q)) ∧ Below w.heap.size w w'
set_option maxHeartbeats 8000000 in
set_option maxRecDepth 100000 in
theorem smpS_step {D d : Nat} (hS : SmP (D + 1) d) : SmP (D + 1) (d + 1) := by
  intro p q ue us u ue' us' u' g g' w hL hM
  obtain ⟨ae, ce, ak, ck, a, c, rfl, rfl, rfl, _, _, _, _, _, _⟩ := hL.shape
  obtain ⟨ae', ce', ak', ck', a', c', rfl, rfl, rfl, _, _, _, _, _, _⟩ := hM.shape
  obtain ⟨Fe, Fs, h, rfl, ke, kes, kp⟩ := hL
  obtain ⟨Fe', Fs', h', rfl, ke', kes', kp'⟩ := hM
  obtain ⟨a_, c_, bs, os, Gs, es_, hls, hcs, hGs, _, has⟩ := kes.pick
  cases es_
  obtain ⟨a_, c_, bs', os', Gs', es_, hls', hcs', hGs', _, has'⟩ := kes'.pick
  cases es_
  obtain ⟨a_, c_, bk, ok, Gk, es_, hlk, hck, hGk, _, hak⟩ := kp.pick
  cases es_
  obtain ⟨a_, c_, bk', ok', Gk', es_, hlk', hck', hGk', _, hak'⟩ := kp'.pick
  cases es_
  unfold maxLen at hcs hcs' hck hck'
  rw [sameQ_eq]
  by_cases h1 : (p.k != q.k) = true
  · have ht : Hid (topP (D + 1) p q = false) := topP_no1 h1
    clear has has' hak hak' kes kes' kp kp'
    go_enter Try.func5, Try.ntmps5
    go_wp2_with (first | (go_at_call 12; refine (sameS_any (D + 1) p.e q.e _ _ Fe Fe' _ (ke.below (by repeat (first | (with_reducible exact Below.refl _ _) | (with_reducible refine Below.drew ?_) | (with_reducible refine Below.alloc ?_ ?hh _; case hh => first | (simp; done) | (simp; omega) | omega) | (with_reducible refine Below.setCell ?_ ?hh _; case hh => first | (simp; done) | (simp; omega) | omega) | refine bstep (by assumption) (by first | (simp; done) | (simp; omega) | omega) ?_))) (ke'.below (by repeat (first | (with_reducible exact Below.refl _ _) | (with_reducible refine Below.drew ?_) | (with_reducible refine Below.alloc ?_ ?hh _; case hh => first | (simp; done) | (simp; omega) | omega) | (with_reducible refine Below.setCell ?_ ?hh _; case hh => first | (simp; done) | (simp; omega) | omega) | refine bstep (by assumption) (by first | (simp; done) | (simp; omega) | omega) ?_)))).mono ?_; rintro z w1 ⟨rfl, hb1⟩; have hz1 := hb1.size; (try simp at hz1); have s9 : w1.cell? ⟨w.heap.size, 9, none⟩ = some (.slice ak p.es.length ck) := cell_later hb1 (by go_simp); have s10 : w1.cell? ⟨w.heap.size, 10, none⟩ = some (.int .i64 p.n) := cell_later hb1 (by go_simp); have s11 : w1.cell? ⟨w.heap.size, 11, none⟩ = some (.slice a p.ks.length c) := cell_later hb1 (by go_simp); have t9 : w1.cell? ⟨w.heap.size + 1, 9, none⟩ = some (.slice ak' q.es.length ck') := cell_later hb1 (by go_simp); have t10 : w1.cell? ⟨w.heap.size + 1, 10, none⟩ = some (.int .i64 q.n) := cell_later hb1 (by go_simp); have t11 : w1.cell? ⟨w.heap.size + 1, 11, none⟩ = some (.slice a' q.ks.length c') := cell_later hb1 (by go_simp)) | fail)
    go_returns
    exact ⟨ret_bool (by rw [ht.out]; rfl), by repeat (first | (with_reducible exact Below.refl _ _) | (with_reducible refine Below.drew ?_) | (with_reducible refine Below.alloc ?_ ?hh _; case hh => first | (simp; done) | (simp; omega) | omega) | (with_reducible refine Below.setCell ?_ ?hh _; case hh => first | (simp; done) | (simp; omega) | omega) | refine bstep (by assumption) (by first | (simp; done) | (simp; omega) | omega) ?_)⟩
  replace h1 : (p.k != q.k) = false := by simpa using h1
  by_cases h2 : (!(p.s.toList == q.s.toList)) = true
  · have ht : Hid (topP (D + 1) p q = false) := topP_no2 h2
    clear has has' hak hak' kes kes' kp kp'
    go_enter Try.func5, Try.ntmps5
    go_wp2_with (first | (go_at_call 12; refine (sameS_any (D + 1) p.e q.e _ _ Fe Fe' _ (ke.below (by repeat (first | (with_reducible exact Below.refl _ _) | (with_reducible refine Below.drew ?_) | (with_reducible refine Below.alloc ?_ ?hh _; case hh => first | (simp; done) | (simp; omega) | omega) | (with_reducible refine Below.setCell ?_ ?hh _; case hh => first | (simp; done) | (simp; omega) | omega) | refine bstep (by assumption) (by first | (simp; done) | (simp; omega) | omega) ?_))) (ke'.below (by repeat (first | (with_reducible exact Below.refl _ _) | (with_reducible refine Below.drew ?_) | (with_reducible refine Below.alloc ?_ ?hh _; case hh => first | (simp; done) | (simp; omega) | omega) | (with_reducible refine Below.setCell ?_ ?hh _; case hh => first | (simp; done) | (simp; omega) | omega) | refine bstep (by assumption) (by first | (simp; done) | (simp; omega) | omega) ?_)))).mono ?_; rintro z w1 ⟨rfl, hb1⟩; have hz1 := hb1.size; (try simp at hz1); have s9 : w1.cell? ⟨w.heap.size, 9, none⟩ = some (.slice ak p.es.length ck) := cell_later hb1 (by go_simp); have s10 : w1.cell? ⟨w.heap.size, 10, none⟩ = some (.int .i64 p.n) := cell_later hb1 (by go_simp); have s11 : w1.cell? ⟨w.heap.size, 11, none⟩ = some (.slice a p.ks.length c) := cell_later hb1 (by go_simp); have t9 : w1.cell? ⟨w.heap.size + 1, 9, none⟩ = some (.slice ak' q.es.length ck') := cell_later hb1 (by go_simp); have t10 : w1.cell? ⟨w.heap.size + 1, 10, none⟩ = some (.int .i64 q.n) := cell_later hb1 (by go_simp); have t11 : w1.cell? ⟨w.heap.size + 1, 11, none⟩ = some (.slice a' q.ks.length c') := cell_later hb1 (by go_simp)) | fail)
    go_returns
    exact ⟨ret_bool (by rw [ht.out]; rfl), by repeat (first | (with_reducible exact Below.refl _ _) | (with_reducible refine Below.drew ?_) | (with_reducible refine Below.alloc ?_ ?hh _; case hh => first | (simp; done) | (simp; omega) | omega) | (with_reducible refine Below.setCell ?_ ?hh _; case hh => first | (simp; done) | (simp; omega) | omega) | refine bstep (by assumption) (by first | (simp; done) | (simp; omega) | omega) ?_)⟩
  replace h2 : (!(p.s.toList == q.s.toList)) = false := by simpa using h2
  by_cases h3 : sameD (D + 1) p.e q.e = false
  · have ht : Hid (topP (D + 1) p q = false) := topP_no3 h3
    clear has has' hak hak' kes kes' kp kp'
    go_enter Try.func5, Try.ntmps5
    go_wp2_with (first | (go_at_call 12; refine (sameS_any (D + 1) p.e q.e _ _ Fe Fe' _ (ke.below (by repeat (first | (with_reducible exact Below.refl _ _) | (with_reducible refine Below.drew ?_) | (with_reducible refine Below.alloc ?_ ?hh _; case hh => first | (simp; done) | (simp; omega) | omega) | (with_reducible refine Below.setCell ?_ ?hh _; case hh => first | (simp; done) | (simp; omega) | omega) | refine bstep (by assumption) (by first | (simp; done) | (simp; omega) | omega) ?_))) (ke'.below (by repeat (first | (with_reducible exact Below.refl _ _) | (with_reducible refine Below.drew ?_) | (with_reducible refine Below.alloc ?_ ?hh _; case hh => first | (simp; done) | (simp; omega) | omega) | (with_reducible refine Below.setCell ?_ ?hh _; case hh => first | (simp; done) | (simp; omega) | omega) | refine bstep (by assumption) (by first | (simp; done) | (simp; omega) | omega) ?_)))).mono ?_; rintro z w1 ⟨rfl, hb1⟩; have hz1 := hb1.size; (try simp at hz1); have s9 : w1.cell? ⟨w.heap.size, 9, none⟩ = some (.slice ak p.es.length ck) := cell_later hb1 (by go_simp); have s10 : w1.cell? ⟨w.heap.size, 10, none⟩ = some (.int .i64 p.n) := cell_later hb1 (by go_simp); have s11 : w1.cell? ⟨w.heap.size, 11, none⟩ = some (.slice a p.ks.length c) := cell_later hb1 (by go_simp); have t9 : w1.cell? ⟨w.heap.size + 1, 9, none⟩ = some (.slice ak' q.es.length ck') := cell_later hb1 (by go_simp); have t10 : w1.cell? ⟨w.heap.size + 1, 10, none⟩ = some (.int .i64 q.n) := cell_later hb1 (by go_simp); have t11 : w1.cell? ⟨w.heap.size + 1, 11, none⟩ = some (.slice a' q.ks.length c') := cell_later hb1 (by go_simp)) | fail)
    go_returns
    exact ⟨ret_bool (by rw [ht.out]; rfl), by repeat (first | (with_reducible exact Below.refl _ _) | (with_reducible refine Below.drew ?_) | (with_reducible refine Below.alloc ?_ ?hh _; case hh => first | (simp; done) | (simp; omega) | omega) | (with_reducible refine Below.setCell ?_ ?hh _; case hh => first | (simp; done) | (simp; omega) | omega) | refine bstep (by assumption) (by first | (simp; done) | (simp; omega) | omega) ?_)⟩
  replace h3 : sameD (D + 1) p.e q.e = true := by simpa using h3
  by_cases h4 : ((p.es.length : Int) != (q.es.length : Int)) = true
  · have ht : Hid (topP (D + 1) p q = false) := topP_no4 h4
    clear has has' hak hak' kes kes' kp kp'
    go_enter Try.func5, Try.ntmps5
    go_wp2_with (first | (go_at_call 12; refine (sameS_any (D + 1) p.e q.e _ _ Fe Fe' _ (ke.below (by repeat (first | (with_reducible exact Below.refl _ _) | (with_reducible refine Below.drew ?_) | (with_reducible refine Below.alloc ?_ ?hh _; case hh => first | (simp; done) | (simp; omega) | omega) | (with_reducible refine Below.setCell ?_ ?hh _; case hh => first | (simp; done) | (simp; omega) | omega) | refine bstep (by assumption) (by first | (simp; done) | (simp; omega) | omega) ?_))) (ke'.below (by repeat (first | (with_reducible exact Below.refl _ _) | (with_reducible refine Below.drew ?_) | (with_reducible refine Below.alloc ?_ ?hh _; case hh => first | (simp; done) | (simp; omega) | omega) | (with_reducible refine Below.setCell ?_ ?hh _; case hh => first | (simp; done) | (simp; omega) | omega) | refine bstep (by assumption) (by first | (simp; done) | (simp; omega) | omega) ?_)))).mono ?_; rintro z w1 ⟨rfl, hb1⟩; have hz1 := hb1.size; (try simp at hz1); have s9 : w1.cell? ⟨w.heap.size, 9, none⟩ = some (.slice ak p.es.length ck) := cell_later hb1 (by go_simp); have s10 : w1.cell? ⟨w.heap.size, 10, none⟩ = some (.int .i64 p.n) := cell_later hb1 (by go_simp); have s11 : w1.cell? ⟨w.heap.size, 11, none⟩ = some (.slice a p.ks.length c) := cell_later hb1 (by go_simp); have t9 : w1.cell? ⟨w.heap.size + 1, 9, none⟩ = some (.slice ak' q.es.length ck') := cell_later hb1 (by go_simp); have t10 : w1.cell? ⟨w.heap.size + 1, 10, none⟩ = some (.int .i64 q.n) := cell_later hb1 (by go_simp); have t11 : w1.cell? ⟨w.heap.size + 1, 11, none⟩ = some (.slice a' q.ks.length c') := cell_later hb1 (by go_simp)) | fail)
    go_returns
    exact ⟨ret_bool (by rw [ht.out]; rfl), by repeat (first | (with_reducible exact Below.refl _ _) | (with_reducible refine Below.drew ?_) | (with_reducible refine Below.alloc ?_ ?hh _; case hh => first | (simp; done) | (simp; omega) | omega) | (with_reducible refine Below.setCell ?_ ?hh _; case hh => first | (simp; done) | (simp; omega) | omega) | refine bstep (by assumption) (by first | (simp; done) | (simp; omega) | omega) ?_)⟩
  replace h4 : ((p.es.length : Int) != (q.es.length : Int)) = false := by simpa using h4
  by_cases h5 : (p.n != q.n) = true
  · have ht : Hid (topP (D + 1) p q = false) := topP_no5 h5
    clear has has' hak hak' kes kes' kp kp'
    go_enter Try.func5, Try.ntmps5
    go_wp2_with (first | (go_at_call 12; refine (sameS_any (D + 1) p.e q.e _ _ Fe Fe' _ (ke.below (by repeat (first | (with_reducible exact Below.refl _ _) | (with_reducible refine Below.drew ?_) | (with_reducible refine Below.alloc ?_ ?hh _; case hh => first | (simp; done) | (simp; omega) | omega) | (with_reducible refine Below.setCell ?_ ?hh _; case hh => first | (simp; done) | (simp; omega) | omega) | refine bstep (by assumption) (by first | (simp; done) | (simp; omega) | omega) ?_))) (ke'.below (by repeat (first | (with_reducible exact Below.refl _ _) | (with_reducible refine Below.drew ?_) | (with_reducible refine Below.alloc ?_ ?hh _; case hh => first | (simp; done) | (simp; omega) | omega) | (with_reducible refine Below.setCell ?_ ?hh _; case hh => first | (simp; done) | (simp; omega) | omega) | refine bstep (by assumption) (by first | (simp; done) | (simp; omega) | omega) ?_)))).mono ?_; rintro z w1 ⟨rfl, hb1⟩; have hz1 := hb1.size; (try simp at hz1); have s9 : w1.cell? ⟨w.heap.size, 9, none⟩ = some (.slice ak p.es.length ck) := cell_later hb1 (by go_simp); have s10 : w1.cell? ⟨w.heap.size, 10, none⟩ = some (.int .i64 p.n) := cell_later hb1 (by go_simp); have s11 : w1.cell? ⟨w.heap.size, 11, none⟩ = some (.slice a p.ks.length c) := cell_later hb1 (by go_simp); have t9 : w1.cell? ⟨w.heap.size + 1, 9, none⟩ = some (.slice ak' q.es.length ck') := cell_later hb1 (by go_simp); have t10 : w1.cell? ⟨w.heap.size + 1, 10, none⟩ = some (.int .i64 q.n) := cell_later hb1 (by go_simp); have t11 : w1.cell? ⟨w.heap.size + 1, 11, none⟩ = some (.slice a' q.ks.length c') := cell_later hb1 (by go_simp)) | fail)
    go_returns
    exact ⟨ret_bool (by rw [ht.out]; rfl), by repeat (first | (with_reducible exact Below.refl _ _) | (with_reducible refine Below.drew ?_) | (with_reducible refine Below.alloc ?_ ?hh _; case hh => first | (simp; done) | (simp; omega) | omega) | (with_reducible refine Below.setCell ?_ ?hh _; case hh => first | (simp; done) | (simp; omega) | omega) | refine bstep (by assumption) (by first | (simp; done) | (simp; omega) | omega) ?_)⟩
  replace h5 : (p.n != q.n) = false := by simpa using h5
  by_cases h6 : ((p.ks.length : Int) != (q.ks.length : Int)) = true
  · have ht : Hid (topP (D + 1) p q = false) := topP_no6 h6
    clear has has' hak hak' kes kes' kp kp'
    go_enter Try.func5, Try.ntmps5
    go_wp2_with (first | (go_at_call 12; refine (sameS_any (D + 1) p.e q.e _ _ Fe Fe' _ (ke.below (by repeat (first | (with_reducible exact Below.refl _ _) | (with_reducible refine Below.drew ?_) | (with_reducible refine Below.alloc ?_ ?hh _; case hh => first | (simp; done) | (simp; omega) | omega) | (with_reducible refine Below.setCell ?_ ?hh _; case hh => first | (simp; done) | (simp; omega) | omega) | refine bstep (by assumption) (by first | (simp; done) | (simp; omega) | omega) ?_))) (ke'.below (by repeat (first | (with_reducible exact Below.refl _ _) | (with_reducible refine Below.drew ?_) | (with_reducible refine Below.alloc ?_ ?hh _; case hh => first | (simp; done) | (simp; omega) | omega) | (with_reducible refine Below.setCell ?_ ?hh _; case hh => first | (simp; done) | (simp; omega) | omega) | refine bstep (by assumption) (by first | (simp; done) | (simp; omega) | omega) ?_)))).mono ?_; rintro z w1 ⟨rfl, hb1⟩; have hz1 := hb1.size; (try simp at hz1); have s9 : w1.cell? ⟨w.heap.size, 9, none⟩ = some (.slice ak p.es.length ck) := cell_later hb1 (by go_simp); have s10 : w1.cell? ⟨w.heap.size, 10, none⟩ = some (.int .i64 p.n) := cell_later hb1 (by go_simp); have s11 : w1.cell? ⟨w.heap.size, 11, none⟩ = some (.slice a p.ks.length c) := cell_later hb1 (by go_simp); have t9 : w1.cell? ⟨w.heap.size + 1, 9, none⟩ = some (.slice ak' q.es.length ck') := cell_later hb1 (by go_simp); have t10 : w1.cell? ⟨w.heap.size + 1, 10, none⟩ = some (.int .i64 q.n) := cell_later hb1 (by go_simp); have t11 : w1.cell? ⟨w.heap.size + 1, 11, none⟩ = some (.slice a' q.ks.length c') := cell_later hb1 (by go_simp)) | fail)
    go_returns
    exact ⟨ret_bool (by rw [ht.out]; rfl), by repeat (first | (with_reducible exact Below.refl _ _) | (with_reducible refine Below.drew ?_) | (with_reducible refine Below.alloc ?_ ?hh _; case hh => first | (simp; done) | (simp; omega) | omega) | (with_reducible refine Below.setCell ?_ ?hh _; case hh => first | (simp; done) | (simp; omega) | omega) | refine bstep (by assumption) (by first | (simp; done) | (simp; omega) | omega) ?_)⟩
  replace h6 : ((p.ks.length : Int) != (q.ks.length : Int)) = false := by simpa using h6
  have ht : Hid (topP (D + 1) p q = sameL D p.es q.es) := topP_yes h1 h2 h3 h4 h5 h6
  have HLe : Hid (p.es.length = q.es.length) := by have := h4; simp at this; show p.es.length = q.es.length; omega
  have HLk : Hid (p.ks.length = q.ks.length) := by have := h6; simp at this; show p.ks.length = q.ks.length; omega
  rw [ht.out]
  go_enter Try.func5, Try.ntmps5
  go_wp2_with (first | (go_at_call 12; refine (sameS_any (D + 1) p.e q.e _ _ Fe Fe' _ (ke.below (by repeat (first | (with_reducible exact Below.refl _ _) | (with_reducible refine Below.drew ?_) | (with_reducible refine Below.alloc ?_ ?hh _; case hh => first | (simp; done) | (simp; omega) | omega) | (with_reducible refine Below.setCell ?_ ?hh _; case hh => first | (simp; done) | (simp; omega) | omega) | refine bstep (by assumption) (by first | (simp; done) | (simp; omega) | omega) ?_))) (ke'.below (by repeat (first | (with_reducible exact Below.refl _ _) | (with_reducible refine Below.drew ?_) | (with_reducible refine Below.alloc ?_ ?hh _; case hh => first | (simp; done) | (simp; omega) | omega) | (with_reducible refine Below.setCell ?_ ?hh _; case hh => first | (simp; done) | (simp; omega) | omega) | refine bstep (by assumption) (by first | (simp; done) | (simp; omega) | omega) ?_)))).mono ?_; rintro z w1 ⟨rfl, hb1⟩; have hz1 := hb1.size; (try simp at hz1); have s9 : w1.cell? ⟨w.heap.size, 9, none⟩ = some (.slice ak p.es.length ck) := cell_later hb1 (by go_simp); have s10 : w1.cell? ⟨w.heap.size, 10, none⟩ = some (.int .i64 p.n) := cell_later hb1 (by go_simp); have s11 : w1.cell? ⟨w.heap.size, 11, none⟩ = some (.slice a p.ks.length c) := cell_later hb1 (by go_simp); have t9 : w1.cell? ⟨w.heap.size + 1, 9, none⟩ = some (.slice ak' q.es.length ck') := cell_later hb1 (by go_simp); have t10 : w1.cell? ⟨w.heap.size + 1, 10, none⟩ = some (.int .i64 q.n) := cell_later hb1 (by go_simp); have t11 : w1.cell? ⟨w.heap.size + 1, 11, none⟩ = some (.slice a' q.ks.length c') := cell_later hb1 (by go_simp)) | fail)
  clear h1 h2 h3 h4 h5 h6
  go_loopw [5] (fun i wr => ∃ k : Nat, k ≤ p.es.length ∧ i = .int .i64 k ∧ Below w.heap.size w wr ∧ w.heap.size + 1 < wr.heap.size ∧ wr.cell? ⟨w.heap.size, 9, none⟩ = some (.slice ak p.es.length ck) ∧ wr.cell? ⟨w.heap.size, 11, none⟩ = some (.slice a p.ks.length c) ∧ wr.cell? ⟨w.heap.size + 1, 9, none⟩ = some (.slice ak' q.es.length ck') ∧ wr.cell? ⟨w.heap.size + 1, 11, none⟩ = some (.slice a' q.ks.length c') ∧ sameL D p.es q.es = sameL D (p.es.drop k) (q.es.drop k)) (fun i _ => p.es.length - (intOf i).toNat)
  case atStart => exact ⟨0, Nat.zero_le _, rfl, by repeat (first | (with_reducible exact Below.refl _ _) | (with_reducible refine Below.drew ?_) | (with_reducible refine Below.alloc ?_ ?hh _; case hh => first | (simp; done) | (simp; omega) | omega) | (with_reducible refine Below.setCell ?_ ?hh _; case hh => first | (simp; done) | (simp; omega) | omega) | refine bstep (by assumption) (by first | (simp; done) | (simp; omega) | omega) ?_), by omega, s9, s11, t9, t11, by simp⟩
  case round =>
    clear s9 s10 s11 t9 t10 t11
    obtain ⟨k, hk, rfl, hb, hsz, p0, p1, p2, p3, heq⟩ := hrel
    have HE : Hid (sameL D p.es q.es = sameL D (p.es.drop k) (q.es.drop k)) := heq
    have hzb := hb.size
    clear heq hb1
    by_cases hlt : k < p.es.length
    · have hlt' : k < q.es.length := by have := HLe.out; omega
      obtain ⟨rfl, hblt, _, hLs⟩ := has k hlt
      obtain ⟨rfl, hblt', _, hLs'⟩ := has' k hlt'
      obtain ⟨x, gx, vx, hx, _, _, ⟨c0, c1, c2, c3, c4, c5⟩, c6, hK, hbr⟩ := hLs.at hGs hblt hb hlt
      obtain ⟨y, gy, vy, hy, _, _, ⟨d0, d1, d2, d3, d4, d5⟩, d6, hK', hbr'⟩ := hLs'.at hGs' hblt' hb hlt'
      have HS : Hid (sameL D (p.es.drop k) (q.es.drop k) = (sameD D x y && sameL D (p.es.drop (k + 1)) (q.es.drop (k + 1)))) := sameL_step hx hy
      have hltI : (k : Int) < q.es.length := by omega
      clear has has' hLs hLs' hx hy hak hak' kes kes' kp kp' ke ke'
      by_cases hsm : sameD D x y = true
      · have HB : Hid (sameD D x y = true) := hsm
        go_wp2_with fail
        go_region_with (first | (go_at_call 12; refine (sameS_any D x y vx vy _ _ _ (hK.below (by repeat (first | (with_reducible exact Below.refl _ _) | (with_reducible refine Below.drew ?_) | (with_reducible refine Below.alloc ?_ ?hh _; case hh => first | (simp; done) | (simp; omega) | omega) | (with_reducible refine Below.setCell ?_ ?hh _; case hh => first | (simp; done) | (simp; omega) | omega) | refine bstep (by assumption) (by first | (simp; done) | (simp; omega) | omega) ?_))) (hK'.below (by repeat (first | (with_reducible exact Below.refl _ _) | (with_reducible refine Below.drew ?_) | (with_reducible refine Below.alloc ?_ ?hh _; case hh => first | (simp; done) | (simp; omega) | omega) | (with_reducible refine Below.setCell ?_ ?hh _; case hh => first | (simp; done) | (simp; omega) | omega) | refine bstep (by assumption) (by first | (simp; done) | (simp; omega) | omega) ?_)))).mono ?_; rintro z w2 ⟨rfl, hb2⟩; have hz2 := hb2.size; (try simp at hz2); have x9 : w2.cell? ⟨w.heap.size, 9, none⟩ = some (.slice (some ⟨bs, os, none⟩) p.es.length ck) := cell_later hb2 (by go_simp); have x11 : w2.cell? ⟨w.heap.size, 11, none⟩ = some (.slice a p.ks.length c) := cell_later hb2 (by go_simp); have y9 : w2.cell? ⟨w.heap.size + 1, 9, none⟩ = some (.slice (some ⟨bs', os', none⟩) q.es.length ck') := cell_later hb2 (by go_simp); have y11 : w2.cell? ⟨w.heap.size + 1, 11, none⟩ = some (.slice a' q.ks.length c') := cell_later hb2 (by go_simp)))
        all_goals (go_wp2; exact ⟨⟨k + 1, hlt, by simp, by repeat (first | (with_reducible exact Below.refl _ _) | (with_reducible refine Below.drew ?_) | (with_reducible refine Below.alloc ?_ ?hh _; case hh => first | (simp; done) | (simp; omega) | omega) | (with_reducible refine Below.setCell ?_ ?hh _; case hh => first | (simp; done) | (simp; omega) | omega) | refine bstep (by assumption) (by first | (simp; done) | (simp; omega) | omega) ?_), by (first | omega | (simp; omega)), by assumption, by assumption, by assumption, by assumption, by rw [HE.out, HS.out, HB.out, Bool.true_and]⟩, by simp [intOf]; omega⟩)
      · replace hsm : sameD D x y = false := by simpa using hsm
        have HB : Hid (sameD D x y = false) := hsm
        go_wp2_with fail
        go_region_with (first | (go_at_call 12; refine (sameS_any D x y vx vy _ _ _ (hK.below (by repeat (first | (with_reducible exact Below.refl _ _) | (with_reducible refine Below.drew ?_) | (with_reducible refine Below.alloc ?_ ?hh _; case hh => first | (simp; done) | (simp; omega) | omega) | (with_reducible refine Below.setCell ?_ ?hh _; case hh => first | (simp; done) | (simp; omega) | omega) | refine bstep (by assumption) (by first | (simp; done) | (simp; omega) | omega) ?_))) (hK'.below (by repeat (first | (with_reducible exact Below.refl _ _) | (with_reducible refine Below.drew ?_) | (with_reducible refine Below.alloc ?_ ?hh _; case hh => first | (simp; done) | (simp; omega) | omega) | (with_reducible refine Below.setCell ?_ ?hh _; case hh => first | (simp; done) | (simp; omega) | omega) | refine bstep (by assumption) (by first | (simp; done) | (simp; omega) | omega) ?_)))).mono ?_; rintro z w2 ⟨rfl, hb2⟩; have hz2 := hb2.size; (try simp at hz2); have x9 : w2.cell? ⟨w.heap.size, 9, none⟩ = some (.slice (some ⟨bs, os, none⟩) p.es.length ck) := cell_later hb2 (by go_simp); have x11 : w2.cell? ⟨w.heap.size, 11, none⟩ = some (.slice a p.ks.length c) := cell_later hb2 (by go_simp); have y9 : w2.cell? ⟨w.heap.size + 1, 9, none⟩ = some (.slice (some ⟨bs', os', none⟩) q.es.length ck') := cell_later hb2 (by go_simp); have y11 : w2.cell? ⟨w.heap.size + 1, 11, none⟩ = some (.slice a' q.ks.length c') := cell_later hb2 (by go_simp)))
        all_goals go_wp2
        all_goals go_returns
        all_goals exact ⟨ret_bool (by rw [HE.out, HS.out, HB.out, Bool.false_and, Bool.false_and]), by repeat (first | (with_reducible exact Below.refl _ _) | (with_reducible refine Below.drew ?_) | (with_reducible refine Below.alloc ?_ ?hh _; case hh => first | (simp; done) | (simp; omega) | omega) | (with_reducible refine Below.setCell ?_ ?hh _; case hh => first | (simp; done) | (simp; omega) | omega) | refine bstep (by assumption) (by first | (simp; done) | (simp; omega) | omega) ?_)⟩
    · have HA : Hid (sameL D p.es q.es = true) := by show sameL D p.es q.es = true; rw [HE.out, List.drop_eq_nil_of_le (by omega)]; rfl
      clear has has' kes kes' ke ke'
      go_wp2_with fail
      go_loopw [6] (fun i wr => ∃ k : Nat, k ≤ p.ks.length ∧ i = .int .i64 k ∧ Below w.heap.size w wr ∧ w.heap.size + 1 < wr.heap.size ∧ wr.cell? ⟨w.heap.size, 11, none⟩ = some (.slice a p.ks.length c) ∧ wr.cell? ⟨w.heap.size + 1, 11, none⟩ = some (.slice a' q.ks.length c') ∧ sameR (D + 1) d p.ks q.ks = sameR (D + 1) d (p.ks.drop k) (q.ks.drop k)) (fun i _ => p.ks.length - (intOf i).toNat)
      case atStart => exact ⟨0, Nat.zero_le _, rfl, hb, hsz, p1, p3, by simp⟩
      case round =>
        clear p0 p1 p2 p3 hb hzb hsz
        obtain ⟨k, hk, rfl, hb, hsz, p1, p3, heq⟩ := hrel
        have HE : Hid (sameR (D + 1) d p.ks q.ks = sameR (D + 1) d (p.ks.drop k) (q.ks.drop k)) := heq
        have hzb := hb.size
        clear heq
        by_cases hlt : k < p.ks.length
        · have hlt' : k < q.ks.length := by have := HLk.out; omega
          obtain ⟨rfl, hblt, _, hLs⟩ := hak k hlt
          obtain ⟨rfl, hblt', _, hLs'⟩ := hak' k hlt'
          obtain ⟨x, gx, xe, xs, xu, hx, _, _, ⟨c0, c1, c2, c3, c4, c5, c6, c7, c8, c9, c10, c11⟩, hLx, hbr⟩ := hLs.at hGk hblt hb hlt
          obtain ⟨y, gy, ye, ys, yu, hy, _, _, ⟨d0, d1, d2, d3, d4, d5, d6, d7, d8, d9, d10, d11⟩, hLy, hbr'⟩ := hLs'.at hGk' hblt' hb hlt'
          have HS : Hid (sameR (D + 1) d (p.ks.drop k) (q.ks.drop k) = (sameQ (D + 1) d x y && sameR (D + 1) d (p.ks.drop (k + 1)) (q.ks.drop (k + 1)))) := sameR_step hx hy
          have hltI : (k : Int) < q.ks.length := by omega
          clear hak hak' hLs hLs' hx hy kp kp'
          by_cases hsm : sameQ (D + 1) d x y = true
          · have HB : Hid (sameQ (D + 1) d x y = true) := hsm
            go_wp2_with fail
            go_region_with (first | (go_at_call 5; refine (hS x y xe xs xu ye ys yu _ _ _ (hLx.below (by repeat (first | (with_reducible exact Below.refl _ _) | (with_reducible refine Below.drew ?_) | (with_reducible refine Below.alloc ?_ ?hh _; case hh => first | (simp; done) | (simp; omega) | omega) | (with_reducible refine Below.setCell ?_ ?hh _; case hh => first | (simp; done) | (simp; omega) | omega) | refine bstep (by assumption) (by first | (simp; done) | (simp; omega) | omega) ?_))) (hLy.below (by repeat (first | (with_reducible exact Below.refl _ _) | (with_reducible refine Below.drew ?_) | (with_reducible refine Below.alloc ?_ ?hh _; case hh => first | (simp; done) | (simp; omega) | omega) | (with_reducible refine Below.setCell ?_ ?hh _; case hh => first | (simp; done) | (simp; omega) | omega) | refine bstep (by assumption) (by first | (simp; done) | (simp; omega) | omega) ?_)))).mono ?_; rintro z w2 ⟨rfl, hb2⟩; have hz2 := hb2.size; (try simp at hz2); have x11 : w2.cell? ⟨w.heap.size, 11, none⟩ = some (.slice (some ⟨bk, ok, none⟩) p.ks.length c) := cell_later hb2 (by go_simp); have y11 : w2.cell? ⟨w.heap.size + 1, 11, none⟩ = some (.slice (some ⟨bk', ok', none⟩) q.ks.length c') := cell_later hb2 (by go_simp)))
            all_goals (go_wp2; exact ⟨⟨k + 1, hlt, by simp, by repeat (first | (with_reducible exact Below.refl _ _) | (with_reducible refine Below.drew ?_) | (with_reducible refine Below.alloc ?_ ?hh _; case hh => first | (simp; done) | (simp; omega) | omega) | (with_reducible refine Below.setCell ?_ ?hh _; case hh => first | (simp; done) | (simp; omega) | omega) | refine bstep (by assumption) (by first | (simp; done) | (simp; omega) | omega) ?_), by (first | omega | (simp; omega)), by assumption, by assumption, by rw [HE.out, HS.out, HB.out, Bool.true_and]⟩, by simp [intOf]; omega⟩)
          · replace hsm : sameQ (D + 1) d x y = false := by simpa using hsm
            have HB : Hid (sameQ (D + 1) d x y = false) := hsm
            go_wp2_with fail
            go_region_with (first | (go_at_call 5; refine (hS x y xe xs xu ye ys yu _ _ _ (hLx.below (by repeat (first | (with_reducible exact Below.refl _ _) | (with_reducible refine Below.drew ?_) | (with_reducible refine Below.alloc ?_ ?hh _; case hh => first | (simp; done) | (simp; omega) | omega) | (with_reducible refine Below.setCell ?_ ?hh _; case hh => first | (simp; done) | (simp; omega) | omega) | refine bstep (by assumption) (by first | (simp; done) | (simp; omega) | omega) ?_))) (hLy.below (by repeat (first | (with_reducible exact Below.refl _ _) | (with_reducible refine Below.drew ?_) | (with_reducible refine Below.alloc ?_ ?hh _; case hh => first | (simp; done) | (simp; omega) | omega) | (with_reducible refine Below.setCell ?_ ?hh _; case hh => first | (simp; done) | (simp; omega) | omega) | refine bstep (by assumption) (by first | (simp; done) | (simp; omega) | omega) ?_)))).mono ?_; rintro z w2 ⟨rfl, hb2⟩; have hz2 := hb2.size; (try simp at hz2); have x11 : w2.cell? ⟨w.heap.size, 11, none⟩ = some (.slice (some ⟨bk, ok, none⟩) p.ks.length c) := cell_later hb2 (by go_simp); have y11 : w2.cell? ⟨w.heap.size + 1, 11, none⟩ = some (.slice (some ⟨bk', ok', none⟩) q.ks.length c') := cell_later hb2 (by go_simp)))
            all_goals go_wp2
            all_goals go_returns
            all_goals exact ⟨ret_bool (by rw [HA.out, Bool.true_and, HE.out, HS.out, HB.out, Bool.false_and]), by repeat (first | (with_reducible exact Below.refl _ _) | (with_reducible refine Below.drew ?_) | (with_reducible refine Below.alloc ?_ ?hh _; case hh => first | (simp; done) | (simp; omega) | omega) | (with_reducible refine Below.setCell ?_ ?hh _; case hh => first | (simp; done) | (simp; omega) | omega) | refine bstep (by assumption) (by first | (simp; done) | (simp; omega) | omega) ?_)⟩
        · clear hak hak' kp kp'
          go_wp2_with fail
          go_returns
          exact ⟨ret_bool (by rw [HA.out, Bool.true_and, HE.out, List.drop_eq_nil_of_le (by omega)]; rfl), hb⟩
theorem smpS_any (D : Nat) : ∀ d, SmP (D + 1) d
  | 0 => fun _ _ _ _ _ _ _ _ _ _ _ h => by obtain ⟨_, _, _, _, _, _, h⟩ := h; exact h.elim
  | d + 1 => smpS_step (smpS_any D d)
end Go.Proofs.Ytflnkfjjjacjbaa
