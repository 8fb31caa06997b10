/- Own text. When two expressions of questions are the same (sameDA), two lists of them (sameAs); the contracts of spec.l08SameAst and l08SameAsts. -/
import Derived.Test.YtmheiehhdmajfaaAstK
import Derived.Test.YtmheiehhdmajfaaNeV
import Derived.Handy
import Derived.Deep.RegionHeld3
namespace Go.Proofs.Ytmheiehhdmajfaa
open Go.RowKit
set_option linter.unusedVariables false
/-- whether the tops of two expressions are the same, but for their kids. -/
def headA (a b : A6) : Bool := a.k == b.k && (a.p.toList == b.p.toList && sameV a.v b.v)
/-- .. and have as many kids. -/
def topBA (a b : A6) : Bool := headA a b && a.ks.length == b.ks.length
/-- whether two expressions are the same, down to depth d. -/
def sameDA : Nat → A6 → A6 → Bool
  | 0, _, _ => true
  | d + 1, a, b => topBA a b && (a.ks.zip b.ks).all fun p => sameDA d p.1 p.2
def sameLA (d : Nat) (xs ys : List A6) : Bool := (xs.zip ys).all fun p => sameDA d p.1 p.2
/-- whether two lists of expressions are the same. -/
def sameAs : Nat → List A6 → List A6 → Bool
  | 0, _, _ => true
  | d + 1, xs, ys => xs.length == ys.length && sameLA d xs ys
theorem sameDA_eq (d : Nat) (a b : A6) : sameDA (d + 1) a b = (topBA a b && sameLA d a.ks b.ks) := rfl
theorem sameDA_as (d : Nat) (a b : A6) : sameDA (d + 1) a b = (headA a b && sameAs (d + 1) a.ks b.ks) := by
  rw [sameDA_eq, topBA, sameAs, Bool.and_assoc]
theorem sameLA_step {d : Nat} {xs ys : List A6} {k : Nat} {x y : A6} (hx : xs[k]? = some x) (hy : ys[k]? = some y) : sameLA d (xs.drop k) (ys.drop k) = (sameDA d x y && sameLA d (xs.drop (k + 1)) (ys.drop (k + 1))) := by
  obtain ⟨h1, rfl⟩ := List.getElem?_eq_some_iff.1 hx
  obtain ⟨h2, rfl⟩ := List.getElem?_eq_some_iff.1 hy
  rw [List.drop_eq_getElem_cons h1, List.drop_eq_getElem_cons h2]
  unfold sameLA
  rw [List.zip_cons_cons, List.all_cons]
theorem headA_n1 {e f : A6} (h : (e.k == f.k) = false) : headA e f = false := by unfold headA; rw [h, Bool.false_and]
theorem headA_n2 {e f : A6} (h : (e.p.toList == f.p.toList) = false) : headA e f = false := by unfold headA; rw [h, Bool.false_and, Bool.and_false]
theorem headA_n3 {e f : A6} (h : (e.v.k == f.v.k && (e.v.n == f.v.n && e.v.s.toList == f.v.s.toList)) = false) : headA e f = false := by unfold headA sameV; rw [h, Bool.and_false, Bool.and_false]
theorem headA_y {e f : A6} (h1 : (e.k == f.k) = true) (h2 : (e.p.toList == f.p.toList) = true) (h3 : (e.v.k == f.v.k && (e.v.n == f.v.n && e.v.s.toList == f.v.s.toList)) = true) : headA e f = true := by
  unfold headA sameV; rw [h1, h2, h3]; rfl
/-- spec.l08SameAsts at lists that are at most d deep. -/
def SaL (d : Nat) : Prop := ∀ (v u : Value) (xs ys : List A6) (F F' : List Nat) (w : World), AstsIs w d v xs F → AstsIs w d u ys F' →
    Calls Try.prog 12 #[v, u] w fun x w' => x = .returned (.bool (sameAs d xs ys)) ∧ Below w.heap.size w w'
set_option maxHeartbeats 4000000 in
set_option maxRecDepth 100000 in
theorem sameAst_of {d : Nat} (hS : SaL d) (e f : A6) (v u : Value) (F F' : List Nat) (w : World) (hv : AstsIs w d v e.ks F) (hu : AstsIs w d u f.ks F') :
    Calls Try.prog 23 #[(.agg #[.int .i64 e.k, .string e.p, .int .i64 e.v.k, .int .i64 e.v.n, .string e.v.s, v]), (.agg #[.int .i64 f.k, .string f.p, .int .i64 f.v.k, .int .i64 f.v.n, .string f.v.s, u])] w fun x w' => x = .returned (.bool (sameDA d e f)) ∧ Below w.heap.size w w' := by
  cases d with
  | zero => exact hv.elim
  | succ d =>
  rw [sameDA_as]
  obtain ⟨a, c, rfl, _, hc⟩ := hv.shape
  obtain ⟨a', c', rfl, _, hc'⟩ := hu.shape
  have hq := neV
  by_cases h1 : (e.k == f.k) = true
  rotate_left
  · replace h1 : (e.k == f.k) = false := by simpa only [Bool.not_eq_true] using h1
    have h1' : (e.k != f.k) = true := by rw [bne, h1]; rfl
    have ht : Hid (headA e f = false) := headA_n1 h1
    go_enter Try.func23, Try.ntmps23
    go_wp2_with fail
    go_returns
    exact ⟨ret_bool (by rw [ht.out]; rfl), by repeat (first | (with_reducible exact Below.refl _ _) | (with_reducible refine Below.drew ?_) | (with_reducible refine Below.alloc ?_ ?hh _; case hh => first | (simp; done) | (simp; omega) | omega) | (with_reducible refine Below.setCell ?_ ?hh _; case hh => first | (simp; done) | (simp; omega) | omega) | refine bstep (by assumption) (by first | (simp; done) | (simp; omega) | omega) ?_)⟩
  have h1' : (e.k != f.k) = false := by rw [bne, h1]; rfl
  by_cases h2 : (e.p.toList == f.p.toList) = true
  rotate_left
  · replace h2 : (e.p.toList == f.p.toList) = false := by simpa only [Bool.not_eq_true] using h2
    have ht : Hid (headA e f = false) := headA_n2 h2
    go_enter Try.func23, Try.ntmps23
    go_wp2_with fail
    go_returns
    exact ⟨ret_bool (by rw [ht.out]; rfl), by repeat (first | (with_reducible exact Below.refl _ _) | (with_reducible refine Below.drew ?_) | (with_reducible refine Below.alloc ?_ ?hh _; case hh => first | (simp; done) | (simp; omega) | omega) | (with_reducible refine Below.setCell ?_ ?hh _; case hh => first | (simp; done) | (simp; omega) | omega) | refine bstep (by assumption) (by first | (simp; done) | (simp; omega) | omega) ?_)⟩
  by_cases h3 : (e.v.k == f.v.k && (e.v.n == f.v.n && e.v.s.toList == f.v.s.toList)) = true
  rotate_left
  · replace h3 : (e.v.k == f.v.k && (e.v.n == f.v.n && e.v.s.toList == f.v.s.toList)) = false := by simpa only [Bool.not_eq_true] using h3
    have ht : Hid (headA e f = false) := headA_n3 h3
    go_enter Try.func23, Try.ntmps23
    go_wp2_with fail
    go_returns
    exact ⟨ret_bool (by rw [ht.out]; rfl), by repeat (first | (with_reducible exact Below.refl _ _) | (with_reducible refine Below.drew ?_) | (with_reducible refine Below.alloc ?_ ?hh _; case hh => first | (simp; done) | (simp; omega) | omega) | (with_reducible refine Below.setCell ?_ ?hh _; case hh => first | (simp; done) | (simp; omega) | omega) | refine bstep (by assumption) (by first | (simp; done) | (simp; omega) | omega) ?_)⟩
  have ht : Hid (headA e f = true) := headA_y h1 h2 h3
  rw [ht.out, Bool.true_and]
  go_enter Try.func23, Try.ntmps23
  go_wp2_with fail
  refine Calls.mono (hS (.slice a e.ks.length c) (.slice a' f.ks.length c') e.ks f.ks F F' _ (hv.below ?hb) (hu.below ?hb2)) ?_
  case hb => repeat (first | (with_reducible exact Below.refl _ _) | (with_reducible refine Below.drew ?_) | (with_reducible refine Below.alloc ?_ ?hh _; case hh => first | (simp; done) | (simp; omega) | omega) | (with_reducible refine Below.setCell ?_ ?hh _; case hh => first | (simp; done) | (simp; omega) | omega) | refine bstep (by assumption) (by first | (simp; done) | (simp; omega) | omega) ?_)
  case hb2 => repeat (first | (with_reducible exact Below.refl _ _) | (with_reducible refine Below.drew ?_) | (with_reducible refine Below.alloc ?_ ?hh _; case hh => first | (simp; done) | (simp; omega) | omega) | (with_reducible refine Below.setCell ?_ ?hh _; case hh => first | (simp; done) | (simp; omega) | omega) | refine bstep (by assumption) (by first | (simp; done) | (simp; omega) | omega) ?_)
  rintro x w1 ⟨rfl, hb1⟩
  have hz1 := hb1.size
  go_wp2_with fail
  go_returns
  exact ⟨rfl, by repeat (first | (with_reducible exact Below.refl _ _) | (with_reducible refine Below.drew ?_) | (with_reducible refine Below.alloc ?_ ?hh _; case hh => first | (simp; done) | (simp; omega) | omega) | (with_reducible refine Below.setCell ?_ ?hh _; case hh => first | (simp; done) | (simp; omega) | omega) | refine bstep (by assumption) (by first | (simp; done) | (simp; omega) | omega) ?_)⟩
set_option maxHeartbeats 4000000 in
set_option maxRecDepth 100000 in
theorem sameAsts_step {d : Nat} (hS : SaL d) : SaL (d + 1) := by
  intro v u xs ys F F' w hv hu
  obtain ⟨a, c, b, o, G, rfl, hl, hc, hG, _, ha⟩ := hv.pick
  obtain ⟨a', c', b', o', G', rfl, hl', hc', hG', _, ha'⟩ := hu.pick
  unfold maxLen at hc hc'
  clear hv hu
  rw [sameAs]
  by_cases h1 : ((xs.length : Int) != (ys.length : Int)) = true
  · have ht : Hid ((xs.length == ys.length) = false) := by have := h1; simp at this; show (xs.length == ys.length) = false; simp; omega
    rw [ht.out, Bool.false_and]
    clear ha ha'
    go_enter Try.func12, Try.ntmps12
    go_wp2_with fail
    go_returns
    exact ⟨rfl, by repeat (first | (with_reducible exact Below.refl _ _) | (with_reducible refine Below.drew ?_) | (with_reducible refine Below.alloc ?_ ?hh _; case hh => first | (simp; done) | (simp; omega) | omega) | (with_reducible refine Below.setCell ?_ ?hh _; case hh => first | (simp; done) | (simp; omega) | omega) | refine bstep (by assumption) (by first | (simp; done) | (simp; omega) | omega) ?_)⟩
  replace h1 : ((xs.length : Int) != (ys.length : Int)) = false := by simpa using h1
  have HL : Hid (xs.length = ys.length) := by have := h1; simp at this; show xs.length = ys.length; omega
  have ht : Hid ((xs.length == ys.length) = true) := by have := HL.out; show (xs.length == ys.length) = true; simp; omega
  rw [ht.out, Bool.true_and]
  go_enter Try.func12, Try.ntmps12
  go_wp2_with fail
  go_loopw [5] (fun i wr => ∃ k : Nat, k ≤ xs.length ∧ i = .int .i64 k ∧ Below w.heap.size w wr ∧ sameLA d xs ys = sameLA d (xs.drop k) (ys.drop k)) (fun i _ => xs.length - (intOf i).toNat)
  case atStart => exact ⟨0, Nat.zero_le _, rfl, by repeat (first | (with_reducible exact Below.refl _ _) | (with_reducible refine Below.drew ?_) | (with_reducible refine Below.alloc ?_ ?hh _; case hh => first | (simp; done) | (simp; omega) | omega) | (with_reducible refine Below.setCell ?_ ?hh _; case hh => first | (simp; done) | (simp; omega) | omega) | refine bstep (by assumption) (by first | (simp; done) | (simp; omega) | omega) ?_), by simp⟩
  case round =>
    obtain ⟨k, hk, rfl, hb, heq⟩ := hrel
    have HE : Hid (sameLA d xs ys = sameLA d (xs.drop k) (ys.drop k)) := heq
    have hzb := hb.size
    clear heq h1
    by_cases hlt : k < xs.length
    · have hlt' : k < ys.length := by have := HL.out; omega
      obtain ⟨rfl, hblt, _, hL⟩ := ha k hlt
      obtain ⟨rfl, hblt', _, hL'⟩ := ha' k hlt'
      obtain ⟨x, g, vx, hx, _, _, ⟨c0, c1, c2, c3, c4⟩, c5, hK, hbr⟩ := hL.at hG hblt hb hlt
      obtain ⟨y, g', vy, hy, _, _, ⟨d0, d1, d2, d3, d4⟩, d5, hK', hbr'⟩ := hL'.at hG' hblt' hb hlt'
      have HS : Hid (sameLA d (xs.drop k) (ys.drop k) = (sameDA d x y && sameLA d (xs.drop (k + 1)) (ys.drop (k + 1)))) := sameLA_step hx hy
      have hltI : (k : Int) < ys.length := by omega
      clear ha ha' hL hL' hx hy
      by_cases hsm : sameDA d x y = true
      · have HB : Hid (sameDA d x y = true) := hsm
        go_wp2_with fail
        go_region_with (first | (go_at_call 23; refine (sameAst_of hS x y vx vy _ _ _ (hK.below (by repeat (first | (with_reducible exact Below.refl _ _) | (with_reducible refine Below.drew ?_) | (with_reducible refine Below.alloc ?_ ?hh _; case hh => first | (simp; done) | (simp; omega) | omega) | (with_reducible refine Below.setCell ?_ ?hh _; case hh => first | (simp; done) | (simp; omega) | omega) | refine bstep (by assumption) (by first | (simp; done) | (simp; omega) | omega) ?_))) (hK'.below (by repeat (first | (with_reducible exact Below.refl _ _) | (with_reducible refine Below.drew ?_) | (with_reducible refine Below.alloc ?_ ?hh _; case hh => first | (simp; done) | (simp; omega) | omega) | (with_reducible refine Below.setCell ?_ ?hh _; case hh => first | (simp; done) | (simp; omega) | omega) | refine bstep (by assumption) (by first | (simp; done) | (simp; omega) | omega) ?_)))).mono ?_; rintro z w1 ⟨rfl, hb1⟩; have hz1 := hb1.size; (try simp at hz1)))
        all_goals (go_wp2; exact ⟨⟨k + 1, hlt, by simp, by repeat (first | (with_reducible exact Below.refl _ _) | (with_reducible refine Below.drew ?_) | (with_reducible refine Below.alloc ?_ ?hh _; case hh => first | (simp; done) | (simp; omega) | omega) | (with_reducible refine Below.setCell ?_ ?hh _; case hh => first | (simp; done) | (simp; omega) | omega) | refine bstep (by assumption) (by first | (simp; done) | (simp; omega) | omega) ?_), by rw [HE.out, HS.out, HB.out, Bool.true_and]⟩, by simp [intOf]; omega⟩)
      · replace hsm : sameDA d x y = false := by simpa using hsm
        have HB : Hid (sameDA d x y = false) := hsm
        go_wp2_with fail
        go_region_with (first | (go_at_call 23; refine (sameAst_of hS x y vx vy _ _ _ (hK.below (by repeat (first | (with_reducible exact Below.refl _ _) | (with_reducible refine Below.drew ?_) | (with_reducible refine Below.alloc ?_ ?hh _; case hh => first | (simp; done) | (simp; omega) | omega) | (with_reducible refine Below.setCell ?_ ?hh _; case hh => first | (simp; done) | (simp; omega) | omega) | refine bstep (by assumption) (by first | (simp; done) | (simp; omega) | omega) ?_))) (hK'.below (by repeat (first | (with_reducible exact Below.refl _ _) | (with_reducible refine Below.drew ?_) | (with_reducible refine Below.alloc ?_ ?hh _; case hh => first | (simp; done) | (simp; omega) | omega) | (with_reducible refine Below.setCell ?_ ?hh _; case hh => first | (simp; done) | (simp; omega) | omega) | refine bstep (by assumption) (by first | (simp; done) | (simp; omega) | omega) ?_)))).mono ?_; rintro z w1 ⟨rfl, hb1⟩; have hz1 := hb1.size; (try simp at hz1)))
        all_goals go_wp2
        all_goals go_returns
        all_goals exact ⟨ret_bool (by rw [HE.out, HS.out, HB.out, Bool.false_and]), by repeat (first | (with_reducible exact Below.refl _ _) | (with_reducible refine Below.drew ?_) | (with_reducible refine Below.alloc ?_ ?hh _; case hh => first | (simp; done) | (simp; omega) | omega) | (with_reducible refine Below.setCell ?_ ?hh _; case hh => first | (simp; done) | (simp; omega) | omega) | refine bstep (by assumption) (by first | (simp; done) | (simp; omega) | omega) ?_)⟩
    · clear ha ha'
      go_wp2_with fail
      go_returns
      exact ⟨ret_bool (by rw [HE.out, List.drop_eq_nil_of_le (by omega)]; rfl), hb⟩
theorem sameAsts_any : ∀ d, SaL d
  | 0 => fun _ _ _ _ _ _ _ h => h.elim
  | d + 1 => sameAsts_step (sameAsts_any d)
theorem sameAsts_call (d : Nat) (v u : Value) (xs ys : List A6) (F F' : List Nat) (w : World) (hv : AstsIs w d v xs F) (hu : AstsIs w d u ys F') :
    Calls Try.prog 12 #[v, u] w fun x w' => x = .returned (.bool (sameAs d xs ys)) ∧ Below w.heap.size w w' := sameAsts_any d v u xs ys F F' w hv hu
end Go.Proofs.Ytmheiehhdmajfaa
