/- Own text. The contract of impl.sameAst. -/
import Derived.Test.YtmheiehhdmajfaaSaT
import Derived.Test.YtmheiehhdmajfaaBoxA
import Derived.Handy
namespace Go.Proofs.Ytmheiehhdmajfaa
open Go.RowKit
set_option linter.unusedVariables false
set_option maxHeartbeats 1000000 in
set_option maxRecDepth 100000 in
theorem implSame_anyA {d N : Nat} (e f : A6) (v u : Value) (F F' : List Nat) (w : World) (hv : AstsIs w d v e.ks F) (hu : AstsIs w d u f.ks F') (ho : Own w N F) (hn : wtA e ≤ 1048576) :
    Calls Try.prog 27 #[(.agg #[.int .i64 e.k, .string e.p, .int .i64 e.v.k, .int .i64 e.v.n, .string e.v.s, v]), (.agg #[.int .i64 f.k, .string f.p, .int .i64 f.v.k, .int .i64 f.v.n, .string f.v.s, u])] w fun x w' => x = .returned (.bool (sameDA d e f)) ∧ Below w.heap.size w w' := by
  obtain ⟨a, c, rfl, _, _⟩ := hv.shape
  obtain ⟨a', c', rfl, _, _⟩ := hu.shape
  go_enter Try.func27, Try.ntmps27
  go_wp2_with fail
  have hA := (boxA6_new w e (.slice a e.ks.length c) 56).below ((Below.refl _ (w.alloc (.cells #[.int .i64 e.k, .string e.p, .int .i64 e.v.k, .int .i64 e.v.n, .string e.v.s, .slice a e.ks.length c] 56))).alloc (Nat.le_refl _) (.cells #[.int .i64 f.k, .string f.p, .int .i64 f.v.k, .int .i64 f.v.n, .string f.v.s, .slice a' f.ks.length c'] 56))
  have hB := boxA6_new (w.alloc (.cells #[.int .i64 e.k, .string e.p, .int .i64 e.v.k, .int .i64 e.v.n, .string e.v.s, .slice a e.ks.length c] 56)) f (.slice a' f.ks.length c') 56
  rw [World.size_alloc] at hB
  have hv2 := hv.below (show Below w.heap.size w ((w.alloc (.cells #[.int .i64 e.k, .string e.p, .int .i64 e.v.k, .int .i64 e.v.n, .string e.v.s, .slice a e.ks.length c] 56)).alloc (.cells #[.int .i64 f.k, .string f.p, .int .i64 f.v.k, .int .i64 f.v.n, .string f.v.s, .slice a' f.ks.length c'] 56)) by repeat (first | (with_reducible exact Below.refl _ _) | (with_reducible refine Below.drew ?_) | (with_reducible refine Below.alloc ?_ ?hh _; case hh => first | (simp; done) | (simp; omega) | omega) | (with_reducible refine Below.setCell ?_ ?hh _; case hh => first | (simp; done) | (simp; omega) | omega) | refine bstep (by assumption) (by first | (simp; done) | (simp; omega) | omega) ?_))
  have hu2 := hu.below (show Below w.heap.size w ((w.alloc (.cells #[.int .i64 e.k, .string e.p, .int .i64 e.v.k, .int .i64 e.v.n, .string e.v.s, .slice a e.ks.length c] 56)).alloc (.cells #[.int .i64 f.k, .string f.p, .int .i64 f.v.k, .int .i64 f.v.n, .string f.v.s, .slice a' f.ks.length c'] 56)) by repeat (first | (with_reducible exact Below.refl _ _) | (with_reducible refine Below.drew ?_) | (with_reducible refine Below.alloc ?_ ?hh _; case hh => first | (simp; done) | (simp; omega) | omega) | (with_reducible refine Below.setCell ?_ ?hh _; case hh => first | (simp; done) | (simp; omega) | omega) | refine bstep (by assumption) (by first | (simp; done) | (simp; omega) | omega) ?_))
  have ho2 := ho.below hv.lt (show Below w.heap.size w ((w.alloc (.cells #[.int .i64 e.k, .string e.p, .int .i64 e.v.k, .int .i64 e.v.n, .string e.v.s, .slice a e.ks.length c] 56)).alloc (.cells #[.int .i64 f.k, .string f.p, .int .i64 f.v.k, .int .i64 f.v.n, .string f.v.s, .slice a' f.ks.length c'] 56)) by repeat (first | (with_reducible exact Below.refl _ _) | (with_reducible refine Below.drew ?_) | (with_reducible refine Below.alloc ?_ ?hh _; case hh => first | (simp; done) | (simp; omega) | omega) | (with_reducible refine Below.setCell ?_ ?hh _; case hh => first | (simp; done) | (simp; omega) | omega) | refine bstep (by assumption) (by first | (simp; done) | (simp; omega) | omega) ?_))
  refine Calls.mono (sameTrees_anyA d w.heap.size 0 (w.heap.size + 1) 0 e f F F' _ ⟨hA.1, hA.cellsA, _, hA.2.2.2.2.2.2, hv2⟩ ⟨hB.1, hB.cellsA, _, hB.2.2.2.2.2.2, hu2⟩ ho.1 (hv2.fr ho2) hn) ?_
  rintro x w1 ⟨rfl, hb1⟩
  have hz1 := hb1.size
  simp only [World.size_alloc] at hz1
  clear hA hB hv2 hu2 ho2
  go_wp2_with fail
  go_returns
  exact ⟨rfl, by repeat (first | (with_reducible exact Below.refl _ _) | (with_reducible refine Below.drew ?_) | (with_reducible refine Below.alloc ?_ ?hh _; case hh => first | (simp; done) | (simp; omega) | omega) | (with_reducible refine Below.setCell ?_ ?hh _; case hh => first | (simp; done) | (simp; omega) | omega) | refine bstep (by assumption) (by first | (simp; done) | (simp; omega) | omega) ?_)⟩
end Go.Proofs.Ytmheiehhdmajfaa
