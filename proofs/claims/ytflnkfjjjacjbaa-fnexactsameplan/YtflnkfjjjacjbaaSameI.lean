/- Own text. The contract of impl.SameExp. -/
import Derived.Test.YtflnkfjjjacjbaaSameT
import Derived.Test.YtflnkfjjjacjbaaBox7
import Derived.Handy
namespace Go.Proofs.Ytflnkfjjjacjbaa
open Go.RowKit
set_option linter.unusedVariables false
set_option maxHeartbeats 1000000 in
set_option maxRecDepth 100000 in
theorem implSame_any {d N : Nat} (e f : E7) (v u : Value) (F F' : List Nat) (w : World) (hv : KidsIs w d v e.ks F) (hu : KidsIs w d u f.ks F') (ho : Own w N F) (hn : wtE e ≤ 1048576) :
    Calls Try.prog 24 #[(.agg #[.int .i64 e.k, .int .i64 e.n, .int .i64 e.v.k, .int .i64 e.v.n, .string e.v.s, .string e.p, v]), (.agg #[.int .i64 f.k, .int .i64 f.n, .int .i64 f.v.k, .int .i64 f.v.n, .string f.v.s, .string f.p, u])] w fun x w' => x = .returned (.bool (sameD d e f)) ∧ Below w.heap.size w w' := by
  obtain ⟨a, c, rfl, _, _⟩ := hv.shape
  obtain ⟨a', c', rfl, _, _⟩ := hu.shape
  go_enter Try.func24, Try.ntmps24
  go_wp2_with fail
  have hA := (box7_new w e (.slice a e.ks.length c) 35).below ((Below.refl _ (w.alloc (.cells #[.int .i64 e.k, .int .i64 e.n, .int .i64 e.v.k, .int .i64 e.v.n, .string e.v.s, .string e.p, .slice a e.ks.length c] 35))).alloc (Nat.le_refl _) (.cells #[.int .i64 f.k, .int .i64 f.n, .int .i64 f.v.k, .int .i64 f.v.n, .string f.v.s, .string f.p, .slice a' f.ks.length c'] 35))
  have hB := box7_new (w.alloc (.cells #[.int .i64 e.k, .int .i64 e.n, .int .i64 e.v.k, .int .i64 e.v.n, .string e.v.s, .string e.p, .slice a e.ks.length c] 35)) f (.slice a' f.ks.length c') 35
  rw [World.size_alloc] at hB
  have hv2 := hv.below (show Below w.heap.size w ((w.alloc (.cells #[.int .i64 e.k, .int .i64 e.n, .int .i64 e.v.k, .int .i64 e.v.n, .string e.v.s, .string e.p, .slice a e.ks.length c] 35)).alloc (.cells #[.int .i64 f.k, .int .i64 f.n, .int .i64 f.v.k, .int .i64 f.v.n, .string f.v.s, .string f.p, .slice a' f.ks.length c'] 35)) by repeat (first | (with_reducible exact Below.refl _ _) | (with_reducible refine Below.drew ?_) | (with_reducible refine Below.alloc ?_ ?hh _; case hh => first | (simp; done) | (simp; omega) | omega) | (with_reducible refine Below.setCell ?_ ?hh _; case hh => first | (simp; done) | (simp; omega) | omega) | refine bstep (by assumption) (by first | (simp; done) | (simp; omega) | omega) ?_))
  have hu2 := hu.below (show Below w.heap.size w ((w.alloc (.cells #[.int .i64 e.k, .int .i64 e.n, .int .i64 e.v.k, .int .i64 e.v.n, .string e.v.s, .string e.p, .slice a e.ks.length c] 35)).alloc (.cells #[.int .i64 f.k, .int .i64 f.n, .int .i64 f.v.k, .int .i64 f.v.n, .string f.v.s, .string f.p, .slice a' f.ks.length c'] 35)) by repeat (first | (with_reducible exact Below.refl _ _) | (with_reducible refine Below.drew ?_) | (with_reducible refine Below.alloc ?_ ?hh _; case hh => first | (simp; done) | (simp; omega) | omega) | (with_reducible refine Below.setCell ?_ ?hh _; case hh => first | (simp; done) | (simp; omega) | omega) | refine bstep (by assumption) (by first | (simp; done) | (simp; omega) | omega) ?_))
  have ho2 := ho.below hv.lt (show Below w.heap.size w ((w.alloc (.cells #[.int .i64 e.k, .int .i64 e.n, .int .i64 e.v.k, .int .i64 e.v.n, .string e.v.s, .string e.p, .slice a e.ks.length c] 35)).alloc (.cells #[.int .i64 f.k, .int .i64 f.n, .int .i64 f.v.k, .int .i64 f.v.n, .string f.v.s, .string f.p, .slice a' f.ks.length c'] 35)) by repeat (first | (with_reducible exact Below.refl _ _) | (with_reducible refine Below.drew ?_) | (with_reducible refine Below.alloc ?_ ?hh _; case hh => first | (simp; done) | (simp; omega) | omega) | (with_reducible refine Below.setCell ?_ ?hh _; case hh => first | (simp; done) | (simp; omega) | omega) | refine bstep (by assumption) (by first | (simp; done) | (simp; omega) | omega) ?_))
  refine Calls.mono (sameTrees_any d w.heap.size 0 (w.heap.size + 1) 0 e f F F' _ ⟨hA.1, hA.cellsE, _, hA.2.2.2.2.2.2.2, hv2⟩ ⟨hB.1, hB.cellsE, _, hB.2.2.2.2.2.2.2, hu2⟩ ho.1 (hv2.fr ho2) hn) ?_
  rintro x w1 ⟨rfl, hb1⟩
  have hz1 := hb1.size
  simp only [World.size_alloc] at hz1
  clear hA hB hv2 hu2 ho2
  go_wp2_with fail
  go_returns
  exact ⟨rfl, by repeat (first | (with_reducible exact Below.refl _ _) | (with_reducible refine Below.drew ?_) | (with_reducible refine Below.alloc ?_ ?hh _; case hh => first | (simp; done) | (simp; omega) | omega) | (with_reducible refine Below.setCell ?_ ?hh _; case hh => first | (simp; done) | (simp; omega) | omega) | refine bstep (by assumption) (by first | (simp; done) | (simp; omega) | omega) ?_)⟩
end Go.Proofs.Ytflnkfjjjacjbaa
