/- Own text. The contract of impl.SamePlan. -/
import Derived.Test.YtflnkfjjjacjbaaSmpT
import Derived.Test.YtflnkfjjjacjbaaBox12
import Derived.Handy
namespace Go.Proofs.Ytflnkfjjjacjbaa
open Go.RowKit
set_option linter.unusedVariables false
set_option maxHeartbeats 2000000 in
set_option maxRecDepth 100000 in
theorem implSamePlan_any {D d N : Nat} (p q : P12) (ue us u ue' us' u' : Value) (g g' : List Nat) (w : World) (hL : ListsP w D (PlansIs w D d) p ue us u g) (hM : ListsP w D (PlansIs w D d) q ue' us' u' g') (ho : Own w N g) (hn : wtP p ≤ 1048576) :
    Calls Try.prog 7 #[(.agg #[.int .i64 p.k, .string p.s, .int .i64 p.e.k, .int .i64 p.e.n, .int .i64 p.e.v.k, .int .i64 p.e.v.n, .string p.e.v.s, .string p.e.p, ue, us, .int .i64 p.n, u]), (.agg #[.int .i64 q.k, .string q.s, .int .i64 q.e.k, .int .i64 q.e.n, .int .i64 q.e.v.k, .int .i64 q.e.v.n, .string q.e.v.s, .string q.e.p, ue', us', .int .i64 q.n, u'])] w fun x w' => x = .returned (.bool (sameQ D d p q)) ∧ Below w.heap.size w w' := by
  obtain ⟨a_e, a_E, a_s, a_S, a_k, a_K, rfl, rfl, rfl, _, _, _, _, _, _⟩ := hL.shape
  obtain ⟨b_e, b_E, b_s, b_S, b_k, b_K, rfl, rfl, rfl, _, _, _, _, _, _⟩ := hM.shape
  go_enter Try.func7, Try.ntmps7
  go_wp2_with fail
  have hbx : Below w.heap.size w ((w.alloc (.cells #[.int .i64 p.k, .string p.s, .int .i64 p.e.k, .int .i64 p.e.n, .int .i64 p.e.v.k, .int .i64 p.e.v.n, .string p.e.v.s, .string p.e.p, (.slice a_e p.e.ks.length a_E), (.slice a_s p.es.length a_S), .int .i64 p.n, (.slice a_k p.ks.length a_K)] 38)).alloc (.cells #[.int .i64 q.k, .string q.s, .int .i64 q.e.k, .int .i64 q.e.n, .int .i64 q.e.v.k, .int .i64 q.e.v.n, .string q.e.v.s, .string q.e.p, (.slice b_e q.e.ks.length b_E), (.slice b_s q.es.length b_S), .int .i64 q.n, (.slice b_k q.ks.length b_K)] 38)) := by repeat (first | (with_reducible exact Below.refl _ _) | (with_reducible refine Below.drew ?_) | (with_reducible refine Below.alloc ?_ ?hh _; case hh => first | (simp; done) | (simp; omega) | omega) | (with_reducible refine Below.setCell ?_ ?hh _; case hh => first | (simp; done) | (simp; omega) | omega) | refine bstep (by assumption) (by first | (simp; done) | (simp; omega) | omega) ?_)
  have hA := (box12_new w p (.slice a_e p.e.ks.length a_E) (.slice a_s p.es.length a_S) (.slice a_k p.ks.length a_K) 38).below ((Below.refl _ (w.alloc (.cells #[.int .i64 p.k, .string p.s, .int .i64 p.e.k, .int .i64 p.e.n, .int .i64 p.e.v.k, .int .i64 p.e.v.n, .string p.e.v.s, .string p.e.p, (.slice a_e p.e.ks.length a_E), (.slice a_s p.es.length a_S), .int .i64 p.n, (.slice a_k p.ks.length a_K)] 38))).alloc (Nat.le_refl _) (.cells #[.int .i64 q.k, .string q.s, .int .i64 q.e.k, .int .i64 q.e.n, .int .i64 q.e.v.k, .int .i64 q.e.v.n, .string q.e.v.s, .string q.e.p, (.slice b_e q.e.ks.length b_E), (.slice b_s q.es.length b_S), .int .i64 q.n, (.slice b_k q.ks.length b_K)] 38))
  have hB := box12_new (w.alloc (.cells #[.int .i64 p.k, .string p.s, .int .i64 p.e.k, .int .i64 p.e.n, .int .i64 p.e.v.k, .int .i64 p.e.v.n, .string p.e.v.s, .string p.e.p, (.slice a_e p.e.ks.length a_E), (.slice a_s p.es.length a_S), .int .i64 p.n, (.slice a_k p.ks.length a_K)] 38)) q (.slice b_e q.e.ks.length b_E) (.slice b_s q.es.length b_S) (.slice b_k q.ks.length b_K) 38
  rw [World.size_alloc] at hB
  have hlt := hL.lt
  have ho2 := ho.below hlt hbx
  obtain ⟨Fe, Fs, h, rfl, ke, kes, kp⟩ := hL.below hbx
  obtain ⟨Fe', Fs', h', rfl, ke', kes', kp'⟩ := hM.below hbx
  have hoh := own_sub ho2 ((List.sublist_append_right Fs h).trans (List.sublist_append_right Fe _))
  refine Calls.mono (sameTreesP_any D d w.heap.size 0 (w.heap.size + 1) 0 N p q h h' _ ⟨hA.1, _, _, _, Fe, Fs, N, hA.cellsP, ke, own_sub ho2 (List.sublist_append_left _ _), kes, own_sub ho2 ((List.sublist_append_left Fs h).trans (List.sublist_append_right Fe _)), kp⟩ ⟨hB.1, _, _, _, Fe', Fs', hB.cellsP, ke', kes', kp'⟩ hoh (kp.fr hoh) hn) ?_
  rintro x w1 ⟨rfl, hb1⟩
  have hz1 := hb1.size
  simp only [World.size_alloc] at hz1
  clear hA hB ho2 ke kes kp ke' kes' kp' hoh hbx hlt
  go_wp2_with fail
  go_returns
  exact ⟨rfl, by repeat (first | (with_reducible exact Below.refl _ _) | (with_reducible refine Below.drew ?_) | (with_reducible refine Below.alloc ?_ ?hh _; case hh => first | (simp; done) | (simp; omega) | omega) | (with_reducible refine Below.setCell ?_ ?hh _; case hh => first | (simp; done) | (simp; omega) | omega) | refine bstep (by assumption) (by first | (simp; done) | (simp; omega) | omega) ?_)⟩
end Go.Proofs.Ytflnkfjjjacjbaa
