/- Own texts, joined: contracts that the law's proof goes by. -/
import Derived.Test.YtaeibfipcenhaaaGreatDoorGLViewsOk5
import Derived.Test.YtaeibfipcenhaaaGreatDoorGLViewsOk25
import Derived.Handy
import Derived.Deep.RegionHeld3
import Derived.Test.YtaeibfipcenhaaaGreatDoorGLViewsOk6
import Derived.Test.YtaeibfipcenhaaaGreatDoorGLViewsOk7
namespace Go.Proofs.YtaeibfipcenhaaaGreatDoor
open Go.RowKit
set_option linter.unusedVariables false
/-- szPlanS at kids that are at most d deep. -/
def SzP (D d : Nat) : Prop := ∀ (v : Value) (ps : List P12) (F : List Nat) (left : Int) (w : World), PlansIs w D d v ps F → 0 ≤ left → left ≤ 1048576 →
    Calls Tryz.prog 45 #[v, .int .i64 left] w fun e w' => (∃ z : Int, e = .returned (.int .i64 z) ∧ -1 ≤ z ∧ z ≤ left ∧ (0 ≤ z → z + (ps.length + wtPs ps) = left)) ∧ Below w.heap.size w w'
set_option maxHeartbeats 2000000 in
set_option maxRecDepth 100000 in
theorem szPlan_of {D d : Nat} (hS : SzP D d) (p : P12) (ue us u : Value) (g : List Nat) (left : Int) (w : World) (hw : p.wf) (hL : ListsP w D (PlansIs w D d) p ue us u g) (h0 : 0 ≤ left) (h1 : left ≤ 1048576) :
    Calls Tryz.prog 28 #[(.agg #[.int .i64 p.k, .string p.s, .int .i64 p.e.k, .int .i64 p.e.n, .int .i64 p.e.v.k, .int .i64 p.e.v.n, .string p.e.v.s, .string p.e.p, ue, us, .int .i64 p.n, u]), .int .i64 left] w fun x w' => (∃ z : Int, x = .returned (.int .i64 z) ∧ -1 ≤ z ∧ z ≤ left ∧ (0 ≤ z → z + wtP p = left)) ∧ Below w.heap.size w w' := by
  obtain ⟨_, hs, hwe, _⟩ := hw
  rw [wtP_eq]
  unfold maxLen at hs
  obtain ⟨ae, ce, ak, ck, a, c, rfl, rfl, rfl, _, _, _, _, _, _⟩ := hL.shape
  obtain ⟨Fe, Fs, h', rfl, ke, kes, kp⟩ := hL
  by_cases hbig : left - p.s.size < 0
  · go_enter Tryz.func28, Tryz.ntmps28
    go_wp2_with fail
    go_returns
    exact ⟨⟨-1, rfl, by omega, by omega, by omega⟩, by repeat (first | (with_reducible exact Below.refl _ _) | (with_reducible refine Below.drew ?_) | (with_reducible refine Below.alloc ?_ ?hh _; case hh => first | (simp; done) | (simp; omega) | omega) | (with_reducible refine Below.setCell ?_ ?hh _; case hh => first | (simp; done) | (simp; omega) | omega) | refine bstep (by assumption) (by first | (simp; done) | (simp; omega) | omega) ?_)⟩
  go_enter Tryz.func28, Tryz.ntmps28
  go_wp2_with fail
  refine Calls.mono (szExp_any p.e (.slice ae p.e.ks.length ce) Fe (left - p.s.size) _ hwe (ke.below ?hb) (by omega) (by omega)) ?_
  case hb => repeat (first | (with_reducible exact Below.refl _ _) | (with_reducible refine Below.drew ?_) | (with_reducible refine Below.alloc ?_ ?hh _; case hh => first | (simp; done) | (simp; omega) | omega) | (with_reducible refine Below.setCell ?_ ?hh _; case hh => first | (simp; done) | (simp; omega) | omega) | refine bstep (by assumption) (by first | (simp; done) | (simp; omega) | omega) ?_)
  rintro x w1 ⟨⟨z1, rfl, l1, g1, s1⟩, hb1⟩
  have hz1 := hb1.size
  simp only [World.size_alloc] at hz1
  have c91 : w1.cell? ⟨w.heap.size, 9, none⟩ = some (.slice ak p.es.length ck) := cell_later hb1 (by go_simp)
  have c111 : w1.cell? ⟨w.heap.size, 11, none⟩ = some (.slice a p.ks.length c) := cell_later hb1 (by go_simp)
  by_cases hn1 : z1 < 0
  · go_wp2_with fail
    go_returns
    exact ⟨⟨-1, rfl, by omega, by omega, by omega⟩, by repeat (first | (with_reducible exact Below.refl _ _) | (with_reducible refine Below.drew ?_) | (with_reducible refine Below.alloc ?_ ?hh _; case hh => first | (simp; done) | (simp; omega) | omega) | (with_reducible refine Below.setCell ?_ ?hh _; case hh => first | (simp; done) | (simp; omega) | omega) | refine bstep (by assumption) (by first | (simp; done) | (simp; omega) | omega) ?_)⟩
  have e1 := s1 (by omega)
  go_wp2_with fail
  refine Calls.mono (szExpS_any D (.slice ak p.es.length ck) p.es Fs z1 _ (kes.below ?hb) (by omega) (by omega)) ?_
  case hb => repeat (first | (with_reducible exact Below.refl _ _) | (with_reducible refine Below.drew ?_) | (with_reducible refine Below.alloc ?_ ?hh _; case hh => first | (simp; done) | (simp; omega) | omega) | (with_reducible refine Below.setCell ?_ ?hh _; case hh => first | (simp; done) | (simp; omega) | omega) | refine bstep (by assumption) (by first | (simp; done) | (simp; omega) | omega) ?_)
  rintro x w2 ⟨⟨z2, rfl, l2, g2, s2⟩, hb2⟩
  have hz2 := hb2.size
  have c112 : w2.cell? ⟨w.heap.size, 11, none⟩ = some (.slice a p.ks.length c) := cell_later hb2 (by go_simp)
  by_cases hn2 : z2 < 0
  · go_wp2_with fail
    go_returns
    exact ⟨⟨-1, rfl, by omega, by omega, by omega⟩, by repeat (first | (with_reducible exact Below.refl _ _) | (with_reducible refine Below.drew ?_) | (with_reducible refine Below.alloc ?_ ?hh _; case hh => first | (simp; done) | (simp; omega) | omega) | (with_reducible refine Below.setCell ?_ ?hh _; case hh => first | (simp; done) | (simp; omega) | omega) | refine bstep (by assumption) (by first | (simp; done) | (simp; omega) | omega) ?_)⟩
  have e2 := s2 (by omega)
  go_wp2_with fail
  refine Calls.mono (hS (.slice a p.ks.length c) p.ks h' z2 _ (kp.below ?hb) (by omega) (by omega)) ?_
  case hb => repeat (first | (with_reducible exact Below.refl _ _) | (with_reducible refine Below.drew ?_) | (with_reducible refine Below.alloc ?_ ?hh _; case hh => first | (simp; done) | (simp; omega) | omega) | (with_reducible refine Below.setCell ?_ ?hh _; case hh => first | (simp; done) | (simp; omega) | omega) | refine bstep (by assumption) (by first | (simp; done) | (simp; omega) | omega) ?_)
  rintro x w3 ⟨⟨z3, rfl, l3, g3, s3⟩, hb3⟩
  have hz3 := hb3.size
  by_cases hn3 : z3 < 0
  · go_wp2_with fail
    go_returns
    exact ⟨⟨-1, rfl, by omega, by omega, by omega⟩, by repeat (first | (with_reducible exact Below.refl _ _) | (with_reducible refine Below.drew ?_) | (with_reducible refine Below.alloc ?_ ?hh _; case hh => first | (simp; done) | (simp; omega) | omega) | (with_reducible refine Below.setCell ?_ ?hh _; case hh => first | (simp; done) | (simp; omega) | omega) | refine bstep (by assumption) (by first | (simp; done) | (simp; omega) | omega) ?_)⟩
  have e3 := s3 (by omega)
  go_wp2_with fail
  go_returns
  exact ⟨⟨z3, rfl, by omega, by omega, by omega⟩, by repeat (first | (with_reducible exact Below.refl _ _) | (with_reducible refine Below.drew ?_) | (with_reducible refine Below.alloc ?_ ?hh _; case hh => first | (simp; done) | (simp; omega) | omega) | (with_reducible refine Below.setCell ?_ ?hh _; case hh => first | (simp; done) | (simp; omega) | omega) | refine bstep (by assumption) (by first | (simp; done) | (simp; omega) | omega) ?_)⟩
set_option maxHeartbeats 4000000 in
set_option maxRecDepth 100000 in
theorem szPlanS_step {D d : Nat} (hS : SzP D d) : SzP D (d + 1) := by
  intro v ps F left w hr h0 h1
  obtain ⟨a, c, b, o, G, rfl, hl, hc, hG, _, ha⟩ := hr.pick
  unfold maxLen at hc
  by_cases hbig : left - ps.length < 0
  · go_enter Tryz.func45, Tryz.ntmps45
    go_wp2
    go_returns
    exact ⟨⟨-1, rfl, by omega, by omega, by omega⟩, by go_grown⟩
  go_enter Tryz.func45, Tryz.ntmps45
  go_wp2
  go_loopw [1, 5] (fun l i wr => ∃ k : Nat, k ≤ ps.length ∧ i = .int .i64 k ∧ l = .int .i64 (left - ps.length - wtPs (ps.take k)) ∧ 0 ≤ left - ps.length - wtPs (ps.take k) ∧ Below w.heap.size w wr) (fun _ i _ => ps.length - (intOf i).toNat)
  case atStart => exact ⟨0, Nat.zero_le _, rfl, by simp [wtPs], by simp [wtPs]; omega, by go_grown⟩
  case round =>
    obtain ⟨k, hk, rfl, rfl, hp, hb⟩ := hrel
    by_cases hlt : k < ps.length
    · have hzb := hb.size
      obtain ⟨rfl, hblt, _, hL⟩ := ha k hlt
      obtain ⟨x, g, ue, us, u, hx, hg, hxw, ⟨c0, c1, c2, c3, c4, c5, c6, c7, c8, c9, c10, c11⟩, hLx, hbr⟩ := hL.at hG hblt hb hlt
      have hT : Hid (wtPs (ps.take (k + 1)) = wtPs (ps.take k) + wtP x) := wtPs_take hx
      have hp1 : left - ps.length - wtPs (ps.take k) ≤ 1048576 := by omega
      clear ha hL hx
      go_wp2_with (go_at_call 28; refine (szPlan_of hS _ _ _ _ _ _ _ hxw hLx hp hp1).mono ?_; rintro e w1 ⟨⟨z1, rfl, l1, g1, s1⟩, hb1⟩)
      · go_returns
        exact ⟨⟨-1, rfl, by omega, by omega, by omega⟩, hb.trans (hb1.mono hb.size)⟩
      · have h9 : 0 ≤ z1 := by assumption
        have e1 := s1 h9
        have hT := hT.out
        refine ⟨⟨k + 1, hlt, by simp, by congr 1; omega, by omega, hb.trans (hb1.mono hb.size)⟩, by simp [intOf]; omega⟩
    · go_wp2
      go_returns
      have hkk : k = ps.length := by omega
      subst hkk
      refine ⟨⟨_, rfl, by omega, by omega, fun _ => ?_⟩, hb⟩
      rw [List.take_length]; omega
theorem szPlanS_any (D : Nat) : ∀ d, SzP D d
  | 0 => fun _ _ _ _ _ h => h.elim
  | d + 1 => szPlanS_step (szPlanS_any D d)
/-- eqPlanS at one list of kids twice, at most d deep. -/
def EqP (D d : Nat) : Prop := ∀ (v u : Value) (ps : List P12) (F F' : List Nat) (w : World), PlansIs w D d v ps F → PlansIs w D d u ps F' →
    Calls Tryz.prog 61 #[v, u] w fun e w' => e = .returned (.bool true) ∧ Below w.heap.size w w'
set_option maxHeartbeats 2000000 in
set_option maxRecDepth 100000 in
theorem eqPlan_of {D d : Nat} (hS : EqP D d) (p : P12) (ue us u ue' us' u' : Value) (g g' : List Nat) (w : World) (hL : ListsP w D (PlansIs w D d) p ue us u g) (hM : ListsP w D (PlansIs w D d) p ue' us' u' g') :
    Calls Tryz.prog 41 #[(.agg #[.int .i64 p.k, .string p.s, .int .i64 p.e.k, .int .i64 p.e.n, .int .i64 p.e.v.k, .int .i64 p.e.v.n, .string p.e.v.s, .string p.e.p, ue, us, .int .i64 p.n, u]), (.agg #[.int .i64 p.k, .string p.s, .int .i64 p.e.k, .int .i64 p.e.n, .int .i64 p.e.v.k, .int .i64 p.e.v.n, .string p.e.v.s, .string p.e.p, ue', us', .int .i64 p.n, u'])] w fun x w' => x = .returned (.bool true) ∧ Below w.heap.size w w' := by
  obtain ⟨ae, ce, ak, ck, a, c, rfl, rfl, rfl, _, _, _, _, _, _⟩ := hL.shape
  obtain ⟨ae', ce', ak', ck', a', c', rfl, rfl, rfl, _, _, _, _, _, _⟩ := hM.shape
  obtain ⟨Fe, Fs, h, rfl, ke, kes, kp⟩ := hL
  obtain ⟨Fe', Fs', h', rfl, ke', kes', kp'⟩ := hM
  go_enter Tryz.func41, Tryz.ntmps41
  go_wp2_with fail
  refine Calls.mono (eqExp_same p.e (.slice ae p.e.ks.length ce) (.slice ae' p.e.ks.length ce') Fe Fe' _ (ke.below ?hb) (ke'.below ?hb2)) ?_
  case hb => repeat (first | (with_reducible exact Below.refl _ _) | (with_reducible refine Below.drew ?_) | (with_reducible refine Below.alloc ?_ ?hh _; case hh => first | (simp; done) | (simp; omega) | omega) | (with_reducible refine Below.setCell ?_ ?hh _; case hh => first | (simp; done) | (simp; omega) | omega) | refine bstep (by assumption) (by first | (simp; done) | (simp; omega) | omega) ?_)
  case hb2 => repeat (first | (with_reducible exact Below.refl _ _) | (with_reducible refine Below.drew ?_) | (with_reducible refine Below.alloc ?_ ?hh _; case hh => first | (simp; done) | (simp; omega) | omega) | (with_reducible refine Below.setCell ?_ ?hh _; case hh => first | (simp; done) | (simp; omega) | omega) | refine bstep (by assumption) (by first | (simp; done) | (simp; omega) | omega) ?_)
  rintro x w1 ⟨rfl, hb1⟩
  have hz1 := hb1.size
  simp only [World.size_alloc] at hz1
  have c91 : w1.cell? ⟨w.heap.size, 9, none⟩ = some (.slice ak p.es.length ck) := cell_later hb1 (by go_simp)
  have c101 : w1.cell? ⟨w.heap.size, 10, none⟩ = some (.int .i64 p.n) := cell_later hb1 (by go_simp)
  have c111 : w1.cell? ⟨w.heap.size, 11, none⟩ = some (.slice a p.ks.length c) := cell_later hb1 (by go_simp)
  have d91 : w1.cell? ⟨w.heap.size + 1, 9, none⟩ = some (.slice ak' p.es.length ck') := cell_later hb1 (by go_simp)
  have d101 : w1.cell? ⟨w.heap.size + 1, 10, none⟩ = some (.int .i64 p.n) := cell_later hb1 (by go_simp)
  have d111 : w1.cell? ⟨w.heap.size + 1, 11, none⟩ = some (.slice a' p.ks.length c') := cell_later hb1 (by go_simp)
  go_wp2_with fail
  refine Calls.mono (eqExpS_any D (.slice ak p.es.length ck) (.slice ak' p.es.length ck') p.es Fs Fs' _ (kes.below ?hb) (kes'.below ?hb2)) ?_
  case hb => repeat (first | (with_reducible exact Below.refl _ _) | (with_reducible refine Below.drew ?_) | (with_reducible refine Below.alloc ?_ ?hh _; case hh => first | (simp; done) | (simp; omega) | omega) | (with_reducible refine Below.setCell ?_ ?hh _; case hh => first | (simp; done) | (simp; omega) | omega) | refine bstep (by assumption) (by first | (simp; done) | (simp; omega) | omega) ?_)
  case hb2 => repeat (first | (with_reducible exact Below.refl _ _) | (with_reducible refine Below.drew ?_) | (with_reducible refine Below.alloc ?_ ?hh _; case hh => first | (simp; done) | (simp; omega) | omega) | (with_reducible refine Below.setCell ?_ ?hh _; case hh => first | (simp; done) | (simp; omega) | omega) | refine bstep (by assumption) (by first | (simp; done) | (simp; omega) | omega) ?_)
  rintro x w2 ⟨rfl, hb2⟩
  have hz2 := hb2.size
  have c102 : w2.cell? ⟨w.heap.size, 10, none⟩ = some (.int .i64 p.n) := cell_later hb2 (by go_simp)
  have c112 : w2.cell? ⟨w.heap.size, 11, none⟩ = some (.slice a p.ks.length c) := cell_later hb2 (by go_simp)
  have d102 : w2.cell? ⟨w.heap.size + 1, 10, none⟩ = some (.int .i64 p.n) := cell_later hb2 (by go_simp)
  have d112 : w2.cell? ⟨w.heap.size + 1, 11, none⟩ = some (.slice a' p.ks.length c') := cell_later hb2 (by go_simp)
  go_wp2_with fail
  refine Calls.mono (hS (.slice a p.ks.length c) (.slice a' p.ks.length c') p.ks h h' _ (kp.below ?hb) (kp'.below ?hb2)) ?_
  case hb => repeat (first | (with_reducible exact Below.refl _ _) | (with_reducible refine Below.drew ?_) | (with_reducible refine Below.alloc ?_ ?hh _; case hh => first | (simp; done) | (simp; omega) | omega) | (with_reducible refine Below.setCell ?_ ?hh _; case hh => first | (simp; done) | (simp; omega) | omega) | refine bstep (by assumption) (by first | (simp; done) | (simp; omega) | omega) ?_)
  case hb2 => repeat (first | (with_reducible exact Below.refl _ _) | (with_reducible refine Below.drew ?_) | (with_reducible refine Below.alloc ?_ ?hh _; case hh => first | (simp; done) | (simp; omega) | omega) | (with_reducible refine Below.setCell ?_ ?hh _; case hh => first | (simp; done) | (simp; omega) | omega) | refine bstep (by assumption) (by first | (simp; done) | (simp; omega) | omega) ?_)
  rintro x w3 ⟨rfl, hb3⟩
  have hz3 := hb3.size
  go_wp2_with fail
  go_returns
  exact ⟨rfl, by repeat (first | (with_reducible exact Below.refl _ _) | (with_reducible refine Below.drew ?_) | (with_reducible refine Below.alloc ?_ ?hh _; case hh => first | (simp; done) | (simp; omega) | omega) | (with_reducible refine Below.setCell ?_ ?hh _; case hh => first | (simp; done) | (simp; omega) | omega) | refine bstep (by assumption) (by first | (simp; done) | (simp; omega) | omega) ?_)⟩
set_option maxHeartbeats 4000000 in
set_option maxRecDepth 100000 in
theorem eqPlanS_step {D d : Nat} (hS : EqP D d) : EqP D (d + 1) := by
  intro v u ps F F' w hr hu
  obtain ⟨a, c, b, o, G, rfl, hl, hc, hG, _, ha⟩ := hr.pick
  obtain ⟨a', c', b', o', G', rfl, hl', hc', hG', _, ha'⟩ := hu.pick
  unfold maxLen at hc hc'
  clear hr hu
  go_enter Tryz.func61, Tryz.ntmps61
  go_wp2
  go_loopw [5] (fun i wr => ∃ k : Nat, k ≤ ps.length ∧ i = .int .i64 k ∧ Below w.heap.size w wr) (fun i _ => ps.length - (intOf i).toNat)
  case atStart => exact ⟨0, Nat.zero_le _, rfl, by go_grown⟩
  case round =>
    obtain ⟨k, hk, rfl, hb⟩ := hrel
    by_cases hlt : k < ps.length
    · have hzb := hb.size
      obtain ⟨rfl, hblt, _, hL⟩ := ha k hlt
      obtain ⟨rfl, hblt', _, hL'⟩ := ha' k hlt
      obtain ⟨x, g, ue, us, u, hx, _, _, ⟨c0, c1, c2, c3, c4, c5, c6, c7, c8, c9, c10, c11⟩, hLx, hbr⟩ := hL.at hG hblt hb hlt
      obtain ⟨x', g', ue', us', u', hx', _, _, ⟨d0, d1, d2, d3, d4, d5, d6, d7, d8, d9, d10, d11⟩, hLx', hbr'⟩ := hL'.at hG' hblt' hb hlt
      obtain rfl : x = x' := by rw [hx] at hx'; exact Option.some.inj hx'
      clear ha ha' hL hL' hx hx'
      go_wp2_with fail
      go_region_with (first | (go_at_call 41; refine (eqPlan_of hS x ue us u ue' us' u' _ _ _ (hLx.below (by repeat (first | (with_reducible exact Below.refl _ _) | (with_reducible refine Below.drew ?_) | (with_reducible refine Below.alloc ?_ ?hh _; case hh => first | (simp; done) | (simp; omega) | omega) | (with_reducible refine Below.setCell ?_ ?hh _; case hh => first | (simp; done) | (simp; omega) | omega) | refine bstep (by assumption) (by first | (simp; done) | (simp; omega) | omega) ?_))) (hLx'.below (by repeat (first | (with_reducible exact Below.refl _ _) | (with_reducible refine Below.drew ?_) | (with_reducible refine Below.alloc ?_ ?hh _; case hh => first | (simp; done) | (simp; omega) | omega) | (with_reducible refine Below.setCell ?_ ?hh _; case hh => first | (simp; done) | (simp; omega) | omega) | refine bstep (by assumption) (by first | (simp; done) | (simp; omega) | omega) ?_)))).mono ?_; rintro e w1 ⟨rfl, hb1⟩))
      all_goals (go_wp2; exact ⟨⟨k + 1, hlt, by simp, by repeat (first | (with_reducible exact Below.refl _ _) | (with_reducible refine Below.drew ?_) | (with_reducible refine Below.alloc ?_ ?hh _; case hh => first | (simp; done) | (simp; omega) | omega) | (with_reducible refine Below.setCell ?_ ?hh _; case hh => first | (simp; done) | (simp; omega) | omega) | refine bstep (by assumption) (by first | (simp; done) | (simp; omega) | omega) ?_)⟩, by simp [intOf]; omega⟩)
    · go_wp2
      go_returns
      exact ⟨rfl, hb⟩
theorem eqPlanS_any (D : Nat) : ∀ d, EqP D d
  | 0 => fun _ _ _ _ _ _ h => h.elim
  | d + 1 => eqPlanS_step (eqPlanS_any D d)
end Go.Proofs.YtaeibfipcenhaaaGreatDoor
namespace Go.Proofs.YtaeibfipcenhaaaGreatDoor
open Go.RowKit Go.Deep
set_option linter.unusedVariables false
theorem Tryz.infoPlan : (Tryz.prog.info? 62).map (fun i => (i.zero, i.size, i.bytes)) = some (some (.agg #[.int .i64 0, .string ⟨#[]⟩, .int .i64 0, .int .i64 0, .int .i64 0, .int .i64 0, .string ⟨#[]⟩, .string ⟨#[]⟩, .slice none 0 0, .slice none 0 0, .int .i64 0, .slice none 0 0]), 12, 168) := by kernel_rfl
/-- twelve cells are written. -/
theorem row_set12 {w : World} {B t n : Nat} {f : Nat → Value} (h : w.rowIs B t n f) (q : Nat) (v0 v1 v2 v3 v4 v5 v6 v7 v8 v9 v10 v11 : Value) :
    ∃ f', ((((((((((((w.setCell ⟨B, q, none⟩ (v0)).setCell ⟨B, q + 1, none⟩ (v1)).setCell ⟨B, q + 2, none⟩ (v2)).setCell ⟨B, q + 3, none⟩ (v3)).setCell ⟨B, q + 4, none⟩ (v4)).setCell ⟨B, q + 5, none⟩ (v5)).setCell ⟨B, q + 6, none⟩ (v6)).setCell ⟨B, q + 7, none⟩ (v7)).setCell ⟨B, q + 8, none⟩ (v8)).setCell ⟨B, q + 9, none⟩ (v9)).setCell ⟨B, q + 10, none⟩ (v10)).setCell ⟨B, q + 11, none⟩ (v11)).rowIs B t n f' ∧ (f' q = v0 ∧ f' (q + 1) = v1 ∧ f' (q + 2) = v2 ∧ f' (q + 3) = v3 ∧ f' (q + 4) = v4 ∧ f' (q + 5) = v5 ∧ f' (q + 6) = v6 ∧ f' (q + 7) = v7 ∧ f' (q + 8) = v8 ∧ f' (q + 9) = v9 ∧ f' (q + 10) = v10 ∧ f' (q + 11) = v11) ∧ ∀ x, x < q ∨ q + 12 ≤ x → f' x = f x := by
  refine ⟨_, (((((((((((h.set _ _).set _ _).set _ _).set _ _).set _ _).set _ _).set _ _).set _ _).set _ _).set _ _).set _ _).set _ _, ?_, fun x hx => ?_⟩
  · refine ⟨?_, ?_, ?_, ?_, ?_, ?_, ?_, ?_, ?_, ?_, ?_, ?_⟩ <;> simp
  · have e : ∀ j, j < 12 → x ≠ q + j := by intro j hj; omega
    have e0 : x ≠ q := by omega
    simp only [if_neg e0, if_neg (e 1 (by omega)), if_neg (e 2 (by omega)), if_neg (e 3 (by omega)), if_neg (e 4 (by omega)), if_neg (e 5 (by omega)), if_neg (e 6 (by omega)), if_neg (e 7 (by omega)), if_neg (e 8 (by omega)), if_neg (e 9 (by omega)), if_neg (e 10 (by omega)), if_neg (e 11 (by omega))]
theorem blk_set12 (w : World) (B q b : Nat) (v0 v1 v2 v3 v4 v5 v6 v7 v8 v9 v10 v11 : Value) (hb : b ≠ B) : ((((((((((((w.setCell ⟨B, q, none⟩ (v0)).setCell ⟨B, q + 1, none⟩ (v1)).setCell ⟨B, q + 2, none⟩ (v2)).setCell ⟨B, q + 3, none⟩ (v3)).setCell ⟨B, q + 4, none⟩ (v4)).setCell ⟨B, q + 5, none⟩ (v5)).setCell ⟨B, q + 6, none⟩ (v6)).setCell ⟨B, q + 7, none⟩ (v7)).setCell ⟨B, q + 8, none⟩ (v8)).setCell ⟨B, q + 9, none⟩ (v9)).setCell ⟨B, q + 10, none⟩ (v10)).setCell ⟨B, q + 11, none⟩ (v11)).heap[b]? = w.heap[b]? := by
  repeat rw [Below.heap_setCell _ _ _ _ hb]
/-- the cells of a plan in a row of the call's own. -/
def rowP (f : Nat → Value) (q : Nat) (p : P12) (ue us u : Value) : Prop := f (q) = .int .i64 p.k ∧ f (q + 1) = .string p.s ∧ f (q + 2) = .int .i64 p.e.k ∧ f (q + 3) = .int .i64 p.e.n ∧ f (q + 4) = .int .i64 p.e.v.k ∧ f (q + 5) = .int .i64 p.e.v.n ∧ f (q + 6) = .string p.e.v.s ∧ f (q + 7) = .string p.e.p ∧ f (q + 8) = ue ∧ f (q + 9) = us ∧ f (q + 10) = .int .i64 p.n ∧ f (q + 11) = u
/-- plans of the call's own: block B has them, the first k are laid; G: the blocks of their lists. -/
structure HalfP (w : World) (D d B : Nat) (ps : List P12) (G : List (List Nat)) (k : Nat) : Prop where
  row : ∃ f, w.rowIs B 62 (ps.length * 12) f ∧ ∀ i p, i < k → ps[i]? = some p → p.wf ∧ ∃ ue us u g, rowP f (i * 12) p ue us u ∧ G[i]? = some g ∧ ListsP w D (PlansIs w D d) p ue us u g
  len : G.length = k
  own : Own w (B + 1) G.flatten
theorem HalfP.lt {w : World} {D d B : Nat} {ps : List P12} {G : List (List Nat)} {k : Nat} (h : HalfP w D d B ps G k) (hk : k ≤ ps.length) : ∀ b ∈ G.flatten, b < w.heap.size := by
  obtain ⟨⟨f, hf, he⟩, hl, _⟩ := h
  intro b hb
  obtain ⟨g, hg, hbg⟩ := List.mem_flatten.1 hb
  obtain ⟨i, hi, rfl⟩ := List.mem_iff_getElem.1 hg
  have hi' : i < ps.length := by omega
  obtain ⟨_, ue, us, u, g, _, hg, hK⟩ := he i ps[i] (by omega) (by simp)
  have : G[i] = g := by simpa [hi] using hg
  exact hK.lt b (this ▸ hbg)
theorem HalfP.cells {w : World} {D d B : Nat} {ps : List P12} {G : List (List Nat)} {k : Nat} (h : HalfP w D d B ps G k) (hk : k < ps.length) :
    (∃ u, w.cell? ⟨B, k * 12, none⟩ = some u) ∧ (∃ u, w.cell? ⟨B, k * 12 + 1, none⟩ = some u) ∧ (∃ u, w.cell? ⟨B, k * 12 + 2, none⟩ = some u) ∧ (∃ u, w.cell? ⟨B, k * 12 + 3, none⟩ = some u) ∧ (∃ u, w.cell? ⟨B, k * 12 + 4, none⟩ = some u) ∧ (∃ u, w.cell? ⟨B, k * 12 + 5, none⟩ = some u) ∧ (∃ u, w.cell? ⟨B, k * 12 + 6, none⟩ = some u) ∧ (∃ u, w.cell? ⟨B, k * 12 + 7, none⟩ = some u) ∧ (∃ u, w.cell? ⟨B, k * 12 + 8, none⟩ = some u) ∧ (∃ u, w.cell? ⟨B, k * 12 + 9, none⟩ = some u) ∧ (∃ u, w.cell? ⟨B, k * 12 + 10, none⟩ = some u) ∧ (∃ u, w.cell? ⟨B, k * 12 + 11, none⟩ = some u) ∧ (∀ i, w.frozen? ⟨B, i, none⟩ = false) ∧ B < w.heap.size := by
  obtain ⟨f, h, _⟩ := h.row
  exact ⟨⟨_, h.cell (by omega)⟩, ⟨_, h.cell (by omega)⟩, ⟨_, h.cell (by omega)⟩, ⟨_, h.cell (by omega)⟩, ⟨_, h.cell (by omega)⟩, ⟨_, h.cell (by omega)⟩, ⟨_, h.cell (by omega)⟩, ⟨_, h.cell (by omega)⟩, ⟨_, h.cell (by omega)⟩, ⟨_, h.cell (by omega)⟩, ⟨_, h.cell (by omega)⟩, ⟨_, h.cell (by omega)⟩, fun i => h.frozen i, h.lt⟩
theorem HalfP.keep {w w' : World} {D d B : Nat} {ps : List P12} {G : List (List Nat)} {k : Nat} (h : HalfP w D d B ps G k) (hs : w.heap.size ≤ w'.heap.size) (hB : w'.heap[B]? = w.heap[B]?) (hF : ∀ b ∈ G.flatten, w'.heap[b]? = w.heap[b]?) : HalfP w' D d B ps G k := by
  obtain ⟨⟨f, hf, he⟩, hl, ho⟩ := h
  refine ⟨⟨f, hf.of_block hB, fun i p hi hx => ?_⟩, hl, ho.keep hF⟩
  obtain ⟨h0, ue, us, u, g, hr, hg, hK⟩ := he i p hi hx
  exact ⟨h0, ue, us, u, g, hr, hg, hK.keep hs fun b hb => hF b (List.mem_flatten.2 ⟨g, List.mem_of_getElem? hg, hb⟩)⟩
theorem HalfP.below {w w' : World} {D d B : Nat} {ps : List P12} {G : List (List Nat)} {k : Nat} (h : HalfP w D d B ps G k) (hk : k ≤ ps.length) (hb : Below w.heap.size w w') : HalfP w' D d B ps G k := by
  have hB : B < w.heap.size := by obtain ⟨f, hf, _⟩ := h.row; exact hf.lt
  exact h.keep hb.size (hb.block B hB) fun b hF => hb.block b (h.lt hk b hF)
theorem HalfP.step {w : World} {D d B : Nat} {ps : List P12} {G : List (List Nat)} {k : Nat} {p : P12} {ue us u : Value} {g : List Nat} (h : HalfP w D d B ps G k) (hk : k ≤ ps.length) (hx : ps[k]? = some p) (hw : p.wf) (hK : ListsP w D (PlansIs w D d) p ue us u g) (hB : Own w (B + 1) g) (hd : ∀ b ∈ G.flatten, b ∉ g) :
    HalfP ((((((((((((w.setCell ⟨B, k * 12, none⟩ (.int .i64 p.k)).setCell ⟨B, k * 12 + 1, none⟩ (.string p.s)).setCell ⟨B, k * 12 + 2, none⟩ (.int .i64 p.e.k)).setCell ⟨B, k * 12 + 3, none⟩ (.int .i64 p.e.n)).setCell ⟨B, k * 12 + 4, none⟩ (.int .i64 p.e.v.k)).setCell ⟨B, k * 12 + 5, none⟩ (.int .i64 p.e.v.n)).setCell ⟨B, k * 12 + 6, none⟩ (.string p.e.v.s)).setCell ⟨B, k * 12 + 7, none⟩ (.string p.e.p)).setCell ⟨B, k * 12 + 8, none⟩ (ue)).setCell ⟨B, k * 12 + 9, none⟩ (us)).setCell ⟨B, k * 12 + 10, none⟩ (.int .i64 p.n)).setCell ⟨B, k * 12 + 11, none⟩ (u)) D d B ps (G ++ [g]) (k + 1) := by
  have hlt := h.lt hk
  obtain ⟨⟨f, hf, he⟩, hl, ho⟩ := h
  obtain ⟨f', hf', hnew, hold⟩ := row_set12 hf (k * 12) (.int .i64 p.k) (.string p.s) (.int .i64 p.e.k) (.int .i64 p.e.n) (.int .i64 p.e.v.k) (.int .i64 p.e.v.n) (.string p.e.v.s) (.string p.e.p) (ue) (us) (.int .i64 p.n) (u)
  have hblk : ∀ b, B + 1 ≤ b → ((((((((((((w.setCell ⟨B, k * 12, none⟩ (.int .i64 p.k)).setCell ⟨B, k * 12 + 1, none⟩ (.string p.s)).setCell ⟨B, k * 12 + 2, none⟩ (.int .i64 p.e.k)).setCell ⟨B, k * 12 + 3, none⟩ (.int .i64 p.e.n)).setCell ⟨B, k * 12 + 4, none⟩ (.int .i64 p.e.v.k)).setCell ⟨B, k * 12 + 5, none⟩ (.int .i64 p.e.v.n)).setCell ⟨B, k * 12 + 6, none⟩ (.string p.e.v.s)).setCell ⟨B, k * 12 + 7, none⟩ (.string p.e.p)).setCell ⟨B, k * 12 + 8, none⟩ (ue)).setCell ⟨B, k * 12 + 9, none⟩ (us)).setCell ⟨B, k * 12 + 10, none⟩ (.int .i64 p.n)).setCell ⟨B, k * 12 + 11, none⟩ (u)).heap[b]? = w.heap[b]? := fun b hb => blk_set12 w B (k * 12) b _ _ _ _ _ _ _ _ _ _ _ _ (by omega)
  have hsz : w.heap.size ≤ ((((((((((((w.setCell ⟨B, k * 12, none⟩ (.int .i64 p.k)).setCell ⟨B, k * 12 + 1, none⟩ (.string p.s)).setCell ⟨B, k * 12 + 2, none⟩ (.int .i64 p.e.k)).setCell ⟨B, k * 12 + 3, none⟩ (.int .i64 p.e.n)).setCell ⟨B, k * 12 + 4, none⟩ (.int .i64 p.e.v.k)).setCell ⟨B, k * 12 + 5, none⟩ (.int .i64 p.e.v.n)).setCell ⟨B, k * 12 + 6, none⟩ (.string p.e.v.s)).setCell ⟨B, k * 12 + 7, none⟩ (.string p.e.p)).setCell ⟨B, k * 12 + 8, none⟩ (ue)).setCell ⟨B, k * 12 + 9, none⟩ (us)).setCell ⟨B, k * 12 + 10, none⟩ (.int .i64 p.n)).setCell ⟨B, k * 12 + 11, none⟩ (u)).heap.size := by simp
  refine ⟨⟨f', hf', fun i y hi hy => ?_⟩, by simp [hl], ?_⟩
  · by_cases ei : i = k
    · subst ei
      obtain rfl : y = p := by rw [hx] at hy; exact (Option.some.inj hy).symm
      refine ⟨hw, ue, us, u, g, hnew, ?_, hK.keep hsz fun b hb => hblk b (hB.2 b hb).1⟩
      rw [List.getElem?_append_right (by omega)]; simp [hl]
    · obtain ⟨a0, ue', us', u', g', hr, hg', hK'⟩ := he i y (by omega) hy
      refine ⟨a0, ue', us', u', g', ?_, ?_, hK'.keep hsz fun b hb => hblk b (ho.2 b (List.mem_flatten.2 ⟨g', List.mem_of_getElem? hg', hb⟩)).1⟩
      · unfold rowP at hr ⊢
        rw [hold _ (by omega), hold _ (by omega), hold _ (by omega), hold _ (by omega), hold _ (by omega), hold _ (by omega), hold _ (by omega), hold _ (by omega), hold _ (by omega), hold _ (by omega), hold _ (by omega), hold _ (by omega)]
        exact hr
      · rw [List.getElem?_append_left (by omega)]; exact hg'
  · have hm : ∀ b ∈ (G ++ [g]).flatten, b ∈ G.flatten ∨ b ∈ g := by intro b hb; simpa using hb
    refine Own.keep (w := w) ⟨?_, fun b hb => (hm b hb).elim (ho.2 b) (hB.2 b)⟩ fun b hb => hblk b ((hm b hb).elim (fun h => (ho.2 b h).1) (fun h => (hB.2 b h).1))
    rw [List.flatten_append, List.nodup_append]
    refine ⟨ho.1, by simpa using hB.1, fun a ha b hb => ?_⟩
    rintro rfl
    exact hd a ha (by simpa using hb)
theorem HalfP.plans {w : World} {D d B : Nat} {ps : List P12} {G : List (List Nat)} (h : HalfP w D d B ps G ps.length) (hm : ps.length ≤ maxLen) (hne : ps ≠ []) :
    PlansIs w D (d + 1) (.slice (some ⟨B, 0, none⟩) ps.length ps.length) ps (B :: G.flatten) ∧ Own w B (B :: G.flatten) := by
  obtain ⟨⟨f, hf, he⟩, hl, ho⟩ := h
  refine ⟨⟨_, _, G, rfl, Nat.le_refl _, hm, hl, fun h => absurd h hne, fun _ => ⟨B, 0, rfl, hf.lt, rfl, fun i e g hx hg => ?_⟩⟩, ?_, fun b hb => ?_⟩
  · have hi : i < ps.length := (List.getElem?_eq_some_iff.1 hx).1
    obtain ⟨a0, ue, us, u, g', ⟨r0, r1, r2, r3, r4, r5, r6, r7, r8, r9, r10, r11⟩, hg', hK⟩ := he i e hi hx
    obtain rfl : g = g' := by rw [hg] at hg'; exact Option.some.inj hg'
    rw [Nat.zero_add]
    exact ⟨a0, ue, us, u, ⟨by rw [hf.cell (by omega), r0], by rw [hf.cell (by omega), r1], by rw [hf.cell (by omega), r2], by rw [hf.cell (by omega), r3], by rw [hf.cell (by omega), r4], by rw [hf.cell (by omega), r5], by rw [hf.cell (by omega), r6], by rw [hf.cell (by omega), r7], by rw [hf.cell (by omega), r8], by rw [hf.cell (by omega), r9], by rw [hf.cell (by omega), r10], by rw [hf.cell (by omega), r11]⟩, hK⟩
  · refine List.nodup_cons.2 ⟨fun h => ?_, ho.1⟩
    have := (ho.2 B h).1
    omega
  · rcases List.mem_cons.1 hb with rfl | hb
    · exact ⟨Nat.le_refl _, fun o => hf.frozen o⟩
    · exact ⟨Nat.le_of_succ_le (ho.2 b hb).1, (ho.2 b hb).2⟩
theorem halfP_made (w : World) (z : Array Value) (D d : Nat) (ps : List P12) : HalfP (w.alloc (.cells (madeCells z (ps.length * 12)) 62)) D d w.heap.size ps [] 0 :=
  ⟨⟨fun i => (madeCells z (ps.length * 12))[i]?.getD undef, ⟨_, blk_alloc_new _ _, size_madeCells _ _, fun i hi => by
    have : i < (madeCells z (ps.length * 12)).size := by rw [size_madeCells]; exact hi
    simp [this]⟩, fun i x hi => by omega⟩, rfl, by simp [Own, OwnN]⟩
/-- toPlanS at kids that are at most d deep. -/
def ToPS (D d : Nat) : Prop := ∀ (v : Value) (ps : List P12) (F : List Nat) (w : World), PlansIs w D d v ps F → ps.length + wtPs ps ≤ 1048576 →
    Calls Tryz.prog 53 #[v] w fun e w' => (∃ u F', e = .returned u ∧ PlansIs w' D d u ps F' ∧ Own w' w.heap.size F') ∧ Below w.heap.size w w'
set_option maxHeartbeats 4000000 in
set_option maxRecDepth 100000 in
theorem toPlan_of {D d : Nat} (hS : ToPS D d) (p : P12) (ue us u : Value) (g : List Nat) (w : World) (hL : ListsP w D (PlansIs w D d) p ue us u g) (hn : wtP p ≤ 1048576) :
    Calls Tryz.prog 33 #[(.agg #[.int .i64 p.k, .string p.s, .int .i64 p.e.k, .int .i64 p.e.n, .int .i64 p.e.v.k, .int .i64 p.e.v.n, .string p.e.v.s, .string p.e.p, ue, us, .int .i64 p.n, u])] w fun x w' => (∃ ue' us' u' g', x = .returned (.agg #[.int .i64 p.k, .string p.s, .int .i64 p.e.k, .int .i64 p.e.n, .int .i64 p.e.v.k, .int .i64 p.e.v.n, .string p.e.v.s, .string p.e.p, ue', us', .int .i64 p.n, u']) ∧ ListsP w' D (PlansIs w' D d) p ue' us' u' g' ∧ Own w' w.heap.size g') ∧ Below w.heap.size w w' := by
  obtain ⟨ae, ce, ak, ck, a, c, rfl, rfl, rfl, _, _, _, _, _, _⟩ := hL.shape
  obtain ⟨Fe, Fs, h', rfl, ke, kes, kp⟩ := hL
  rw [wtP_eq] at hn
  go_enter Tryz.func33, Tryz.ntmps33
  go_wp2_with fail
  refine Calls.mono (toExp_any p.e (.slice ae p.e.ks.length ce) Fe _ (ke.below ?hb) (by omega)) ?_
  case hb => repeat (first | (with_reducible exact Below.refl _ _) | (with_reducible refine Below.drew ?_) | (with_reducible refine Below.alloc ?_ ?hh _; case hh => first | (simp; done) | (simp; omega) | omega) | (with_reducible refine Below.setCell ?_ ?hh _; case hh => first | (simp; done) | (simp; omega) | omega) | refine bstep (by assumption) (by first | (simp; done) | (simp; omega) | omega) ?_)
  rintro x w1 ⟨⟨u1, F1, rfl, hK1, hO1⟩, hb1⟩
  have hz1 := hb1.size
  simp only [World.size_alloc] at hz1 hO1
  try simp only [World.size_setCell] at hz1 hO1
  have hf1 := (bcell hb1).2
  obtain ⟨a1, c1, rfl, _⟩ := hK1.shape
  have hy2 : w.heap.size + 1 + 1 < w1.heap.size := by omega
  have hy1 : w.heap.size + 1 < w1.heap.size := by omega
  have hy0 : w.heap.size < w1.heap.size := by omega
  have c9_1 : w1.cell? ⟨w.heap.size, 9, none⟩ = some (.slice ak p.es.length ck) := cell_later hb1 (by go_simp)
  have c10_1 : w1.cell? ⟨w.heap.size, 10, none⟩ = some (.int .i64 p.n) := cell_later hb1 (by go_simp)
  have c11_1 : w1.cell? ⟨w.heap.size, 11, none⟩ = some (.slice a p.ks.length c) := cell_later hb1 (by go_simp)
  have r0_1 : w1.cell? ⟨w.heap.size + 1, 0, none⟩ = some (.int .i64 0) := cell_later hb1 (by go_simp)
  have r1_1 : w1.cell? ⟨w.heap.size + 1, 1, none⟩ = some (.string ⟨#[]⟩) := cell_later hb1 (by go_simp)
  have r2_1 : w1.cell? ⟨w.heap.size + 1, 2, none⟩ = some (.int .i64 0) := cell_later hb1 (by go_simp)
  have r3_1 : w1.cell? ⟨w.heap.size + 1, 3, none⟩ = some (.int .i64 0) := cell_later hb1 (by go_simp)
  have r4_1 : w1.cell? ⟨w.heap.size + 1, 4, none⟩ = some (.int .i64 0) := cell_later hb1 (by go_simp)
  have r5_1 : w1.cell? ⟨w.heap.size + 1, 5, none⟩ = some (.int .i64 0) := cell_later hb1 (by go_simp)
  have r6_1 : w1.cell? ⟨w.heap.size + 1, 6, none⟩ = some (.string ⟨#[]⟩) := cell_later hb1 (by go_simp)
  have r7_1 : w1.cell? ⟨w.heap.size + 1, 7, none⟩ = some (.string ⟨#[]⟩) := cell_later hb1 (by go_simp)
  have r8_1 : w1.cell? ⟨w.heap.size + 1, 8, none⟩ = some (.slice none 0 0) := cell_later hb1 (by go_simp)
  have r9_1 : w1.cell? ⟨w.heap.size + 1, 9, none⟩ = some (.slice none 0 0) := cell_later hb1 (by go_simp)
  have r10_1 : w1.cell? ⟨w.heap.size + 1, 10, none⟩ = some (.int .i64 0) := cell_later hb1 (by go_simp)
  have r11_1 : w1.cell? ⟨w.heap.size + 1, 11, none⟩ = some (.slice none 0 0) := cell_later hb1 (by go_simp)
  have t0_1 : w1.cell? ⟨w.heap.size + 1 + 1, 0, none⟩ = some (.int .i64 p.k) := cell_later hb1 (by go_simp)
  have t1_1 : w1.cell? ⟨w.heap.size + 1 + 1, 1, none⟩ = some (.string p.s) := cell_later hb1 (by go_simp)
  have t2_1 : w1.cell? ⟨w.heap.size + 1 + 1, 2, none⟩ = some (.int .i64 0) := cell_later hb1 (by go_simp)
  have t3_1 : w1.cell? ⟨w.heap.size + 1 + 1, 3, none⟩ = some (.int .i64 0) := cell_later hb1 (by go_simp)
  have t4_1 : w1.cell? ⟨w.heap.size + 1 + 1, 4, none⟩ = some (.int .i64 0) := cell_later hb1 (by go_simp)
  have t5_1 : w1.cell? ⟨w.heap.size + 1 + 1, 5, none⟩ = some (.int .i64 0) := cell_later hb1 (by go_simp)
  have t6_1 : w1.cell? ⟨w.heap.size + 1 + 1, 6, none⟩ = some (.string ⟨#[]⟩) := cell_later hb1 (by go_simp)
  have t7_1 : w1.cell? ⟨w.heap.size + 1 + 1, 7, none⟩ = some (.string ⟨#[]⟩) := cell_later hb1 (by go_simp)
  have t8_1 : w1.cell? ⟨w.heap.size + 1 + 1, 8, none⟩ = some (.slice none 0 0) := cell_later hb1 (by go_simp)
  have t9_1 : w1.cell? ⟨w.heap.size + 1 + 1, 9, none⟩ = some (.slice none 0 0) := cell_later hb1 (by go_simp)
  have t10_1 : w1.cell? ⟨w.heap.size + 1 + 1, 10, none⟩ = some (.int .i64 0) := cell_later hb1 (by go_simp)
  have t11_1 : w1.cell? ⟨w.heap.size + 1 + 1, 11, none⟩ = some (.slice none 0 0) := cell_later hb1 (by go_simp)
  have bel1 : Below w.heap.size w w1 := by repeat (first | (with_reducible exact Below.refl _ _) | (with_reducible refine Below.drew ?_) | (with_reducible refine Below.alloc ?_ ?hh _; case hh => first | (simp; done) | (simp; omega) | omega) | (with_reducible refine Below.setCell ?_ ?hh _; case hh => first | (simp; done) | (simp; omega) | omega) | refine bstep (by assumption) (by first | (simp; done) | (simp; omega) | omega) ?_)
  clear hb1
  go_wp2_with fail
  refine Calls.mono (toExpS_any D (.slice ak p.es.length ck) p.es Fs _ (kes.below ?hb) (by omega)) ?_
  case hb => repeat (first | (with_reducible exact bel1) | (with_reducible refine Below.setCell ?_ ?hh _; case hh => (simp; try omega)))
  rintro x w2 ⟨⟨u2, F2, rfl, hK2, hO2⟩, hb2⟩
  have hK12 := KidsIs.below (KidsIs.keep (w' := (((((((w1.setCell ⟨w.heap.size + 1 + 1, 2, none⟩ (.int .i64 p.e.k)).setCell ⟨w.heap.size + 1 + 1, 3, none⟩ (.int .i64 p.e.n)).setCell ⟨w.heap.size + 1 + 1, 4, none⟩ (.int .i64 p.e.v.k)).setCell ⟨w.heap.size + 1 + 1, 5, none⟩ (.int .i64 p.e.v.n)).setCell ⟨w.heap.size + 1 + 1, 6, none⟩ (.string p.e.v.s)).setCell ⟨w.heap.size + 1 + 1, 7, none⟩ (.string p.e.p)).setCell ⟨w.heap.size + 1 + 1, 8, none⟩ (.slice a1 p.e.ks.length c1))) (by simp) hK1 (fun b hb => by have := (hO1.2 b hb).1; repeat rw [Below.heap_setCell _ _ _ _ (by simp; try omega)])) hb2
  have hO12 := Own.below (Own.keep (w' := (((((((w1.setCell ⟨w.heap.size + 1 + 1, 2, none⟩ (.int .i64 p.e.k)).setCell ⟨w.heap.size + 1 + 1, 3, none⟩ (.int .i64 p.e.n)).setCell ⟨w.heap.size + 1 + 1, 4, none⟩ (.int .i64 p.e.v.k)).setCell ⟨w.heap.size + 1 + 1, 5, none⟩ (.int .i64 p.e.v.n)).setCell ⟨w.heap.size + 1 + 1, 6, none⟩ (.string p.e.v.s)).setCell ⟨w.heap.size + 1 + 1, 7, none⟩ (.string p.e.p)).setCell ⟨w.heap.size + 1 + 1, 8, none⟩ (.slice a1 p.e.ks.length c1))) hO1 (fun b hb => by have := (hO1.2 b hb).1; repeat rw [Below.heap_setCell _ _ _ _ (by simp; try omega)])) (fun b hb => by have := hK1.lt b hb; simpa using this) hb2
  have hF1 : ∀ b ∈ F1, b < w1.heap.size := hK1.lt
  have hz2 := hb2.size
  simp only [World.size_setCell] at hz2 hO2
  have hf2 := (bcell hb2).2
  obtain ⟨a2, c2, rfl, _⟩ := hK2.shape
  have hy5 : w.heap.size + 1 + 1 < w2.heap.size := by omega
  have hy4 : w.heap.size + 1 < w2.heap.size := by omega
  have hy3 : w.heap.size < w2.heap.size := by omega
  have c10_2 : w2.cell? ⟨w.heap.size, 10, none⟩ = some (.int .i64 p.n) := cell_later hb2 (by go_simp)
  have c11_2 : w2.cell? ⟨w.heap.size, 11, none⟩ = some (.slice a p.ks.length c) := cell_later hb2 (by go_simp)
  have r0_2 : w2.cell? ⟨w.heap.size + 1, 0, none⟩ = some (.int .i64 0) := cell_later hb2 (by go_simp)
  have r1_2 : w2.cell? ⟨w.heap.size + 1, 1, none⟩ = some (.string ⟨#[]⟩) := cell_later hb2 (by go_simp)
  have r2_2 : w2.cell? ⟨w.heap.size + 1, 2, none⟩ = some (.int .i64 0) := cell_later hb2 (by go_simp)
  have r3_2 : w2.cell? ⟨w.heap.size + 1, 3, none⟩ = some (.int .i64 0) := cell_later hb2 (by go_simp)
  have r4_2 : w2.cell? ⟨w.heap.size + 1, 4, none⟩ = some (.int .i64 0) := cell_later hb2 (by go_simp)
  have r5_2 : w2.cell? ⟨w.heap.size + 1, 5, none⟩ = some (.int .i64 0) := cell_later hb2 (by go_simp)
  have r6_2 : w2.cell? ⟨w.heap.size + 1, 6, none⟩ = some (.string ⟨#[]⟩) := cell_later hb2 (by go_simp)
  have r7_2 : w2.cell? ⟨w.heap.size + 1, 7, none⟩ = some (.string ⟨#[]⟩) := cell_later hb2 (by go_simp)
  have r8_2 : w2.cell? ⟨w.heap.size + 1, 8, none⟩ = some (.slice none 0 0) := cell_later hb2 (by go_simp)
  have r9_2 : w2.cell? ⟨w.heap.size + 1, 9, none⟩ = some (.slice none 0 0) := cell_later hb2 (by go_simp)
  have r10_2 : w2.cell? ⟨w.heap.size + 1, 10, none⟩ = some (.int .i64 0) := cell_later hb2 (by go_simp)
  have r11_2 : w2.cell? ⟨w.heap.size + 1, 11, none⟩ = some (.slice none 0 0) := cell_later hb2 (by go_simp)
  have t0_2 : w2.cell? ⟨w.heap.size + 1 + 1, 0, none⟩ = some (.int .i64 p.k) := cell_later hb2 (by go_simp)
  have t1_2 : w2.cell? ⟨w.heap.size + 1 + 1, 1, none⟩ = some (.string p.s) := cell_later hb2 (by go_simp)
  have t2_2 : w2.cell? ⟨w.heap.size + 1 + 1, 2, none⟩ = some (.int .i64 p.e.k) := cell_later hb2 (by go_simp)
  have t3_2 : w2.cell? ⟨w.heap.size + 1 + 1, 3, none⟩ = some (.int .i64 p.e.n) := cell_later hb2 (by go_simp)
  have t4_2 : w2.cell? ⟨w.heap.size + 1 + 1, 4, none⟩ = some (.int .i64 p.e.v.k) := cell_later hb2 (by go_simp)
  have t5_2 : w2.cell? ⟨w.heap.size + 1 + 1, 5, none⟩ = some (.int .i64 p.e.v.n) := cell_later hb2 (by go_simp)
  have t6_2 : w2.cell? ⟨w.heap.size + 1 + 1, 6, none⟩ = some (.string p.e.v.s) := cell_later hb2 (by go_simp)
  have t7_2 : w2.cell? ⟨w.heap.size + 1 + 1, 7, none⟩ = some (.string p.e.p) := cell_later hb2 (by go_simp)
  have t8_2 : w2.cell? ⟨w.heap.size + 1 + 1, 8, none⟩ = some (.slice a1 p.e.ks.length c1) := cell_later hb2 (by go_simp)
  have t9_2 : w2.cell? ⟨w.heap.size + 1 + 1, 9, none⟩ = some (.slice none 0 0) := cell_later hb2 (by go_simp)
  have t10_2 : w2.cell? ⟨w.heap.size + 1 + 1, 10, none⟩ = some (.int .i64 0) := cell_later hb2 (by go_simp)
  have t11_2 : w2.cell? ⟨w.heap.size + 1 + 1, 11, none⟩ = some (.slice none 0 0) := cell_later hb2 (by go_simp)
  have bel2 : Below w.heap.size w w2 := (by repeat (first | (with_reducible exact bel1) | (with_reducible refine Below.setCell ?_ ?hh _; case hh => (simp; try omega))) : Below w.heap.size w (((((((w1.setCell ⟨w.heap.size + 1 + 1, 2, none⟩ (.int .i64 p.e.k)).setCell ⟨w.heap.size + 1 + 1, 3, none⟩ (.int .i64 p.e.n)).setCell ⟨w.heap.size + 1 + 1, 4, none⟩ (.int .i64 p.e.v.k)).setCell ⟨w.heap.size + 1 + 1, 5, none⟩ (.int .i64 p.e.v.n)).setCell ⟨w.heap.size + 1 + 1, 6, none⟩ (.string p.e.v.s)).setCell ⟨w.heap.size + 1 + 1, 7, none⟩ (.string p.e.p)).setCell ⟨w.heap.size + 1 + 1, 8, none⟩ (.slice a1 p.e.ks.length c1))).trans (hb2.mono (by simp; omega))
  clear hb2 c9_1 c10_1 c11_1 r0_1 r1_1 r2_1 r3_1 r4_1 r5_1 r6_1 r7_1 r8_1 r9_1 r10_1 r11_1 t0_1 t1_1 t2_1 t3_1 t4_1 t5_1 t6_1 t7_1 t8_1 t9_1 t10_1 t11_1 hK1 hO1
  go_wp2_with fail
  refine Calls.mono (hS (.slice a p.ks.length c) p.ks h' _ (kp.below ?hb) (by omega)) ?_
  case hb => repeat (first | (with_reducible exact bel2) | (with_reducible refine Below.setCell ?_ ?hh _; case hh => (simp; try omega)))
  rintro x w3 ⟨⟨u3, F3, rfl, hK3, hO3⟩, hb3⟩
  have hK13 := KidsIs.below (KidsIs.keep (w' := ((w2.setCell ⟨w.heap.size + 1 + 1, 9, none⟩ (.slice a2 p.es.length c2)).setCell ⟨w.heap.size + 1 + 1, 10, none⟩ (.int .i64 p.n))) (by simp) hK12 (fun b hb => by have := (hO12.2 b hb).1; repeat rw [Below.heap_setCell _ _ _ _ (by simp; try omega)])) hb3
  have hO13 := Own.below (Own.keep (w' := ((w2.setCell ⟨w.heap.size + 1 + 1, 9, none⟩ (.slice a2 p.es.length c2)).setCell ⟨w.heap.size + 1 + 1, 10, none⟩ (.int .i64 p.n))) hO12 (fun b hb => by have := (hO12.2 b hb).1; repeat rw [Below.heap_setCell _ _ _ _ (by simp; try omega)])) (fun b hb => by have := hK12.lt b hb; simpa using this) hb3
  have hK23 := KidsIs.below (KidsIs.keep (w' := ((w2.setCell ⟨w.heap.size + 1 + 1, 9, none⟩ (.slice a2 p.es.length c2)).setCell ⟨w.heap.size + 1 + 1, 10, none⟩ (.int .i64 p.n))) (by simp) hK2 (fun b hb => by have := (hO2.2 b hb).1; repeat rw [Below.heap_setCell _ _ _ _ (by simp; try omega)])) hb3
  have hO23 := Own.below (Own.keep (w' := ((w2.setCell ⟨w.heap.size + 1 + 1, 9, none⟩ (.slice a2 p.es.length c2)).setCell ⟨w.heap.size + 1 + 1, 10, none⟩ (.int .i64 p.n))) hO2 (fun b hb => by have := (hO2.2 b hb).1; repeat rw [Below.heap_setCell _ _ _ _ (by simp; try omega)])) (fun b hb => by have := hK2.lt b hb; simpa using this) hb3
  have hF2 : ∀ b ∈ F2, b < w2.heap.size := hK2.lt
  have hz3 := hb3.size
  simp only [World.size_setCell] at hz3 hO3
  have hf3 := (bcell hb3).2
  obtain ⟨a3, c3, rfl, _⟩ := hK3.shape
  have hy8 : w.heap.size + 1 + 1 < w3.heap.size := by omega
  have hy7 : w.heap.size + 1 < w3.heap.size := by omega
  have r0_3 : w3.cell? ⟨w.heap.size + 1, 0, none⟩ = some (.int .i64 0) := cell_later hb3 (by go_simp)
  have r1_3 : w3.cell? ⟨w.heap.size + 1, 1, none⟩ = some (.string ⟨#[]⟩) := cell_later hb3 (by go_simp)
  have r2_3 : w3.cell? ⟨w.heap.size + 1, 2, none⟩ = some (.int .i64 0) := cell_later hb3 (by go_simp)
  have r3_3 : w3.cell? ⟨w.heap.size + 1, 3, none⟩ = some (.int .i64 0) := cell_later hb3 (by go_simp)
  have r4_3 : w3.cell? ⟨w.heap.size + 1, 4, none⟩ = some (.int .i64 0) := cell_later hb3 (by go_simp)
  have r5_3 : w3.cell? ⟨w.heap.size + 1, 5, none⟩ = some (.int .i64 0) := cell_later hb3 (by go_simp)
  have r6_3 : w3.cell? ⟨w.heap.size + 1, 6, none⟩ = some (.string ⟨#[]⟩) := cell_later hb3 (by go_simp)
  have r7_3 : w3.cell? ⟨w.heap.size + 1, 7, none⟩ = some (.string ⟨#[]⟩) := cell_later hb3 (by go_simp)
  have r8_3 : w3.cell? ⟨w.heap.size + 1, 8, none⟩ = some (.slice none 0 0) := cell_later hb3 (by go_simp)
  have r9_3 : w3.cell? ⟨w.heap.size + 1, 9, none⟩ = some (.slice none 0 0) := cell_later hb3 (by go_simp)
  have r10_3 : w3.cell? ⟨w.heap.size + 1, 10, none⟩ = some (.int .i64 0) := cell_later hb3 (by go_simp)
  have r11_3 : w3.cell? ⟨w.heap.size + 1, 11, none⟩ = some (.slice none 0 0) := cell_later hb3 (by go_simp)
  have t0_3 : w3.cell? ⟨w.heap.size + 1 + 1, 0, none⟩ = some (.int .i64 p.k) := cell_later hb3 (by go_simp)
  have t1_3 : w3.cell? ⟨w.heap.size + 1 + 1, 1, none⟩ = some (.string p.s) := cell_later hb3 (by go_simp)
  have t2_3 : w3.cell? ⟨w.heap.size + 1 + 1, 2, none⟩ = some (.int .i64 p.e.k) := cell_later hb3 (by go_simp)
  have t3_3 : w3.cell? ⟨w.heap.size + 1 + 1, 3, none⟩ = some (.int .i64 p.e.n) := cell_later hb3 (by go_simp)
  have t4_3 : w3.cell? ⟨w.heap.size + 1 + 1, 4, none⟩ = some (.int .i64 p.e.v.k) := cell_later hb3 (by go_simp)
  have t5_3 : w3.cell? ⟨w.heap.size + 1 + 1, 5, none⟩ = some (.int .i64 p.e.v.n) := cell_later hb3 (by go_simp)
  have t6_3 : w3.cell? ⟨w.heap.size + 1 + 1, 6, none⟩ = some (.string p.e.v.s) := cell_later hb3 (by go_simp)
  have t7_3 : w3.cell? ⟨w.heap.size + 1 + 1, 7, none⟩ = some (.string p.e.p) := cell_later hb3 (by go_simp)
  have t8_3 : w3.cell? ⟨w.heap.size + 1 + 1, 8, none⟩ = some (.slice a1 p.e.ks.length c1) := cell_later hb3 (by go_simp)
  have t9_3 : w3.cell? ⟨w.heap.size + 1 + 1, 9, none⟩ = some (.slice a2 p.es.length c2) := cell_later hb3 (by go_simp)
  have t10_3 : w3.cell? ⟨w.heap.size + 1 + 1, 10, none⟩ = some (.int .i64 p.n) := cell_later hb3 (by go_simp)
  have t11_3 : w3.cell? ⟨w.heap.size + 1 + 1, 11, none⟩ = some (.slice none 0 0) := cell_later hb3 (by go_simp)
  have bel3 : Below w.heap.size w w3 := (by repeat (first | (with_reducible exact bel2) | (with_reducible refine Below.setCell ?_ ?hh _; case hh => (simp; try omega))) : Below w.heap.size w ((w2.setCell ⟨w.heap.size + 1 + 1, 9, none⟩ (.slice a2 p.es.length c2)).setCell ⟨w.heap.size + 1 + 1, 10, none⟩ (.int .i64 p.n))).trans (hb3.mono (by simp; omega))
  clear hb3 c10_2 c11_2 r0_2 r1_2 r2_2 r3_2 r4_2 r5_2 r6_2 r7_2 r8_2 r9_2 r10_2 r11_2 t0_2 t1_2 t2_2 t3_2 t4_2 t5_2 t6_2 t7_2 t8_2 t9_2 t10_2 t11_2 hK2 hO2 hK12 hO12
  have hOw : Own w3 (w.heap.size + 1 + 1 + 1) (F1 ++ (F2 ++ F3)) := hO13.app (hO23.app hO3 hF2 (by omega)) (fun b hb => hF1 b hb) (by omega)
  have hLL : ListsP w3 D (PlansIs w3 D d) p (.slice a1 p.e.ks.length c1) (.slice a2 p.es.length c2) (.slice a3 p.ks.length c3) (F1 ++ (F2 ++ F3)) := ⟨F1, F2, F3, rfl, hK13, hK23, hK3⟩
  clear hK13 hO13 hK23 hO23 hK3 hO3
  go_wp2
  refine bodyPost_ret (v := (.agg #[.int .i64 p.k, .string p.s, .int .i64 p.e.k, .int .i64 p.e.n, .int .i64 p.e.v.k, .int .i64 p.e.v.n, .string p.e.v.s, .string p.e.p, (.slice a1 p.e.ks.length c1), (.slice a2 p.es.length c2), .int .i64 p.n, (.slice a3 p.ks.length c3)])) (by simp [results, Tryz.results33, go_sem, *]) rfl ⟨⟨.slice a1 p.e.ks.length c1, .slice a2 p.es.length c2, .slice a3 p.ks.length c3, F1 ++ (F2 ++ F3), rfl, ?_, ?_⟩, ?_⟩
  · refine hLL.keep (by simp) fun b hb => ?_
    have := (hOw.2 b hb).1
    repeat rw [Below.heap_setCell _ _ _ _ (by simp; try omega)]
  · refine Own.keep (w := w3) (hOw.weak (by omega)) fun b hb => ?_
    have := (hOw.2 b hb).1
    repeat rw [Below.heap_setCell _ _ _ _ (by simp; try omega)]
  · repeat (first | (with_reducible exact bel3) | (with_reducible refine Below.setCell ?_ ?hh _; case hh => (simp; try omega)))
set_option maxHeartbeats 4000000 in
set_option maxRecDepth 100000 in
theorem toPlanS_step {D d : Nat} (hS : ToPS D d) : ToPS D (d + 1) := by
  intro v ps F w hr hn
  obtain ⟨a, c, b, o, G, rfl, hl, hc, hG, _, ha⟩ := hr.pick
  unfold maxLen at hc
  clear hr
  have hn1 : ps.length ≤ 1048576 := by omega
  have hmk := run_make_wide (P := Tryz.prog) 60 62 _ 12 168 Tryz.underlying60 Tryz.infoPlan ps.length (by omega) (by omega)
  go_enter Tryz.func53, Tryz.ntmps53
  go_wp2
  go_loopw [4] (fun i wr => ∃ (k : Nat) (G' : List (List Nat)), k ≤ ps.length ∧ i = .int .i64 k ∧ Below w.heap.size w wr ∧ HalfP wr D d w.heap.size ps G' k) (fun i _ => ps.length - (intOf i).toNat)
  case atStart => exact ⟨0, [], Nat.zero_le _, rfl, by go_grown, halfP_made _ _ _ _ _⟩
  case round =>
    obtain ⟨k, G', hk, rfl, hb, hH⟩ := hrel
    clear hmk
    by_cases hlt : k < ps.length
    · have hzb := hb.size
      obtain ⟨rfl, hblt, _, hL⟩ := ha k hlt
      obtain ⟨x, g, ue, us, u, hx, hg, hxw, ⟨c0, c1, c2, c3, c4, c5, c6, c7, c8, c9, c10, c11⟩, hK, hbr⟩ := hL.at hG hblt hb hlt
      have HX : Hid (ps[k]? = some x) := hx
      have hxn : wtP x ≤ 1048576 := by have := wtP_mem (List.mem_of_getElem? hx); omega
      have hBr := (hH.cells hlt).2.2.2.2.2.2.2.2.2.2.2.2.2
      have hHl := hH.lt hk
      clear ha hL hx
      go_wp2_with (go_at_call 33; refine (toPlan_of hS _ _ _ _ _ _ hK hxn).mono ?_; rintro e w1 ⟨⟨ue1, us1, u1, F1, rfl, hK1, hO1⟩, hb1⟩; obtain ⟨ae1, ce1, ak1, ck1, a1, n1, rfl, rfl, rfl, _⟩ := hK1.shape; have hz1 := hb1.size; have hH1 := hH.below hk hb1; obtain ⟨⟨y0, q0⟩, ⟨y1, q1⟩, ⟨y2, q2⟩, ⟨y3, q3⟩, ⟨y4, q4⟩, ⟨y5, q5⟩, ⟨y6, q6⟩, ⟨y7, q7⟩, ⟨y8, q8⟩, ⟨y9, q9⟩, ⟨y10, q10⟩, ⟨y11, q11⟩, gf, gs⟩ := hH1.cells hlt)
      refine ⟨⟨k + 1, _, hlt, by simp, ?_, hH1.step hk HX.out hxw hK1 ⟨hO1.1, fun b hb => ⟨by have := (hO1.2 b hb).1; omega, (hO1.2 b hb).2⟩⟩ (fun b hb hb' => by have := (hO1.2 b hb').1; have := hHl b hb; omega)⟩, by simp [intOf]; omega⟩
      repeat (first | (with_reducible exact Below.refl _ _) | (with_reducible refine Below.drew ?_) | (with_reducible refine Below.alloc ?_ ?hh _; case hh => first | (simp; done) | (simp; omega) | omega) | (with_reducible refine Below.setCell ?_ ?hh _; case hh => first | (simp; done) | (simp; omega) | omega) | refine bstep (by assumption) (by first | (simp; done) | (simp; omega) | omega) ?_)
    · go_wp2
      go_returns
      obtain rfl : k = ps.length := by omega
      by_cases hne : ps = []
      · subst hne
        exact ⟨⟨_, [], rfl, ⟨_, _, [], rfl, Nat.le_refl _, by simp, rfl, fun _ => rfl, fun h => absurd rfl h⟩, by simp [Own, OwnN]⟩, hb⟩
      · obtain ⟨h1, h2⟩ := hH.plans (by unfold maxLen; omega) hne
        exact ⟨⟨_, _, rfl, h1, h2⟩, hb⟩
theorem toPlanS_any (D : Nat) : ∀ d, ToPS D d
  | 0 => fun _ _ _ _ h => h.elim
  | d + 1 => toPlanS_step (toPlanS_any D d)
end Go.Proofs.YtaeibfipcenhaaaGreatDoor
namespace Go.Proofs.YtaeibfipcenhaaaGreatDoor
open Go.RowKit
set_option linter.unusedVariables false
set_option maxHeartbeats 4000000 in
set_option maxRecDepth 100000 in
theorem szView_any (D d : Nat) (x : V15) (ue us u v : Value) (g : List Nat) (left : Int) (w : World) (hx : x.wf) (hL : ListsP w D (PlansIs w D d) x.p ue us u g) (hr : RowsIs w v x.cs) (h0 : 0 ≤ left) (h1 : left ≤ 1048576) :
    Calls Tryz.prog 13 #[(.agg #[.string x.s, .int .i64 x.p.k, .string x.p.s, .int .i64 x.p.e.k, .int .i64 x.p.e.n, .int .i64 x.p.e.v.k, .int .i64 x.p.e.v.n, .string x.p.e.v.s, .string x.p.e.p, ue, us, .int .i64 x.p.n, u, .int .i64 x.W, v]), .int .i64 left] w fun e w' => (∃ z : Int, e = .returned (.int .i64 z) ∧ -1 ≤ z ∧ z ≤ left ∧ (0 ≤ z → z + wtv x = left)) ∧ Below w.heap.size w w' := by
  obtain ⟨hs, hp, _, hcw⟩ := hx
  unfold maxLen at hs
  have hP := fun (l : Int) (X : World) (hX : Below w.heap.size w X) (h0 : 0 ≤ l) (h1 : l ≤ 1048576) => szPlan_of (szPlanS_any D d) x.p ue us u g l X hp (hL.below hX) h0 h1
  have hB := fun (l : Int) (X : World) (hX : Below w.heap.size w X) (h0 : 0 ≤ l) (h1 : l ≤ 1048576) => szBag_any x.W v x.cs l X (hr.below hX) hcw h0 h1
  have HW : Hid (wtv x = x.s.size + wtP x.p + wtb x.cs) := rfl
  obtain ⟨ar, lr, cr, rfl⟩ := hr.shape
  obtain ⟨ae, ce, ak, ck, a, c, rfl, rfl, rfl, _, _, _, _, _, _⟩ := hL.shape
  clear hL hr hp hcw
  by_cases hbig : left - x.s.size < 0
  · clear hP hB
    go_enter Tryz.func13, Tryz.ntmps13
    go_wp2_with fail
    go_returns
    exact ⟨⟨-1, rfl, by omega, by omega, by omega⟩, by repeat (first | (with_reducible exact Below.refl _ _) | (with_reducible refine Below.drew ?_) | (with_reducible refine Below.alloc ?_ ?hh _; case hh => first | (simp; done) | (simp; omega) | omega) | (with_reducible refine Below.setCell ?_ ?hh _; case hh => first | (simp; done) | (simp; omega) | omega) | refine bstep (by assumption) (by first | (simp; done) | (simp; omega) | omega) ?_)⟩
  go_enter Tryz.func13, Tryz.ntmps13
  go_wp2_with fail
  refine Calls.mono (hP (left - x.s.size) _ (by repeat (first | (with_reducible exact Below.refl _ _) | (with_reducible refine Below.drew ?_) | (with_reducible refine Below.alloc ?_ ?hh _; case hh => first | (simp; done) | (simp; omega) | omega) | (with_reducible refine Below.setCell ?_ ?hh _; case hh => first | (simp; done) | (simp; omega) | omega) | refine bstep (by assumption) (by first | (simp; done) | (simp; omega) | omega) ?_)) (by omega) (by omega)) ?_
  rintro e w1 ⟨⟨z1, rfl, l1, g1, s1⟩, hb1⟩
  have hz1 := hb1.size
  simp only [World.size_alloc] at hz1
  have c13 : w1.cell? ⟨w.heap.size, 13, none⟩ = some (.int .i64 x.W) := cell_later hb1 (by go_simp)
  have c14 : w1.cell? ⟨w.heap.size, 14, none⟩ = some (.slice ar lr cr) := cell_later hb1 (by go_simp)
  have bel1 : Below w.heap.size w w1 := by repeat (first | (with_reducible exact Below.refl _ _) | (with_reducible refine Below.drew ?_) | (with_reducible refine Below.alloc ?_ ?hh _; case hh => first | (simp; done) | (simp; omega) | omega) | (with_reducible refine Below.setCell ?_ ?hh _; case hh => first | (simp; done) | (simp; omega) | omega) | refine bstep (by assumption) (by first | (simp; done) | (simp; omega) | omega) ?_)
  clear hb1 hP
  by_cases hn1 : z1 < 0
  · go_wp2_with fail
    go_returns
    exact ⟨⟨-1, rfl, by omega, by omega, by omega⟩, bel1⟩
  go_wp2_with fail
  refine Calls.mono (hB z1 _ (by first | exact bel1 | repeat (first | (with_reducible exact Below.refl _ _) | (with_reducible refine Below.drew ?_) | (with_reducible refine Below.alloc ?_ ?hh _; case hh => first | (simp; done) | (simp; omega) | omega) | (with_reducible refine Below.setCell ?_ ?hh _; case hh => first | (simp; done) | (simp; omega) | omega) | refine bstep (by assumption) (by first | (simp; done) | (simp; omega) | omega) ?_)) (by omega) (by omega)) ?_
  rintro e w2 ⟨⟨z2, rfl, l2, g2, s2⟩, hb2⟩
  have bel2 : Below w.heap.size w w2 := bel1.trans (hb2.mono bel1.size)
  by_cases hn2 : z2 < 0
  · go_wp2_with fail
    go_returns
    exact ⟨⟨-1, rfl, by omega, by omega, by omega⟩, bel2⟩
  · go_wp2_with fail
    go_returns
    exact ⟨⟨z2, rfl, by omega, by omega, fun h => by have := s1 (by omega); have := s2 h; have := HW.out; omega⟩, bel2⟩
set_option maxHeartbeats 4000000 in
set_option maxRecDepth 100000 in
theorem szViewS_any (D d : Nat) (v : Value) (vs : List V15) (G : List (List Nat)) (left : Int) (w : World) (hr : ViewsIs w D d v vs G) (h0 : 0 ≤ left) (h1 : left ≤ 1048576) :
    Calls Tryz.prog 5 #[v, .int .i64 left] w fun e w' => (∃ z : Int, e = .returned (.int .i64 z) ∧ -1 ≤ z ∧ z ≤ left ∧ (0 ≤ z → z + wtV vs = left)) ∧ Below w.heap.size w w' := by
  obtain ⟨a, c, b, o, rfl, hl, hc, hG, ha⟩ := hr.pick
  unfold maxLen at hc
  clear hr
  by_cases hbig : left - vs.length < 0
  · go_enter Tryz.func5, Tryz.ntmps5
    go_wp2
    go_returns
    exact ⟨⟨-1, rfl, by omega, by omega, by omega⟩, by go_grown⟩
  go_enter Tryz.func5, Tryz.ntmps5
  go_wp2
  go_loopw [1, 5] (fun l i wr => ∃ k : Nat, k ≤ vs.length ∧ i = .int .i64 k ∧ l = .int .i64 (left - vs.length - wtvs (vs.take k)) ∧ 0 ≤ left - vs.length - wtvs (vs.take k) ∧ Below w.heap.size w wr) (fun _ i _ => vs.length - (intOf i).toNat)
  case atStart => exact ⟨0, Nat.zero_le _, rfl, by simp [wtvs], by simp [wtvs]; omega, by go_grown⟩
  case round =>
    obtain ⟨k, hk, rfl, rfl, hp, hb⟩ := hrel
    by_cases hlt : k < vs.length
    · have hzb := hb.size
      obtain ⟨rfl, hblt, hL⟩ := ha k hlt
      obtain ⟨x, g, ue, us, u, t, hx, hg, hxw, ⟨c0, c1, c2, c3, c4, c5, c6, c7, c8, c9, c10, c11, c12, c13, c14⟩, hLx, hR, hbr⟩ := hL.at hG hblt hb hlt
      have hT : Hid (wtvs (vs.take (k + 1)) = wtvs (vs.take k) + wtv x) := wtvs_take hx
      have hp1 : left - vs.length - wtvs (vs.take k) ≤ 1048576 := by omega
      have hcall := szView_any D d x ue us u t g _ wr hxw hLx hR hp hp1
      obtain ⟨ae, ce, ak, ck, aq, cq, rfl, rfl, rfl, _, _, _, _, _, _⟩ := hLx.shape
      obtain ⟨ar, lr, cr, rfl⟩ := hR.shape
      clear ha hL hx hLx hR hg hxw
      go_wp2_with fail
      refine Calls.mono hcall ?_
      rintro e w1 ⟨⟨z1, rfl, l1, g1, s1⟩, hb1⟩
      have bel1 : Below w.heap.size w w1 := hb.trans (hb1.mono hb.size)
      clear hcall
      by_cases hn1 : z1 < 0
      · go_wp2_with fail
        go_returns
        exact ⟨⟨-1, rfl, by omega, by omega, by omega⟩, bel1⟩
      · go_wp2_with fail
        have e1 := s1 (by omega)
        have hT := hT.out
        refine ⟨⟨k + 1, hlt, by simp, by congr 1; omega, by omega, bel1⟩, by simp [intOf]; omega⟩
    · go_wp2
      go_returns
      have hkk : k = vs.length := by omega
      subst hkk
      refine ⟨⟨_, rfl, by omega, by omega, fun _ => ?_⟩, hb⟩
      rw [List.take_length]; unfold wtV; omega
set_option maxHeartbeats 4000000 in
set_option maxRecDepth 100000 in
theorem eqView_same (D d : Nat) (x : V15) (ue us u v ue' us' u' v' : Value) (g g' : List Nat) (w : World) (hL : ListsP w D (PlansIs w D d) x.p ue us u g) (hr : RowsIs w v x.cs) (hL' : ListsP w D (PlansIs w D d) x.p ue' us' u' g') (hr' : RowsIs w v' x.cs) :
    Calls Tryz.prog 26 #[(.agg #[.string x.s, .int .i64 x.p.k, .string x.p.s, .int .i64 x.p.e.k, .int .i64 x.p.e.n, .int .i64 x.p.e.v.k, .int .i64 x.p.e.v.n, .string x.p.e.v.s, .string x.p.e.p, ue, us, .int .i64 x.p.n, u, .int .i64 x.W, v]), (.agg #[.string x.s, .int .i64 x.p.k, .string x.p.s, .int .i64 x.p.e.k, .int .i64 x.p.e.n, .int .i64 x.p.e.v.k, .int .i64 x.p.e.v.n, .string x.p.e.v.s, .string x.p.e.p, ue', us', .int .i64 x.p.n, u', .int .i64 x.W, v'])] w fun e w' => e = .returned (.bool true) ∧ Below w.heap.size w w' := by
  have hP := fun (X : World) (hX : Below w.heap.size w X) => eqPlan_of (eqPlanS_any D d) x.p ue us u ue' us' u' g g' X (hL.below hX) (hL'.below hX)
  have hB := fun (X : World) (hX : Below w.heap.size w X) => eqBag_same x.W v v' x.cs X (hr.below hX) (hr'.below hX)
  obtain ⟨ar, lr, cr, rfl⟩ := hr.shape
  obtain ⟨ar', lr', cr', rfl⟩ := hr'.shape
  obtain ⟨ae, ce, ak, ck, a, c, rfl, rfl, rfl, _, _, _, _, _, _⟩ := hL.shape
  obtain ⟨ae', ce', ak', ck', a', c', rfl, rfl, rfl, _, _, _, _, _, _⟩ := hL'.shape
  clear hL hL' hr hr'
  go_enter Tryz.func26, Tryz.ntmps26
  go_wp2_with fail
  refine Calls.mono (hP _ (by repeat (first | (with_reducible exact Below.refl _ _) | (with_reducible refine Below.drew ?_) | (with_reducible refine Below.alloc ?_ ?hh _; case hh => first | (simp; done) | (simp; omega) | omega) | (with_reducible refine Below.setCell ?_ ?hh _; case hh => first | (simp; done) | (simp; omega) | omega) | refine bstep (by assumption) (by first | (simp; done) | (simp; omega) | omega) ?_))) ?_
  rintro e w1 ⟨rfl, hb1⟩
  have hz1 := hb1.size
  simp only [World.size_alloc] at hz1
  have c13 : w1.cell? ⟨w.heap.size, 13, none⟩ = some (.int .i64 x.W) := cell_later hb1 (by go_simp)
  have c14 : w1.cell? ⟨w.heap.size, 14, none⟩ = some (.slice ar lr cr) := cell_later hb1 (by go_simp)
  have d13 : w1.cell? ⟨w.heap.size + 1, 13, none⟩ = some (.int .i64 x.W) := cell_later hb1 (by go_simp)
  have d14 : w1.cell? ⟨w.heap.size + 1, 14, none⟩ = some (.slice ar' lr' cr') := cell_later hb1 (by go_simp)
  have bel1 : Below w.heap.size w w1 := by repeat (first | (with_reducible exact Below.refl _ _) | (with_reducible refine Below.drew ?_) | (with_reducible refine Below.alloc ?_ ?hh _; case hh => first | (simp; done) | (simp; omega) | omega) | (with_reducible refine Below.setCell ?_ ?hh _; case hh => first | (simp; done) | (simp; omega) | omega) | refine bstep (by assumption) (by first | (simp; done) | (simp; omega) | omega) ?_)
  clear hb1 hP
  go_wp2_with fail
  refine Calls.mono (hB _ (by first | exact bel1 | repeat (first | (with_reducible exact Below.refl _ _) | (with_reducible refine Below.drew ?_) | (with_reducible refine Below.alloc ?_ ?hh _; case hh => first | (simp; done) | (simp; omega) | omega) | (with_reducible refine Below.setCell ?_ ?hh _; case hh => first | (simp; done) | (simp; omega) | omega) | refine bstep (by assumption) (by first | (simp; done) | (simp; omega) | omega) ?_))) ?_
  rintro e w2 ⟨rfl, hb2⟩
  have bel2 : Below w.heap.size w w2 := bel1.trans (hb2.mono bel1.size)
  go_wp2
  go_returns
  exact ⟨rfl, bel2⟩
set_option maxHeartbeats 4000000 in
set_option maxRecDepth 100000 in
theorem eqViewS_same (D d : Nat) (v u : Value) (vs : List V15) (G G' : List (List Nat)) (w : World) (hr : ViewsIs w D d v vs G) (hu : ViewsIs w D d u vs G') :
    Calls Tryz.prog 11 #[v, u] w fun e w' => e = .returned (.bool true) ∧ Below w.heap.size w w' := by
  obtain ⟨a, c, b, o, rfl, hl, hc, hG, ha⟩ := hr.pick
  obtain ⟨a', c', b', o', rfl, hl', hc', hG', ha'⟩ := hu.pick
  unfold maxLen at hc hc'
  clear hr hu
  go_enter Tryz.func11, Tryz.ntmps11
  go_wp2
  go_loopw [5] (fun i wr => ∃ k : Nat, k ≤ vs.length ∧ i = .int .i64 k ∧ Below w.heap.size w wr) (fun i _ => vs.length - (intOf i).toNat)
  case atStart => exact ⟨0, Nat.zero_le _, rfl, by go_grown⟩
  case round =>
    obtain ⟨k, hk, rfl, hb⟩ := hrel
    by_cases hlt : k < vs.length
    · have hzb := hb.size
      obtain ⟨rfl, hblt, hL⟩ := ha k hlt
      obtain ⟨rfl, hblt', hL'⟩ := ha' k hlt
      obtain ⟨x, g, ue, us, u, t, hx, _, _, ⟨c0, c1, c2, c3, c4, c5, c6, c7, c8, c9, c10, c11, c12, c13, c14⟩, hLx, hR, hbr⟩ := hL.at hG hblt hb hlt
      obtain ⟨x', g', ue', us', u', t', hx', _, _, ⟨d0, d1, d2, d3, d4, d5, d6, d7, d8, d9, d10, d11, d12, d13, d14⟩, hLx', hR', hbr'⟩ := hL'.at hG' hblt' hb hlt
      obtain rfl : x = x' := by rw [hx] at hx'; exact Option.some.inj hx'
      have hcall := fun (X : World) (hX : Below wr.heap.size wr X) => eqView_same D d x ue us u t ue' us' u' t' g g' X (hLx.below hX) (hR.below hX) (hLx'.below hX) (hR'.below hX)
      clear ha ha' hL hL' hx hx' hLx hLx' hR hR'
      go_wp2_with fail
      go_region_with (first | (go_at_call 26; refine Calls.mono (hcall _ (by repeat (first | (with_reducible exact Below.refl _ _) | (with_reducible refine Below.drew ?_) | (with_reducible refine Below.alloc ?_ ?hh _; case hh => first | (simp; done) | (simp; omega) | omega) | (with_reducible refine Below.setCell ?_ ?hh _; case hh => first | (simp; done) | (simp; omega) | omega) | refine bstep (by assumption) (by first | (simp; done) | (simp; omega) | omega) ?_))) ?_; rintro e w1 ⟨rfl, hb1⟩))
      all_goals (go_wp2; exact ⟨⟨k + 1, hlt, by simp, by repeat (first | (with_reducible exact Below.refl _ _) | (with_reducible refine Below.drew ?_) | (with_reducible refine Below.alloc ?_ ?hh _; case hh => first | (simp; done) | (simp; omega) | omega) | (with_reducible refine Below.setCell ?_ ?hh _; case hh => first | (simp; done) | (simp; omega) | omega) | refine bstep (by assumption) (by first | (simp; done) | (simp; omega) | omega) ?_)⟩, by simp [intOf]; omega⟩)
    · go_wp2
      go_returns
      exact ⟨rfl, hb⟩
end Go.Proofs.YtaeibfipcenhaaaGreatDoor
namespace Go.Proofs.YtaeibfipcenhaaaGreatDoor
open Go.RowKit Go.Deep
set_option linter.unusedVariables false
theorem Tryz.infoView : (Tryz.prog.info? 64).map (fun i => (i.zero, i.size, i.bytes)) = some (some (.agg #[.string ⟨#[]⟩, .int .i64 0, .string ⟨#[]⟩, .int .i64 0, .int .i64 0, .int .i64 0, .int .i64 0, .string ⟨#[]⟩, .string ⟨#[]⟩, .slice none 0 0, .slice none 0 0, .int .i64 0, .slice none 0 0, .int .i64 0, .slice none 0 0]), 15, 216) := by kernel_rfl
/-- fifteen cells are written. -/
theorem row_set15 {w : World} {B t n : Nat} {f : Nat → Value} (h : w.rowIs B t n f) (q : Nat) (v0 v1 v2 v3 v4 v5 v6 v7 v8 v9 v10 v11 v12 v13 v14 : Value) :
    ∃ f', (((((((((((((((w.setCell ⟨B, q, none⟩ (v0)).setCell ⟨B, q + 1, none⟩ (v1)).setCell ⟨B, q + 2, none⟩ (v2)).setCell ⟨B, q + 3, none⟩ (v3)).setCell ⟨B, q + 4, none⟩ (v4)).setCell ⟨B, q + 5, none⟩ (v5)).setCell ⟨B, q + 6, none⟩ (v6)).setCell ⟨B, q + 7, none⟩ (v7)).setCell ⟨B, q + 8, none⟩ (v8)).setCell ⟨B, q + 9, none⟩ (v9)).setCell ⟨B, q + 10, none⟩ (v10)).setCell ⟨B, q + 11, none⟩ (v11)).setCell ⟨B, q + 12, none⟩ (v12)).setCell ⟨B, q + 13, none⟩ (v13)).setCell ⟨B, q + 14, none⟩ (v14)).rowIs B t n f' ∧ (f' q = v0 ∧ f' (q + 1) = v1 ∧ f' (q + 2) = v2 ∧ f' (q + 3) = v3 ∧ f' (q + 4) = v4 ∧ f' (q + 5) = v5 ∧ f' (q + 6) = v6 ∧ f' (q + 7) = v7 ∧ f' (q + 8) = v8 ∧ f' (q + 9) = v9 ∧ f' (q + 10) = v10 ∧ f' (q + 11) = v11 ∧ f' (q + 12) = v12 ∧ f' (q + 13) = v13 ∧ f' (q + 14) = v14) ∧ ∀ x, (x < q ∨ q + 15 ≤ x) → f' x = f x := by
  refine ⟨_, ((((((((((((((h.set _ _).set _ _).set _ _).set _ _).set _ _).set _ _).set _ _).set _ _).set _ _).set _ _).set _ _).set _ _).set _ _).set _ _).set _ _, ?_, fun x hx => ?_⟩
  · refine ⟨?_, ?_, ?_, ?_, ?_, ?_, ?_, ?_, ?_, ?_, ?_, ?_, ?_, ?_, ?_⟩ <;> simp
  · have e : ∀ j, j < 15 → x ≠ q + j := by intro j hj; omega
    have e0 : x ≠ q := by omega
    simp only [if_neg e0, if_neg (e 1 (by omega)), if_neg (e 2 (by omega)), if_neg (e 3 (by omega)), if_neg (e 4 (by omega)), if_neg (e 5 (by omega)), if_neg (e 6 (by omega)), if_neg (e 7 (by omega)), if_neg (e 8 (by omega)), if_neg (e 9 (by omega)), if_neg (e 10 (by omega)), if_neg (e 11 (by omega)), if_neg (e 12 (by omega)), if_neg (e 13 (by omega)), if_neg (e 14 (by omega))]
theorem blk_set15 (w : World) (B q b : Nat) (v0 v1 v2 v3 v4 v5 v6 v7 v8 v9 v10 v11 v12 v13 v14 : Value) (hb : b ≠ B) : (((((((((((((((w.setCell ⟨B, q, none⟩ (v0)).setCell ⟨B, q + 1, none⟩ (v1)).setCell ⟨B, q + 2, none⟩ (v2)).setCell ⟨B, q + 3, none⟩ (v3)).setCell ⟨B, q + 4, none⟩ (v4)).setCell ⟨B, q + 5, none⟩ (v5)).setCell ⟨B, q + 6, none⟩ (v6)).setCell ⟨B, q + 7, none⟩ (v7)).setCell ⟨B, q + 8, none⟩ (v8)).setCell ⟨B, q + 9, none⟩ (v9)).setCell ⟨B, q + 10, none⟩ (v10)).setCell ⟨B, q + 11, none⟩ (v11)).setCell ⟨B, q + 12, none⟩ (v12)).setCell ⟨B, q + 13, none⟩ (v13)).setCell ⟨B, q + 14, none⟩ (v14)).heap[b]? = w.heap[b]? := by
  repeat rw [Below.heap_setCell _ _ _ _ hb]
/-- the cells of a view in a row of the call's own. -/
def rowV (f : Nat → Value) (q : Nat) (x : V15) (ue us u v : Value) : Prop := f (q) = .string x.s ∧ f (q + 1) = .int .i64 x.p.k ∧ f (q + 2) = .string x.p.s ∧ f (q + 3) = .int .i64 x.p.e.k ∧ f (q + 4) = .int .i64 x.p.e.n ∧ f (q + 5) = .int .i64 x.p.e.v.k ∧ f (q + 6) = .int .i64 x.p.e.v.n ∧ f (q + 7) = .string x.p.e.v.s ∧ f (q + 8) = .string x.p.e.p ∧ f (q + 9) = ue ∧ f (q + 10) = us ∧ f (q + 11) = .int .i64 x.p.n ∧ f (q + 12) = u ∧ f (q + 13) = .int .i64 x.W ∧ f (q + 14) = v
/-- views of the call's own: block B has them, the first k are laid; G: the blocks of their plans' lists. -/
structure HalfV (w : World) (D d B : Nat) (vs : List V15) (G : List (List Nat)) (k : Nat) : Prop where
  row : ∃ f, w.rowIs B 64 (vs.length * 15) f ∧ ∀ i x, i < k → vs[i]? = some x → x.wf ∧ ∃ ue us u v g F, rowV f (i * 15) x ue us u v ∧ G[i]? = some g ∧ ListsP w D (PlansIs w D d) x.p ue us u g ∧ Own w (B + 1) g ∧ RowsF w v x.cs F ∧ ∀ b ∈ F, B + 1 ≤ b
  len : G.length = k
theorem HalfV.cells {w : World} {D d B : Nat} {vs : List V15} {G : List (List Nat)} {k : Nat} (h : HalfV w D d B vs G k) (hk : k < vs.length) :
    (∃ u, w.cell? ⟨B, k * 15, none⟩ = some u) ∧ (∃ u, w.cell? ⟨B, k * 15 + 1, none⟩ = some u) ∧ (∃ u, w.cell? ⟨B, k * 15 + 2, none⟩ = some u) ∧ (∃ u, w.cell? ⟨B, k * 15 + 3, none⟩ = some u) ∧ (∃ u, w.cell? ⟨B, k * 15 + 4, none⟩ = some u) ∧ (∃ u, w.cell? ⟨B, k * 15 + 5, none⟩ = some u) ∧ (∃ u, w.cell? ⟨B, k * 15 + 6, none⟩ = some u) ∧ (∃ u, w.cell? ⟨B, k * 15 + 7, none⟩ = some u) ∧ (∃ u, w.cell? ⟨B, k * 15 + 8, none⟩ = some u) ∧ (∃ u, w.cell? ⟨B, k * 15 + 9, none⟩ = some u) ∧ (∃ u, w.cell? ⟨B, k * 15 + 10, none⟩ = some u) ∧ (∃ u, w.cell? ⟨B, k * 15 + 11, none⟩ = some u) ∧ (∃ u, w.cell? ⟨B, k * 15 + 12, none⟩ = some u) ∧ (∃ u, w.cell? ⟨B, k * 15 + 13, none⟩ = some u) ∧ (∃ u, w.cell? ⟨B, k * 15 + 14, none⟩ = some u) ∧ (∀ i, w.frozen? ⟨B, i, none⟩ = false) ∧ B < w.heap.size := by
  obtain ⟨f, h, _⟩ := h.row
  exact ⟨⟨_, h.cell (by omega)⟩, ⟨_, h.cell (by omega)⟩, ⟨_, h.cell (by omega)⟩, ⟨_, h.cell (by omega)⟩, ⟨_, h.cell (by omega)⟩, ⟨_, h.cell (by omega)⟩, ⟨_, h.cell (by omega)⟩, ⟨_, h.cell (by omega)⟩, ⟨_, h.cell (by omega)⟩, ⟨_, h.cell (by omega)⟩, ⟨_, h.cell (by omega)⟩, ⟨_, h.cell (by omega)⟩, ⟨_, h.cell (by omega)⟩, ⟨_, h.cell (by omega)⟩, ⟨_, h.cell (by omega)⟩, fun i => h.frozen i, h.lt⟩
theorem HalfV.keep {w w' : World} {D d B : Nat} {vs : List V15} {G : List (List Nat)} {k : Nat} (h : HalfV w D d B vs G k) (hs : w.heap.size ≤ w'.heap.size) (hF : ∀ b, b < w.heap.size → w'.heap[b]? = w.heap[b]?) : HalfV w' D d B vs G k := by
  obtain ⟨⟨f, hf, he⟩, hl⟩ := h
  refine ⟨⟨f, hf.of_block (hF B hf.lt), fun i x hi hx => ?_⟩, hl⟩
  obtain ⟨h0, ue, us, u, v, g, F, hr, hg, hK, hO, hR, hB⟩ := he i x hi hx
  exact ⟨h0, ue, us, u, v, g, F, hr, hg, hK.keep hs fun b hb => hF b (hK.lt b hb), hO.keep fun b hb => hF b (hK.lt b hb), hR.keep hs fun b hb => hF b (hR.lt b hb), hB⟩
theorem HalfV.below {w w' : World} {D d B : Nat} {vs : List V15} {G : List (List Nat)} {k : Nat} (h : HalfV w D d B vs G k) (hb : Below w.heap.size w w') : HalfV w' D d B vs G k := h.keep hb.size fun b hl => hb.block b hl
theorem HalfV.step {w : World} {D d B : Nat} {vs : List V15} {G : List (List Nat)} {k : Nat} {x : V15} {ue us u v : Value} {g F : List Nat} (h : HalfV w D d B vs G k) (hx : vs[k]? = some x) (hw : x.wf) (hK : ListsP w D (PlansIs w D d) x.p ue us u g) (hO : Own w (B + 1) g) (hR : RowsF w v x.cs F) (hB : ∀ b ∈ F, B + 1 ≤ b) :
    HalfV (((((((((((((((w.setCell ⟨B, k * 15, none⟩ (.string x.s)).setCell ⟨B, k * 15 + 1, none⟩ (.int .i64 x.p.k)).setCell ⟨B, k * 15 + 2, none⟩ (.string x.p.s)).setCell ⟨B, k * 15 + 3, none⟩ (.int .i64 x.p.e.k)).setCell ⟨B, k * 15 + 4, none⟩ (.int .i64 x.p.e.n)).setCell ⟨B, k * 15 + 5, none⟩ (.int .i64 x.p.e.v.k)).setCell ⟨B, k * 15 + 6, none⟩ (.int .i64 x.p.e.v.n)).setCell ⟨B, k * 15 + 7, none⟩ (.string x.p.e.v.s)).setCell ⟨B, k * 15 + 8, none⟩ (.string x.p.e.p)).setCell ⟨B, k * 15 + 9, none⟩ (ue)).setCell ⟨B, k * 15 + 10, none⟩ (us)).setCell ⟨B, k * 15 + 11, none⟩ (.int .i64 x.p.n)).setCell ⟨B, k * 15 + 12, none⟩ (u)).setCell ⟨B, k * 15 + 13, none⟩ (.int .i64 x.W)).setCell ⟨B, k * 15 + 14, none⟩ (v)) D d B vs (G ++ [g]) (k + 1) := by
  obtain ⟨⟨f, hf, he⟩, hl⟩ := h
  obtain ⟨f', hf', hnew, hold⟩ := row_set15 hf (k * 15) (.string x.s) (.int .i64 x.p.k) (.string x.p.s) (.int .i64 x.p.e.k) (.int .i64 x.p.e.n) (.int .i64 x.p.e.v.k) (.int .i64 x.p.e.v.n) (.string x.p.e.v.s) (.string x.p.e.p) (ue) (us) (.int .i64 x.p.n) (u) (.int .i64 x.W) (v)
  have hblk : ∀ b, B + 1 ≤ b → (((((((((((((((w.setCell ⟨B, k * 15, none⟩ (.string x.s)).setCell ⟨B, k * 15 + 1, none⟩ (.int .i64 x.p.k)).setCell ⟨B, k * 15 + 2, none⟩ (.string x.p.s)).setCell ⟨B, k * 15 + 3, none⟩ (.int .i64 x.p.e.k)).setCell ⟨B, k * 15 + 4, none⟩ (.int .i64 x.p.e.n)).setCell ⟨B, k * 15 + 5, none⟩ (.int .i64 x.p.e.v.k)).setCell ⟨B, k * 15 + 6, none⟩ (.int .i64 x.p.e.v.n)).setCell ⟨B, k * 15 + 7, none⟩ (.string x.p.e.v.s)).setCell ⟨B, k * 15 + 8, none⟩ (.string x.p.e.p)).setCell ⟨B, k * 15 + 9, none⟩ (ue)).setCell ⟨B, k * 15 + 10, none⟩ (us)).setCell ⟨B, k * 15 + 11, none⟩ (.int .i64 x.p.n)).setCell ⟨B, k * 15 + 12, none⟩ (u)).setCell ⟨B, k * 15 + 13, none⟩ (.int .i64 x.W)).setCell ⟨B, k * 15 + 14, none⟩ (v)).heap[b]? = w.heap[b]? := fun b hb => blk_set15 w B (k * 15) b (.string x.s) (.int .i64 x.p.k) (.string x.p.s) (.int .i64 x.p.e.k) (.int .i64 x.p.e.n) (.int .i64 x.p.e.v.k) (.int .i64 x.p.e.v.n) (.string x.p.e.v.s) (.string x.p.e.p) (ue) (us) (.int .i64 x.p.n) (u) (.int .i64 x.W) (v) (by omega)
  have hsz : w.heap.size ≤ (((((((((((((((w.setCell ⟨B, k * 15, none⟩ (.string x.s)).setCell ⟨B, k * 15 + 1, none⟩ (.int .i64 x.p.k)).setCell ⟨B, k * 15 + 2, none⟩ (.string x.p.s)).setCell ⟨B, k * 15 + 3, none⟩ (.int .i64 x.p.e.k)).setCell ⟨B, k * 15 + 4, none⟩ (.int .i64 x.p.e.n)).setCell ⟨B, k * 15 + 5, none⟩ (.int .i64 x.p.e.v.k)).setCell ⟨B, k * 15 + 6, none⟩ (.int .i64 x.p.e.v.n)).setCell ⟨B, k * 15 + 7, none⟩ (.string x.p.e.v.s)).setCell ⟨B, k * 15 + 8, none⟩ (.string x.p.e.p)).setCell ⟨B, k * 15 + 9, none⟩ (ue)).setCell ⟨B, k * 15 + 10, none⟩ (us)).setCell ⟨B, k * 15 + 11, none⟩ (.int .i64 x.p.n)).setCell ⟨B, k * 15 + 12, none⟩ (u)).setCell ⟨B, k * 15 + 13, none⟩ (.int .i64 x.W)).setCell ⟨B, k * 15 + 14, none⟩ (v)).heap.size := by simp
  refine ⟨⟨f', hf', fun i y hi hy => ?_⟩, by simp [hl]⟩
  by_cases ei : i = k
  · subst ei
    obtain rfl : y = x := by rw [hx] at hy; exact (Option.some.inj hy).symm
    refine ⟨hw, ue, us, u, v, g, F, hnew, ?_, hK.keep hsz fun b hb => hblk b (hO.2 b hb).1, hO.keep fun b hb => hblk b (hO.2 b hb).1, hR.keep hsz fun b hb => hblk b (hB b hb), hB⟩
    rw [List.getElem?_append_right (by omega)]; simp [hl]
  · obtain ⟨a0, ue', us', u', v', g', F', hr, hg', hK', hO', hR', hB'⟩ := he i y (by omega) hy
    refine ⟨a0, ue', us', u', v', g', F', ?_, ?_, hK'.keep hsz fun b hb => hblk b (hO'.2 b hb).1, hO'.keep fun b hb => hblk b (hO'.2 b hb).1, hR'.keep hsz fun b hb => hblk b (hB' b hb), hB'⟩
    · unfold rowV at hr ⊢
      rw [hold _ (by omega), hold _ (by omega), hold _ (by omega), hold _ (by omega), hold _ (by omega), hold _ (by omega), hold _ (by omega), hold _ (by omega), hold _ (by omega), hold _ (by omega), hold _ (by omega), hold _ (by omega), hold _ (by omega), hold _ (by omega), hold _ (by omega)]
      exact hr
    · rw [List.getElem?_append_left (by omega)]; exact hg'
theorem HalfV.views {w : World} {D d B : Nat} {vs : List V15} {G : List (List Nat)} (h : HalfV w D d B vs G vs.length) (hm : vs.length ≤ maxLen) :
    ViewsIs w D d (.slice (some ⟨B, 0, none⟩) vs.length vs.length) vs G ∧ ∀ g ∈ G, Own w B g := by
  obtain ⟨⟨f, hf, he⟩, hl⟩ := h
  refine ⟨⟨_, _, rfl, Nat.le_refl _, hm, hl, fun _ => ⟨B, 0, rfl, hf.lt, fun i x g hx hg => ?_⟩⟩, fun g hg => ?_⟩
  · have hi : i < vs.length := (List.getElem?_eq_some_iff.1 hx).1
    obtain ⟨a0, ue, us, u, v, g', F, ⟨r0, r1, r2, r3, r4, r5, r6, r7, r8, r9, r10, r11, r12, r13, r14⟩, hg', hK, _, hR, _⟩ := he i x hi hx
    obtain rfl : g = g' := by rw [hg] at hg'; exact Option.some.inj hg'
    rw [Nat.zero_add]
    exact ⟨a0, ue, us, u, v, ⟨by rw [hf.cell (by omega), r0], by rw [hf.cell (by omega), r1], by rw [hf.cell (by omega), r2], by rw [hf.cell (by omega), r3], by rw [hf.cell (by omega), r4], by rw [hf.cell (by omega), r5], by rw [hf.cell (by omega), r6], by rw [hf.cell (by omega), r7], by rw [hf.cell (by omega), r8], by rw [hf.cell (by omega), r9], by rw [hf.cell (by omega), r10], by rw [hf.cell (by omega), r11], by rw [hf.cell (by omega), r12], by rw [hf.cell (by omega), r13], by rw [hf.cell (by omega), r14]⟩, hK, hR.is⟩
  · obtain ⟨i, hi, rfl⟩ := List.mem_iff_getElem.1 hg
    have hi' : i < vs.length := by omega
    obtain ⟨_, ue, us, u, v, g', F, _, hg', _, hO, _⟩ := he i vs[i] hi' (by simp)
    have : G[i] = g' := by simpa [hi] using hg'
    rw [this]
    exact hO.weak (by omega)
theorem halfV_made (w : World) (z : Array Value) (D d : Nat) (vs : List V15) : HalfV (w.alloc (.cells (madeCells z (vs.length * 15)) 64)) D d w.heap.size vs [] 0 :=
  ⟨⟨fun i => (madeCells z (vs.length * 15))[i]?.getD undef, ⟨_, blk_alloc_new _ _, size_madeCells _ _, fun i hi => by
    have : i < (madeCells z (vs.length * 15)).size := by rw [size_madeCells]; exact hi
    simp [this]⟩, fun i x hi => by omega⟩, rfl⟩
set_option maxHeartbeats 8000000 in
set_option maxRecDepth 100000 in
theorem toView_any (D d : Nat) (x : V15) (ue us u v : Value) (g : List Nat) (w : World) (hL : ListsP w D (PlansIs w D d) x.p ue us u g) (hr : RowsIs w v x.cs) (hn : wtv x ≤ 1048576) :
    Calls Tryz.prog 19 #[(.agg #[.string x.s, .int .i64 x.p.k, .string x.p.s, .int .i64 x.p.e.k, .int .i64 x.p.e.n, .int .i64 x.p.e.v.k, .int .i64 x.p.e.v.n, .string x.p.e.v.s, .string x.p.e.p, ue, us, .int .i64 x.p.n, u, .int .i64 x.W, v])] w fun e w' => (∃ ue' us' u' v' g' F, e = .returned (.agg #[.string x.s, .int .i64 x.p.k, .string x.p.s, .int .i64 x.p.e.k, .int .i64 x.p.e.n, .int .i64 x.p.e.v.k, .int .i64 x.p.e.v.n, .string x.p.e.v.s, .string x.p.e.p, ue', us', .int .i64 x.p.n, u', .int .i64 x.W, v']) ∧ ListsP w' D (PlansIs w' D d) x.p ue' us' u' g' ∧ Own w' w.heap.size g' ∧ RowsF w' v' x.cs F ∧ ∀ b ∈ F, w.heap.size ≤ b) ∧ Below w.heap.size w w' := by
  have hP := fun (X : World) (hX : Below w.heap.size w X) => toPlan_of (toPlanS_any D d) x.p ue us u g X (hL.below hX) (by unfold wtv at hn; omega)
  have hB := fun (X : World) (hX : Below w.heap.size w X) => toBag_F x.W v x.cs X (hr.below hX) (by unfold wtv at hn; omega)
  obtain ⟨ar, lr, cr, rfl⟩ := hr.shape
  obtain ⟨ae, ce, ak, ck, a, c, rfl, rfl, rfl, _, _, _, _, _, _⟩ := hL.shape
  clear hL hr hn
  go_enter Tryz.func19, Tryz.ntmps19
  go_wp2_with fail
  refine Calls.mono (hP _ (by repeat (first | (with_reducible exact Below.refl _ _) | (with_reducible refine Below.drew ?_) | (with_reducible refine Below.alloc ?_ ?hh _; case hh => first | (simp; done) | (simp; omega) | omega) | (with_reducible refine Below.setCell ?_ ?hh _; case hh => first | (simp; done) | (simp; omega) | omega) | refine bstep (by assumption) (by first | (simp; done) | (simp; omega) | omega) ?_))) ?_
  rintro z w1 ⟨⟨ue1, us1, u1, g1, rfl, hL1, hO1⟩, hb1⟩
  have hz1 := hb1.size
  simp only [World.size_alloc] at hz1 hO1
  have hf1 := (bcell hb1).2
  obtain ⟨ae1, ce1, ak1, ck1, a1, c1, rfl, rfl, rfl, _, _, _, _, _, _⟩ := hL1.shape
  have hy2 : w.heap.size + 1 + 1 < w1.heap.size := by omega
  have hy1 : w.heap.size + 1 < w1.heap.size := by omega
  have hy0 : w.heap.size < w1.heap.size := by omega
  have c13_1 : w1.cell? ⟨w.heap.size, 13, none⟩ = some (.int .i64 x.W) := cell_later hb1 (by go_simp)
  have c14_1 : w1.cell? ⟨w.heap.size, 14, none⟩ = some (.slice ar lr cr) := cell_later hb1 (by go_simp)
  have r0_1 : w1.cell? ⟨w.heap.size + 1, 0, none⟩ = some (.string ⟨#[]⟩) := cell_later hb1 (by go_simp)
  have r1_1 : w1.cell? ⟨w.heap.size + 1, 1, none⟩ = some (.int .i64 0) := cell_later hb1 (by go_simp)
  have r2_1 : w1.cell? ⟨w.heap.size + 1, 2, none⟩ = some (.string ⟨#[]⟩) := cell_later hb1 (by go_simp)
  have r3_1 : w1.cell? ⟨w.heap.size + 1, 3, none⟩ = some (.int .i64 0) := cell_later hb1 (by go_simp)
  have r4_1 : w1.cell? ⟨w.heap.size + 1, 4, none⟩ = some (.int .i64 0) := cell_later hb1 (by go_simp)
  have r5_1 : w1.cell? ⟨w.heap.size + 1, 5, none⟩ = some (.int .i64 0) := cell_later hb1 (by go_simp)
  have r6_1 : w1.cell? ⟨w.heap.size + 1, 6, none⟩ = some (.int .i64 0) := cell_later hb1 (by go_simp)
  have r7_1 : w1.cell? ⟨w.heap.size + 1, 7, none⟩ = some (.string ⟨#[]⟩) := cell_later hb1 (by go_simp)
  have r8_1 : w1.cell? ⟨w.heap.size + 1, 8, none⟩ = some (.string ⟨#[]⟩) := cell_later hb1 (by go_simp)
  have r9_1 : w1.cell? ⟨w.heap.size + 1, 9, none⟩ = some (.slice none 0 0) := cell_later hb1 (by go_simp)
  have r10_1 : w1.cell? ⟨w.heap.size + 1, 10, none⟩ = some (.slice none 0 0) := cell_later hb1 (by go_simp)
  have r11_1 : w1.cell? ⟨w.heap.size + 1, 11, none⟩ = some (.int .i64 0) := cell_later hb1 (by go_simp)
  have r12_1 : w1.cell? ⟨w.heap.size + 1, 12, none⟩ = some (.slice none 0 0) := cell_later hb1 (by go_simp)
  have r13_1 : w1.cell? ⟨w.heap.size + 1, 13, none⟩ = some (.int .i64 0) := cell_later hb1 (by go_simp)
  have r14_1 : w1.cell? ⟨w.heap.size + 1, 14, none⟩ = some (.slice none 0 0) := cell_later hb1 (by go_simp)
  have t0_1 : w1.cell? ⟨w.heap.size + 1 + 1, 0, none⟩ = some (.string x.s) := cell_later hb1 (by go_simp)
  have t1_1 : w1.cell? ⟨w.heap.size + 1 + 1, 1, none⟩ = some (.int .i64 0) := cell_later hb1 (by go_simp)
  have t2_1 : w1.cell? ⟨w.heap.size + 1 + 1, 2, none⟩ = some (.string ⟨#[]⟩) := cell_later hb1 (by go_simp)
  have t3_1 : w1.cell? ⟨w.heap.size + 1 + 1, 3, none⟩ = some (.int .i64 0) := cell_later hb1 (by go_simp)
  have t4_1 : w1.cell? ⟨w.heap.size + 1 + 1, 4, none⟩ = some (.int .i64 0) := cell_later hb1 (by go_simp)
  have t5_1 : w1.cell? ⟨w.heap.size + 1 + 1, 5, none⟩ = some (.int .i64 0) := cell_later hb1 (by go_simp)
  have t6_1 : w1.cell? ⟨w.heap.size + 1 + 1, 6, none⟩ = some (.int .i64 0) := cell_later hb1 (by go_simp)
  have t7_1 : w1.cell? ⟨w.heap.size + 1 + 1, 7, none⟩ = some (.string ⟨#[]⟩) := cell_later hb1 (by go_simp)
  have t8_1 : w1.cell? ⟨w.heap.size + 1 + 1, 8, none⟩ = some (.string ⟨#[]⟩) := cell_later hb1 (by go_simp)
  have t9_1 : w1.cell? ⟨w.heap.size + 1 + 1, 9, none⟩ = some (.slice none 0 0) := cell_later hb1 (by go_simp)
  have t10_1 : w1.cell? ⟨w.heap.size + 1 + 1, 10, none⟩ = some (.slice none 0 0) := cell_later hb1 (by go_simp)
  have t11_1 : w1.cell? ⟨w.heap.size + 1 + 1, 11, none⟩ = some (.int .i64 0) := cell_later hb1 (by go_simp)
  have t12_1 : w1.cell? ⟨w.heap.size + 1 + 1, 12, none⟩ = some (.slice none 0 0) := cell_later hb1 (by go_simp)
  have t13_1 : w1.cell? ⟨w.heap.size + 1 + 1, 13, none⟩ = some (.int .i64 0) := cell_later hb1 (by go_simp)
  have t14_1 : w1.cell? ⟨w.heap.size + 1 + 1, 14, none⟩ = some (.slice none 0 0) := cell_later hb1 (by go_simp)
  have bel1 : Below w.heap.size w w1 := by repeat (first | (with_reducible exact Below.refl _ _) | (with_reducible refine Below.drew ?_) | (with_reducible refine Below.alloc ?_ ?hh _; case hh => first | (simp; done) | (simp; omega) | omega) | (with_reducible refine Below.setCell ?_ ?hh _; case hh => first | (simp; done) | (simp; omega) | omega) | refine bstep (by assumption) (by first | (simp; done) | (simp; omega) | omega) ?_)
  clear hb1 hP
  go_wp2_with fail
  refine Calls.mono (hB _ (by repeat (first | (with_reducible exact bel1) | (with_reducible refine Below.setCell ?_ ?hh _; case hh => (simp; try omega))))) ?_
  rintro z w2 ⟨⟨v2, F2, rfl, hR2, hO2⟩, hb2⟩
  have hL2 := ListsP.below (ListsP.keep (w' := ((((((((((((w1.setCell ⟨w.heap.size + 1 + 1, 1, none⟩ (.int .i64 x.p.k)).setCell ⟨w.heap.size + 1 + 1, 2, none⟩ (.string x.p.s)).setCell ⟨w.heap.size + 1 + 1, 3, none⟩ (.int .i64 x.p.e.k)).setCell ⟨w.heap.size + 1 + 1, 4, none⟩ (.int .i64 x.p.e.n)).setCell ⟨w.heap.size + 1 + 1, 5, none⟩ (.int .i64 x.p.e.v.k)).setCell ⟨w.heap.size + 1 + 1, 6, none⟩ (.int .i64 x.p.e.v.n)).setCell ⟨w.heap.size + 1 + 1, 7, none⟩ (.string x.p.e.v.s)).setCell ⟨w.heap.size + 1 + 1, 8, none⟩ (.string x.p.e.p)).setCell ⟨w.heap.size + 1 + 1, 9, none⟩ (.slice ae1 x.p.e.ks.length ce1)).setCell ⟨w.heap.size + 1 + 1, 10, none⟩ (.slice ak1 x.p.es.length ck1)).setCell ⟨w.heap.size + 1 + 1, 11, none⟩ (.int .i64 x.p.n)).setCell ⟨w.heap.size + 1 + 1, 12, none⟩ (.slice a1 x.p.ks.length c1))) hL1 (by simp) (fun b hb => by have := (hO1.2 b hb).1; repeat rw [Below.heap_setCell _ _ _ _ (by simp; try omega)])) hb2
  have hO12 := Own.below (Own.keep (w' := ((((((((((((w1.setCell ⟨w.heap.size + 1 + 1, 1, none⟩ (.int .i64 x.p.k)).setCell ⟨w.heap.size + 1 + 1, 2, none⟩ (.string x.p.s)).setCell ⟨w.heap.size + 1 + 1, 3, none⟩ (.int .i64 x.p.e.k)).setCell ⟨w.heap.size + 1 + 1, 4, none⟩ (.int .i64 x.p.e.n)).setCell ⟨w.heap.size + 1 + 1, 5, none⟩ (.int .i64 x.p.e.v.k)).setCell ⟨w.heap.size + 1 + 1, 6, none⟩ (.int .i64 x.p.e.v.n)).setCell ⟨w.heap.size + 1 + 1, 7, none⟩ (.string x.p.e.v.s)).setCell ⟨w.heap.size + 1 + 1, 8, none⟩ (.string x.p.e.p)).setCell ⟨w.heap.size + 1 + 1, 9, none⟩ (.slice ae1 x.p.e.ks.length ce1)).setCell ⟨w.heap.size + 1 + 1, 10, none⟩ (.slice ak1 x.p.es.length ck1)).setCell ⟨w.heap.size + 1 + 1, 11, none⟩ (.int .i64 x.p.n)).setCell ⟨w.heap.size + 1 + 1, 12, none⟩ (.slice a1 x.p.ks.length c1))) hO1 (fun b hb => by have := (hO1.2 b hb).1; repeat rw [Below.heap_setCell _ _ _ _ (by simp; try omega)])) (fun b hb => by have := hL1.lt b hb; simpa using this) hb2
  have hz2 := hb2.size
  simp only [World.size_setCell] at hz2 hO2
  have hf2 := (bcell hb2).2
  obtain ⟨a2, l2, c2, rfl⟩ := hR2.is.shape
  have hy5 : w.heap.size + 1 + 1 < w2.heap.size := by omega
  have hy4 : w.heap.size + 1 < w2.heap.size := by omega
  have r0_2 : w2.cell? ⟨w.heap.size + 1, 0, none⟩ = some (.string ⟨#[]⟩) := cell_later hb2 (by go_simp)
  have r1_2 : w2.cell? ⟨w.heap.size + 1, 1, none⟩ = some (.int .i64 0) := cell_later hb2 (by go_simp)
  have r2_2 : w2.cell? ⟨w.heap.size + 1, 2, none⟩ = some (.string ⟨#[]⟩) := cell_later hb2 (by go_simp)
  have r3_2 : w2.cell? ⟨w.heap.size + 1, 3, none⟩ = some (.int .i64 0) := cell_later hb2 (by go_simp)
  have r4_2 : w2.cell? ⟨w.heap.size + 1, 4, none⟩ = some (.int .i64 0) := cell_later hb2 (by go_simp)
  have r5_2 : w2.cell? ⟨w.heap.size + 1, 5, none⟩ = some (.int .i64 0) := cell_later hb2 (by go_simp)
  have r6_2 : w2.cell? ⟨w.heap.size + 1, 6, none⟩ = some (.int .i64 0) := cell_later hb2 (by go_simp)
  have r7_2 : w2.cell? ⟨w.heap.size + 1, 7, none⟩ = some (.string ⟨#[]⟩) := cell_later hb2 (by go_simp)
  have r8_2 : w2.cell? ⟨w.heap.size + 1, 8, none⟩ = some (.string ⟨#[]⟩) := cell_later hb2 (by go_simp)
  have r9_2 : w2.cell? ⟨w.heap.size + 1, 9, none⟩ = some (.slice none 0 0) := cell_later hb2 (by go_simp)
  have r10_2 : w2.cell? ⟨w.heap.size + 1, 10, none⟩ = some (.slice none 0 0) := cell_later hb2 (by go_simp)
  have r11_2 : w2.cell? ⟨w.heap.size + 1, 11, none⟩ = some (.int .i64 0) := cell_later hb2 (by go_simp)
  have r12_2 : w2.cell? ⟨w.heap.size + 1, 12, none⟩ = some (.slice none 0 0) := cell_later hb2 (by go_simp)
  have r13_2 : w2.cell? ⟨w.heap.size + 1, 13, none⟩ = some (.int .i64 0) := cell_later hb2 (by go_simp)
  have r14_2 : w2.cell? ⟨w.heap.size + 1, 14, none⟩ = some (.slice none 0 0) := cell_later hb2 (by go_simp)
  have t0_2 : w2.cell? ⟨w.heap.size + 1 + 1, 0, none⟩ = some (.string x.s) := cell_later hb2 (by go_simp)
  have t1_2 : w2.cell? ⟨w.heap.size + 1 + 1, 1, none⟩ = some (.int .i64 x.p.k) := cell_later hb2 (by go_simp)
  have t2_2 : w2.cell? ⟨w.heap.size + 1 + 1, 2, none⟩ = some (.string x.p.s) := cell_later hb2 (by go_simp)
  have t3_2 : w2.cell? ⟨w.heap.size + 1 + 1, 3, none⟩ = some (.int .i64 x.p.e.k) := cell_later hb2 (by go_simp)
  have t4_2 : w2.cell? ⟨w.heap.size + 1 + 1, 4, none⟩ = some (.int .i64 x.p.e.n) := cell_later hb2 (by go_simp)
  have t5_2 : w2.cell? ⟨w.heap.size + 1 + 1, 5, none⟩ = some (.int .i64 x.p.e.v.k) := cell_later hb2 (by go_simp)
  have t6_2 : w2.cell? ⟨w.heap.size + 1 + 1, 6, none⟩ = some (.int .i64 x.p.e.v.n) := cell_later hb2 (by go_simp)
  have t7_2 : w2.cell? ⟨w.heap.size + 1 + 1, 7, none⟩ = some (.string x.p.e.v.s) := cell_later hb2 (by go_simp)
  have t8_2 : w2.cell? ⟨w.heap.size + 1 + 1, 8, none⟩ = some (.string x.p.e.p) := cell_later hb2 (by go_simp)
  have t9_2 : w2.cell? ⟨w.heap.size + 1 + 1, 9, none⟩ = some (.slice ae1 x.p.e.ks.length ce1) := cell_later hb2 (by go_simp)
  have t10_2 : w2.cell? ⟨w.heap.size + 1 + 1, 10, none⟩ = some (.slice ak1 x.p.es.length ck1) := cell_later hb2 (by go_simp)
  have t11_2 : w2.cell? ⟨w.heap.size + 1 + 1, 11, none⟩ = some (.int .i64 x.p.n) := cell_later hb2 (by go_simp)
  have t12_2 : w2.cell? ⟨w.heap.size + 1 + 1, 12, none⟩ = some (.slice a1 x.p.ks.length c1) := cell_later hb2 (by go_simp)
  have t13_2 : w2.cell? ⟨w.heap.size + 1 + 1, 13, none⟩ = some (.int .i64 0) := cell_later hb2 (by go_simp)
  have t14_2 : w2.cell? ⟨w.heap.size + 1 + 1, 14, none⟩ = some (.slice none 0 0) := cell_later hb2 (by go_simp)
  have bel2 : Below w.heap.size w w2 := (by repeat (first | (with_reducible exact bel1) | (with_reducible refine Below.setCell ?_ ?hh _; case hh => (simp; try omega))) : Below w.heap.size w ((((((((((((w1.setCell ⟨w.heap.size + 1 + 1, 1, none⟩ (.int .i64 x.p.k)).setCell ⟨w.heap.size + 1 + 1, 2, none⟩ (.string x.p.s)).setCell ⟨w.heap.size + 1 + 1, 3, none⟩ (.int .i64 x.p.e.k)).setCell ⟨w.heap.size + 1 + 1, 4, none⟩ (.int .i64 x.p.e.n)).setCell ⟨w.heap.size + 1 + 1, 5, none⟩ (.int .i64 x.p.e.v.k)).setCell ⟨w.heap.size + 1 + 1, 6, none⟩ (.int .i64 x.p.e.v.n)).setCell ⟨w.heap.size + 1 + 1, 7, none⟩ (.string x.p.e.v.s)).setCell ⟨w.heap.size + 1 + 1, 8, none⟩ (.string x.p.e.p)).setCell ⟨w.heap.size + 1 + 1, 9, none⟩ (.slice ae1 x.p.e.ks.length ce1)).setCell ⟨w.heap.size + 1 + 1, 10, none⟩ (.slice ak1 x.p.es.length ck1)).setCell ⟨w.heap.size + 1 + 1, 11, none⟩ (.int .i64 x.p.n)).setCell ⟨w.heap.size + 1 + 1, 12, none⟩ (.slice a1 x.p.ks.length c1))).trans (hb2.mono (by simp; omega))
  clear hb2 hB c13_1 c14_1 r0_1 t0_1 r1_1 t1_1 r2_1 t2_1 r3_1 t3_1 r4_1 t4_1 r5_1 t5_1 r6_1 t6_1 r7_1 t7_1 r8_1 t8_1 r9_1 t9_1 r10_1 t10_1 r11_1 t11_1 r12_1 t12_1 r13_1 t13_1 r14_1 t14_1 hL1 hO1
  go_wp2
  refine bodyPost_ret (v := (.agg #[.string x.s, .int .i64 x.p.k, .string x.p.s, .int .i64 x.p.e.k, .int .i64 x.p.e.n, .int .i64 x.p.e.v.k, .int .i64 x.p.e.v.n, .string x.p.e.v.s, .string x.p.e.p, .slice ae1 x.p.e.ks.length ce1, .slice ak1 x.p.es.length ck1, .int .i64 x.p.n, .slice a1 x.p.ks.length c1, .int .i64 x.W, .slice a2 l2 c2])) (by simp [results, Tryz.results19, go_sem, *]) rfl ⟨⟨_, _, _, _, g1, F2, rfl, ?_, ?_, ?_, fun b hb => by have := hO2.2.1 b hb; omega⟩, ?_⟩
  · refine hL2.keep (by simp) fun b hb => ?_
    have := (hO12.2 b hb).1
    repeat rw [Below.heap_setCell _ _ _ _ (by simp; try omega)]
  · refine Own.keep (w := w2) (hO12.weak (by omega)) fun b hb => ?_
    have := (hO12.2 b hb).1
    repeat rw [Below.heap_setCell _ _ _ _ (by simp; try omega)]
  · refine hR2.keep (by simp) fun b hb => ?_
    have := hO2.2.1 b hb
    repeat rw [Below.heap_setCell _ _ _ _ (by simp; try omega)]
  · repeat (first | (with_reducible exact bel2) | (with_reducible refine Below.setCell ?_ ?hh _; case hh => (simp; try omega)))
set_option maxHeartbeats 8000000 in
set_option maxRecDepth 100000 in
theorem toViewS_any (D d : Nat) (v : Value) (vs : List V15) (G : List (List Nat)) (w : World) (hr : ViewsIs w D d v vs G) (hn : wtV vs ≤ 1048576) :
    Calls Tryz.prog 8 #[v] w fun e w' => (∃ u G', e = .returned u ∧ ViewsIs w' D d u vs G' ∧ ∀ g ∈ G', Own w' w.heap.size g) ∧ Below w.heap.size w w' := by
  obtain ⟨a, c, b, o, rfl, hl, hc, hG, ha⟩ := hr.pick
  unfold maxLen at hc
  clear hr
  have hn1 : vs.length ≤ 1048576 := by unfold wtV at hn; omega
  have hmk := run_make_wide (P := Tryz.prog) 29 64 _ 15 216 Tryz.underlying29 Tryz.infoView vs.length (by omega) (by omega)
  go_enter Tryz.func8, Tryz.ntmps8
  go_wp2
  go_loopw [4] (fun i wr => ∃ (k : Nat) (G' : List (List Nat)), k ≤ vs.length ∧ i = .int .i64 k ∧ Below w.heap.size w wr ∧ HalfV wr D d w.heap.size vs G' k) (fun i _ => vs.length - (intOf i).toNat)
  case atStart => exact ⟨0, [], Nat.zero_le _, rfl, by go_grown, halfV_made _ _ _ _ _⟩
  case round =>
    obtain ⟨k, G', hk, rfl, hb, hH⟩ := hrel
    clear hmk
    by_cases hlt : k < vs.length
    · have hzb := hb.size
      obtain ⟨rfl, hblt, hL⟩ := ha k hlt
      obtain ⟨x, g, ue, us, u, t, hx, hg, hxw, ⟨c0, c1, c2, c3, c4, c5, c6, c7, c8, c9, c10, c11, c12, c13, c14⟩, hLx, hR, hbr⟩ := hL.at hG hblt hb hlt
      have HX : Hid (vs[k]? = some x) := hx
      have hxn : wtv x ≤ 1048576 := by have := wtv_mem (List.mem_of_getElem? hx); unfold wtV at hn; omega
      have hBr := (hH.cells hlt).2.2.2.2.2.2.2.2.2.2.2.2.2.2.2.2
      have hcall := toView_any D d x ue us u t g wr hLx hR hxn
      obtain ⟨ae, ce, ak, ck, aq, cq, rfl, rfl, rfl, _, _, _, _, _, _⟩ := hLx.shape
      obtain ⟨ar, lr, cr, rfl⟩ := hR.shape
      clear ha hL hx hLx hR hg
      go_wp2_with (go_at_call 19; refine Calls.mono hcall ?_; rintro e w1 ⟨⟨ue1, us1, u1, v1, g1, F1, rfl, hK1, hO1, hR1, hF1⟩, hb1⟩; obtain ⟨ae1, ce1, ak1, ck1, a1, n1, rfl, rfl, rfl, _⟩ := hK1.shape; obtain ⟨ar1, lr1, cr1, rfl⟩ := hR1.is.shape; have hz1 := hb1.size; have hH1 := hH.below hb1; obtain ⟨⟨y0, q0⟩, ⟨y1, q1⟩, ⟨y2, q2⟩, ⟨y3, q3⟩, ⟨y4, q4⟩, ⟨y5, q5⟩, ⟨y6, q6⟩, ⟨y7, q7⟩, ⟨y8, q8⟩, ⟨y9, q9⟩, ⟨y10, q10⟩, ⟨y11, q11⟩, ⟨y12, q12⟩, ⟨y13, q13⟩, ⟨y14, q14⟩, gf, gs⟩ := hH1.cells hlt)
      refine ⟨⟨k + 1, _, hlt, by simp, ?_, hH1.step HX.out hxw hK1 ⟨hO1.1, fun b hb => ⟨by have := (hO1.2 b hb).1; omega, (hO1.2 b hb).2⟩⟩ hR1 (fun b hb => by have := hF1 b hb; omega)⟩, by simp [intOf]; omega⟩
      repeat (first | (with_reducible exact Below.refl _ _) | (with_reducible refine Below.drew ?_) | (with_reducible refine Below.alloc ?_ ?hh _; case hh => first | (simp; done) | (simp; omega) | omega) | (with_reducible refine Below.setCell ?_ ?hh _; case hh => first | (simp; done) | (simp; omega) | omega) | refine bstep (by assumption) (by first | (simp; done) | (simp; omega) | omega) ?_)
    · go_wp2
      go_returns
      obtain rfl : k = vs.length := by omega
      obtain ⟨h1, h2⟩ := hH.views (by unfold maxLen; omega)
      exact ⟨⟨_, _, rfl, h1, h2⟩, hb⟩
end Go.Proofs.YtaeibfipcenhaaaGreatDoor
