/- Own texts, joined: contracts that the law's proof goes by. -/
import Derived.Test.YtaeibfipcenhaaaGreatDoorGLViewsOk5
import Derived.Test.YtaeibfipcenhaaaGreatDoorGLViewsOk2
import Derived.Test.YtaeibfipcenhaaaGreatDoorGLViewsOk3
import Derived.Handy
import Derived.Deep.RegionHeld3
import Derived.Test.YtaeibfipcenhaaaGreatDoorGLViewsOk10
import Derived.Deep.OwnRows
namespace Go.Proofs.YtaeibfipcenhaaaGreatDoor
open Go.RowKit
set_option linter.unusedVariables false
/-- szExpS at kids that are at most d deep. -/
def SzS (d : Nat) : Prop := ∀ (v : Value) (es : List E7) (F : List Nat) (left : Int) (w : World), KidsIs w d v es F → 0 ≤ left → left ≤ 1048576 →
    Calls Tryz.prog 44 #[v, .int .i64 left] w fun e w' => (∃ z : Int, e = .returned (.int .i64 z) ∧ -1 ≤ z ∧ z ≤ left ∧ (0 ≤ z → z + (es.length + wtEs es) = left)) ∧ Below w.heap.size w w'
set_option maxHeartbeats 1000000 in
set_option maxRecDepth 100000 in
theorem szExp_of {d : Nat} (hS : SzS d) (e : E7) (u : Value) (F : List Nat) (left : Int) (w : World) (hw : e.wf) (hk : KidsIs w d u e.ks F) (h0 : 0 ≤ left) (h1 : left ≤ 1048576) :
    Calls Tryz.prog 43 #[(.agg #[.int .i64 e.k, .int .i64 e.n, .int .i64 e.v.k, .int .i64 e.v.n, .string e.v.s, .string e.p, u]), .int .i64 left] w fun x w' => (∃ z : Int, x = .returned (.int .i64 z) ∧ -1 ≤ z ∧ z ≤ left ∧ (0 ≤ z → z + wtE e = left)) ∧ Below w.heap.size w w' := by
  obtain ⟨_, _, ⟨_, _, hs⟩, hp⟩ := hw
  rw [wtE_eq]
  have hp' := hp
  unfold maxLen at hp'
  obtain ⟨a, c, rfl, _⟩ := hk.shape
  go_enter Tryz.func43, Tryz.ntmps43
  go_wp2_with fail
  refine Calls.mono (szValue_any e.v.k e.v.n left e.v.s _ h0 h1 hs) ?_
  rintro x w1 ⟨rfl, hb1⟩
  have hz1 := hb1.size
  simp only [World.size_alloc] at hz1
  have c5 : w1.cell? ⟨w.heap.size, 5, none⟩ = some (.string e.p) := cell_later hb1 (by go_simp)
  have c6 : w1.cell? ⟨w.heap.size, 6, none⟩ = some (.slice a e.ks.length c) := cell_later hb1 (by go_simp)
  have hz : szV e.v.s left ≤ left := by unfold szV; split <;> omega
  have hz0 : 0 ≤ szV e.v.s left → szV e.v.s left + e.v.s.size = left := by unfold szV; split <;> omega
  have hzm : -1 ≤ szV e.v.s left := by unfold szV; split <;> omega
  generalize szV e.v.s left = z1 at *
  by_cases hn1 : z1 < 0
  · go_wp2_with fail
    go_returns
    exact ⟨⟨-1, rfl, by omega, by omega, by omega⟩, by repeat (first | exact Below.refl _ _ | refine Below.drew ?_ | refine Below.alloc ?_ (by first | (simp; done) | (simp; omega) | omega) _ | refine Below.setCell ?_ (by first | (simp; done) | (simp; omega) | omega) _ | refine bstep (by assumption) (by first | (simp; done) | (simp; omega) | omega) ?_)⟩
  by_cases hn2 : z1 - e.p.size < 0
  · go_wp2_with fail
    go_returns
    exact ⟨⟨-1, rfl, by omega, by omega, by omega⟩, by repeat (first | exact Below.refl _ _ | refine Below.drew ?_ | refine Below.alloc ?_ (by first | (simp; done) | (simp; omega) | omega) _ | refine Below.setCell ?_ (by first | (simp; done) | (simp; omega) | omega) _ | refine bstep (by assumption) (by first | (simp; done) | (simp; omega) | omega) ?_)⟩
  go_wp2_with fail
  refine Calls.mono (hS (.slice a e.ks.length c) e.ks F (z1 - e.p.size) _ (hk.below ?hb) (by omega) (by omega)) ?_
  case hb => repeat (first | exact Below.refl _ _ | refine Below.drew ?_ | refine Below.alloc ?_ (by first | (simp; done) | (simp; omega) | omega) _ | refine Below.setCell ?_ (by first | (simp; done) | (simp; omega) | omega) _ | refine bstep (by assumption) (by first | (simp; done) | (simp; omega) | omega) ?_)
  rintro x w2 ⟨⟨z2, rfl, l2, g2, s2⟩, hb2⟩
  have hz2 := hb2.size
  by_cases hn3 : z2 < 0
  · go_wp2_with fail
    go_returns
    exact ⟨⟨-1, rfl, by omega, by omega, by omega⟩, by repeat (first | exact Below.refl _ _ | refine Below.drew ?_ | refine Below.alloc ?_ (by first | (simp; done) | (simp; omega) | omega) _ | refine Below.setCell ?_ (by first | (simp; done) | (simp; omega) | omega) _ | refine bstep (by assumption) (by first | (simp; done) | (simp; omega) | omega) ?_)⟩
  go_wp2_with fail
  go_returns
  exact ⟨⟨z2, rfl, by omega, by omega, by omega⟩, by repeat (first | exact Below.refl _ _ | refine Below.drew ?_ | refine Below.alloc ?_ (by first | (simp; done) | (simp; omega) | omega) _ | refine Below.setCell ?_ (by first | (simp; done) | (simp; omega) | omega) _ | refine bstep (by assumption) (by first | (simp; done) | (simp; omega) | omega) ?_)⟩
set_option maxHeartbeats 2000000 in
set_option maxRecDepth 100000 in
theorem szExpS_step {d : Nat} (hS : SzS d) : SzS (d + 1) := by
  intro v es F left w hr h0 h1
  obtain ⟨a, c, b, o, G, rfl, hl, hc, hG, _, ha⟩ := hr.pick
  unfold maxLen at hc
  by_cases hbig : left - es.length < 0
  · go_enter Tryz.func44, Tryz.ntmps44
    go_wp2
    go_returns
    exact ⟨⟨-1, rfl, by omega, by omega, by omega⟩, by go_grown⟩
  go_enter Tryz.func44, Tryz.ntmps44
  go_wp2
  go_loopw [1, 5] (fun l i wr => ∃ k : Nat, k ≤ es.length ∧ i = .int .i64 k ∧ l = .int .i64 (left - es.length - wtEs (es.take k)) ∧ 0 ≤ left - es.length - wtEs (es.take k) ∧ Below w.heap.size w wr) (fun _ i _ => es.length - (intOf i).toNat)
  case atStart => exact ⟨0, Nat.zero_le _, rfl, by simp [wtEs], by simp [wtEs]; omega, by go_grown⟩
  case round =>
    obtain ⟨k, hk, rfl, rfl, hp, hb⟩ := hrel
    by_cases hlt : k < es.length
    · have hzb := hb.size
      obtain ⟨rfl, hblt, _, hL⟩ := ha k hlt
      obtain ⟨x, g, u, hx, hg, hxw, ⟨c0, c1, c2, c3, c4, c5⟩, c6, hK, hbr⟩ := hL.at hG hblt hb hlt
      have hT : Hid (wtEs (es.take (k + 1)) = wtEs (es.take k) + wtE x) := wtEs_take hx
      have hp1 : left - es.length - wtEs (es.take k) ≤ 1048576 := by omega
      clear ha hL hx
      go_wp2_with (go_at_call 43; refine (szExp_of hS _ _ _ _ _ hxw hK hp hp1).mono ?_; rintro e w1 ⟨⟨z1, rfl, l1, g1, s1⟩, hb1⟩)
      · go_returns
        exact ⟨⟨-1, rfl, by omega, by omega, by omega⟩, hb.trans (hb1.mono hb.size)⟩
      · have h9 : 0 ≤ z1 := by assumption
        have e1 := s1 h9
        have hT := hT.out
        refine ⟨⟨k + 1, hlt, by simp, by congr 1; omega, by omega, hb.trans (hb1.mono hb.size)⟩, by simp [intOf]; omega⟩
    · go_wp2
      go_returns
      have hkk : k = es.length := by omega
      subst hkk
      refine ⟨⟨_, rfl, by omega, by omega, fun _ => ?_⟩, hb⟩
      rw [List.take_length]; omega
theorem szExpS_any : ∀ d, SzS d
  | 0 => fun _ _ _ _ _ h => h.elim
  | d + 1 => szExpS_step (szExpS_any d)
theorem szExp_any {d : Nat} (e : E7) (u : Value) (F : List Nat) (left : Int) (w : World) (hw : e.wf) (hk : KidsIs w d u e.ks F) (h0 : 0 ≤ left) (h1 : left ≤ 1048576) :
    Calls Tryz.prog 43 #[(.agg #[.int .i64 e.k, .int .i64 e.n, .int .i64 e.v.k, .int .i64 e.v.n, .string e.v.s, .string e.p, u]), .int .i64 left] w fun x w' => (∃ z : Int, x = .returned (.int .i64 z) ∧ -1 ≤ z ∧ z ≤ left ∧ (0 ≤ z → z + wtE e = left)) ∧ Below w.heap.size w w' :=
  szExp_of (szExpS_any d) e u F left w hw hk h0 h1
/-- eqExpS at one list of kids twice, at most d deep. -/
def EqS (d : Nat) : Prop := ∀ (v u : Value) (es : List E7) (F F' : List Nat) (w : World), KidsIs w d v es F → KidsIs w d u es F' →
    Calls Tryz.prog 60 #[v, u] w fun e w' => e = .returned (.bool true) ∧ Below w.heap.size w w'
set_option maxHeartbeats 1000000 in
set_option maxRecDepth 100000 in
theorem eqExp_of {d : Nat} (hS : EqS d) (e : E7) (v u : Value) (F F' : List Nat) (w : World) (hv : KidsIs w d v e.ks F) (hu : KidsIs w d u e.ks F') :
    Calls Tryz.prog 59 #[(.agg #[.int .i64 e.k, .int .i64 e.n, .int .i64 e.v.k, .int .i64 e.v.n, .string e.v.s, .string e.p, v]), (.agg #[.int .i64 e.k, .int .i64 e.n, .int .i64 e.v.k, .int .i64 e.v.n, .string e.v.s, .string e.p, u])] w fun x w' => x = .returned (.bool true) ∧ Below w.heap.size w w' := by
  obtain ⟨a, c, rfl, _⟩ := hv.shape
  obtain ⟨a', c', rfl, _⟩ := hu.shape
  go_enter Tryz.func59, Tryz.ntmps59
  go_wp2_with fail
  refine Calls.mono (eqValue_same e.v.k e.v.n e.v.s _) ?_
  rintro x w1 ⟨rfl, hb1⟩
  have hz1 := hb1.size
  simp only [World.size_alloc] at hz1
  have c5 : w1.cell? ⟨w.heap.size, 5, none⟩ = some (.string e.p) := cell_later hb1 (by go_simp)
  have c6 : w1.cell? ⟨w.heap.size, 6, none⟩ = some (.slice a e.ks.length c) := cell_later hb1 (by go_simp)
  have d5 : w1.cell? ⟨w.heap.size + 1, 5, none⟩ = some (.string e.p) := cell_later hb1 (by go_simp)
  have d6 : w1.cell? ⟨w.heap.size + 1, 6, none⟩ = some (.slice a' e.ks.length c') := cell_later hb1 (by go_simp)
  go_wp2_with fail
  refine Calls.mono (hS (.slice a e.ks.length c) (.slice a' e.ks.length c') e.ks F F' _ (hv.below ?hb) (hu.below ?hb2)) ?_
  case hb => repeat (first | exact Below.refl _ _ | refine Below.drew ?_ | refine Below.alloc ?_ (by first | (simp; done) | (simp; omega) | omega) _ | refine Below.setCell ?_ (by first | (simp; done) | (simp; omega) | omega) _ | refine bstep (by assumption) (by first | (simp; done) | (simp; omega) | omega) ?_)
  case hb2 => repeat (first | exact Below.refl _ _ | refine Below.drew ?_ | refine Below.alloc ?_ (by first | (simp; done) | (simp; omega) | omega) _ | refine Below.setCell ?_ (by first | (simp; done) | (simp; omega) | omega) _ | refine bstep (by assumption) (by first | (simp; done) | (simp; omega) | omega) ?_)
  rintro x w2 ⟨rfl, hb2⟩
  have hz2 := hb2.size
  go_wp2_with fail
  go_returns
  exact ⟨rfl, by repeat (first | exact Below.refl _ _ | refine Below.drew ?_ | refine Below.alloc ?_ (by first | (simp; done) | (simp; omega) | omega) _ | refine Below.setCell ?_ (by first | (simp; done) | (simp; omega) | omega) _ | refine bstep (by assumption) (by first | (simp; done) | (simp; omega) | omega) ?_)⟩
set_option maxHeartbeats 2000000 in
set_option maxRecDepth 100000 in
theorem eqExpS_step {d : Nat} (hS : EqS d) : EqS (d + 1) := by
  intro v u es F F' w hr hu
  obtain ⟨a, c, b, o, G, rfl, hl, hc, hG, _, ha⟩ := hr.pick
  obtain ⟨a', c', b', o', G', rfl, hl', hc', hG', _, ha'⟩ := hu.pick
  unfold maxLen at hc hc'
  clear hr hu
  go_enter Tryz.func60, Tryz.ntmps60
  go_wp2
  go_loopw [5] (fun i wr => ∃ k : Nat, k ≤ es.length ∧ i = .int .i64 k ∧ Below w.heap.size w wr) (fun i _ => es.length - (intOf i).toNat)
  case atStart => exact ⟨0, Nat.zero_le _, rfl, by go_grown⟩
  case round =>
    obtain ⟨k, hk, rfl, hb⟩ := hrel
    by_cases hlt : k < es.length
    · have hzb := hb.size
      obtain ⟨rfl, hblt, _, hL⟩ := ha k hlt
      obtain ⟨rfl, hblt', _, hL'⟩ := ha' k hlt
      obtain ⟨x, g, v, hx, _, _, ⟨c0, c1, c2, c3, c4, c5⟩, c6, hK, hbr⟩ := hL.at hG hblt hb hlt
      obtain ⟨x', g', u, hx', _, _, ⟨d0, d1, d2, d3, d4, d5⟩, d6, hK', hbr'⟩ := hL'.at hG' hblt' hb hlt
      obtain rfl : x = x' := by rw [hx] at hx'; exact Option.some.inj hx'
      clear ha ha' hL hL' hx hx'
      go_wp2_with fail
      go_region_with (first | (go_at_call 59; refine (eqExp_of hS x v u _ _ _ (hK.below (by repeat (first | exact Below.refl _ _ | refine Below.drew ?_ | refine Below.alloc ?_ (by first | (simp; done) | (simp; omega) | omega) _ | refine Below.setCell ?_ (by first | (simp; done) | (simp; omega) | omega) _ | refine bstep (by assumption) (by first | (simp; done) | (simp; omega) | omega) ?_))) (hK'.below (by repeat (first | exact Below.refl _ _ | refine Below.drew ?_ | refine Below.alloc ?_ (by first | (simp; done) | (simp; omega) | omega) _ | refine Below.setCell ?_ (by first | (simp; done) | (simp; omega) | omega) _ | refine bstep (by assumption) (by first | (simp; done) | (simp; omega) | omega) ?_)))).mono ?_; rintro e w1 ⟨rfl, hb1⟩))
      all_goals (go_wp2; exact ⟨⟨k + 1, hlt, by simp, by repeat (first | exact Below.refl _ _ | refine Below.drew ?_ | refine Below.alloc ?_ (by first | (simp; done) | (simp; omega) | omega) _ | refine Below.setCell ?_ (by first | (simp; done) | (simp; omega) | omega) _ | refine bstep (by assumption) (by first | (simp; done) | (simp; omega) | omega) ?_)⟩, by simp [intOf]; omega⟩)
    · go_wp2
      go_returns
      exact ⟨rfl, hb⟩
theorem eqExpS_any : ∀ d, EqS d
  | 0 => fun _ _ _ _ _ _ h => h.elim
  | d + 1 => eqExpS_step (eqExpS_any d)
theorem eqExp_same {d d' : Nat} (e : E7) (v u : Value) (F F' : List Nat) (w : World) (hv : KidsIs w d v e.ks F) (hu : KidsIs w d' u e.ks F') :
    Calls Tryz.prog 59 #[(.agg #[.int .i64 e.k, .int .i64 e.n, .int .i64 e.v.k, .int .i64 e.v.n, .string e.v.s, .string e.p, v]), (.agg #[.int .i64 e.k, .int .i64 e.n, .int .i64 e.v.k, .int .i64 e.v.n, .string e.v.s, .string e.p, u])] w fun x w' => x = .returned (.bool true) ∧ Below w.heap.size w w' :=
  eqExp_of (eqExpS_any (max d d')) e v u F F' w (hv.up (Nat.le_max_left _ _)) (hu.up (Nat.le_max_right _ _))
end Go.Proofs.YtaeibfipcenhaaaGreatDoor
namespace Go.Proofs.YtaeibfipcenhaaaGreatDoor
open Go.RowKit
set_option linter.unusedVariables false
/-- whether an expression is right, and nothing stands as many as f below it. -/
def okE : Nat → E7 → Bool
  | 0, _ => false
  | f + 1, e => partsB e && e.ks.all (okE f)
theorem allE_step {es : List E7} {k : Nat} {x : E7} {q : E7 → Bool} (h : es[k]? = some x) : (es.drop k).all q = (q x && (es.drop (k + 1)).all q) := by
  obtain ⟨hk, rfl⟩ := List.getElem?_eq_some_iff.1 h
  rw [List.drop_eq_getElem_cons hk, List.all_cons]
/-- expOkAt where f - 1 more may stand below. -/
def OkI (f : Nat) : Prop := ∀ (e : E7) (u : Value) (F : List Nat) (d : Nat) (w : World), e.wf → KidsIs w d u e.ks F →
    Calls Tryz.prog 109 #[(.agg #[.int .i64 e.k, .int .i64 e.n, .int .i64 e.v.k, .int .i64 e.v.n, .string e.v.s, .string e.p, u]), .int .i64 (13 - f)] w fun x w' => x = .returned (.bool (okE f e)) ∧ Below w.heap.size w w'
set_option maxHeartbeats 2000000 in
set_option maxRecDepth 100000 in
theorem expOkAt_zero : OkI 0 := by
  intro e u F d w hw hk
  obtain ⟨a, c, rfl, _, _⟩ := hk.shape
  simp only [okE]
  go_enter Tryz.func109, Tryz.ntmps109
  go_wp2
  go_returns
  exact ⟨rfl, by repeat (first | (with_reducible exact Below.refl _ _) | (with_reducible refine Below.drew ?_) | (with_reducible refine Below.alloc ?_ ?hh _; case hh => first | (simp; done) | (simp; omega) | omega) | (with_reducible refine Below.setCell ?_ ?hh _; case hh => first | (simp; done) | (simp; omega) | omega) | refine bstep (by assumption) (by first | (simp; done) | (simp; omega) | omega) ?_)⟩
set_option maxHeartbeats 2000000 in
set_option maxRecDepth 100000 in
theorem expOkAt_step {f : Nat} (hf : f < 13) (hI : OkI f) : OkI (f + 1) := by
  intro e u F d w hw hk
  obtain ⟨d, rfl⟩ : ∃ d', d = d' + 1 := by cases d with | zero => exact hk.elim | succ d => exact ⟨d, rfl⟩
  obtain ⟨a, c, b, o, G, rfl, hl, hc, hG, _, ha⟩ := hk.pick
  have hml : e.ks.length ≤ maxLen := by omega
  have hsm : e.v.s.size ≤ maxLen := hw.2.2.1.2.2
  unfold maxLen at hc
  obtain ⟨t, ht⟩ : ∃ t : Int, t = 13 - ((f + 1 : Nat) : Int) := ⟨_, rfl⟩
  rw [← ht]
  have ht0 : 0 ≤ t := by omega
  have ht1 : t ≤ 12 := by omega
  have HT : Hid (t + 1 = 13 - (f : Int)) := by show _ = _; omega
  have HO : Hid (okE (f + 1) e = (partsB e && e.ks.all (okE f))) := rfl
  have hI2 : ∀ (e : E7) (u : Value) (F : List Nat) (d : Nat) (w : World), e.wf → KidsIs w d u e.ks F →
    Calls Tryz.prog 109 #[(.agg #[.int .i64 e.k, .int .i64 e.n, .int .i64 e.v.k, .int .i64 e.v.n, .string e.v.s, .string e.p, u]), .int .i64 (t + 1)] w fun x w' => x = .returned (.bool (okE f e)) ∧ Below w.heap.size w w' := by rw [HT.out]; exact hI
  clear ht hf hI HT
  go_enter Tryz.func109, Tryz.ntmps109
  go_wp2_with fail
  refine Calls.mono (partsOk_any e a c _ hsm hml) ?_
  rintro x w1 ⟨rfl, hb1⟩
  have hz1 := hb1.size
  simp at hz1
  have q6 : w1.cell? ⟨w.heap.size, 6, none⟩ = some (.slice a e.ks.length c) := cell_later hb1 (by go_simp)
  have bel : Below w.heap.size w w1 := by repeat (first | (with_reducible exact Below.refl _ _) | (with_reducible refine Below.drew ?_) | (with_reducible refine Below.alloc ?_ ?hh _; case hh => first | (simp; done) | (simp; omega) | omega) | (with_reducible refine Below.setCell ?_ ?hh _; case hh => first | (simp; done) | (simp; omega) | omega) | refine bstep (by assumption) (by first | (simp; done) | (simp; omega) | omega) ?_)
  cases hB : partsB e with
  | false =>
    have HB : Hid (okE (f + 1) e = false) := by show _ = _; rw [HO.out, hB]; rfl
    clear hB
    go_wp2
    go_returns
    exact ⟨ret_bool HB.out.symm, bel⟩
  | true =>
    have HB : Hid (okE (f + 1) e = e.ks.all (okE f)) := by show _ = _; rw [HO.out, hB]; rfl
    clear hB HO hb1
    go_wp2
    go_loopw [17] (fun i wr => ∃ k : Nat, k ≤ e.ks.length ∧ i = .int .i64 k ∧ e.ks.all (okE f) = (e.ks.drop k).all (okE f) ∧ Below w.heap.size w wr) (fun i _ => e.ks.length - (intOf i).toNat)
    case atStart => exact ⟨0, Nat.zero_le _, rfl, by simp, by repeat (first | (with_reducible exact Below.refl _ _) | (with_reducible refine Below.drew ?_) | (with_reducible refine Below.alloc ?_ ?hh _; case hh => first | (simp; done) | (simp; omega) | omega) | (with_reducible refine Below.setCell ?_ ?hh _; case hh => first | (simp; done) | (simp; omega) | omega) | refine bstep (by assumption) (by first | (simp; done) | (simp; omega) | omega) ?_)⟩
    case round =>
      obtain ⟨k, hkk, rfl, hal, hb⟩ := hrel
      have hzb := hb.size
      by_cases hlt : k < e.ks.length
      · obtain ⟨rfl, hblt, _, hL⟩ := ha k hlt
        obtain ⟨x, g, u, hx, hg, hxw, ⟨c0, c1, c2, c3, c4, c5⟩, c6, hK, hbr⟩ := hL.at hG hblt hb hlt
        obtain ⟨ax, cx, rfl, _, _⟩ := hK.shape
        have HS : Hid (e.ks.all (okE f) = (okE f x && (e.ks.drop (k + 1)).all (okE f))) := by show _ = _; rw [hal, allE_step hx]
        clear ha hL hx hal
        go_wp2_with fail
        refine Calls.mono (hI2 x (.slice ax x.ks.length cx) g d _ hxw (hK.below ?hb)) ?_
        case hb => repeat (first | (with_reducible exact Below.refl _ _) | (with_reducible refine Below.drew ?_) | (with_reducible refine Below.alloc ?_ ?hh _; case hh => first | (simp; done) | (simp; omega) | omega) | (with_reducible refine Below.setCell ?_ ?hh _; case hh => first | (simp; done) | (simp; omega) | omega) | refine bstep (by assumption) (by first | (simp; done) | (simp; omega) | omega) ?_)
        rintro y w2 ⟨rfl, hb2⟩
        have hz2 := hb2.size
        simp at hz2
        have bel2 : Below w.heap.size w w2 := by repeat (first | (with_reducible exact Below.refl _ _) | (with_reducible refine Below.drew ?_) | (with_reducible refine Below.alloc ?_ ?hh _; case hh => first | (simp; done) | (simp; omega) | omega) | (with_reducible refine Below.setCell ?_ ?hh _; case hh => first | (simp; done) | (simp; omega) | omega) | refine bstep (by assumption) (by first | (simp; done) | (simp; omega) | omega) ?_)
        cases hX : okE f x with
        | false =>
          have HX : Hid (okE (f + 1) e = false) := by show _ = _; rw [HB.out, HS.out, hX]; rfl
          clear hX
          go_wp2
          go_returns
          exact ⟨ret_bool HX.out.symm, bel2⟩
        | true =>
          have HX : Hid (e.ks.all (okE f) = (e.ks.drop (k + 1)).all (okE f)) := by show _ = _; rw [HS.out, hX]; rfl
          clear hX
          go_wp2
          exact ⟨⟨k + 1, hlt, by simp, HX.out, bel2⟩, by simp [intOf]; omega⟩
      · go_wp2
        go_returns
        refine ⟨ret_bool ?_, hb⟩
        rw [HB.out, hal, List.drop_eq_nil_of_le (by omega)]
        rfl
theorem expOkAt_any : ∀ f, f ≤ 13 → OkI f
  | 0, _ => expOkAt_zero
  | f + 1, h => expOkAt_step (by omega) (expOkAt_any f (by omega))
set_option maxHeartbeats 1000000 in
set_option maxRecDepth 100000 in
theorem implExpOk_any (e : E7) (u : Value) (F : List Nat) (d : Nat) (w : World) (hw : e.wf) (hk : KidsIs w d u e.ks F) :
    Calls Tryz.prog 97 #[(.agg #[.int .i64 e.k, .int .i64 e.n, .int .i64 e.v.k, .int .i64 e.v.n, .string e.v.s, .string e.p, u])] w fun x w' => x = .returned (.bool (okE 13 e)) ∧ Below w.heap.size w w' := by
  have hI := expOkAt_any 13 (Nat.le_refl _)
  have hI2 : ∀ (e : E7) (u : Value) (F : List Nat) (d : Nat) (w : World), e.wf → KidsIs w d u e.ks F →
    Calls Tryz.prog 109 #[(.agg #[.int .i64 e.k, .int .i64 e.n, .int .i64 e.v.k, .int .i64 e.v.n, .string e.v.s, .string e.p, u]), .int .i64 0] w fun x w' => x = .returned (.bool (okE 13 e)) ∧ Below w.heap.size w w' := hI
  clear hI
  obtain ⟨a, c, rfl, _, _⟩ := hk.shape
  go_enter Tryz.func97, Tryz.ntmps97
  go_wp2_with fail
  refine Calls.mono (hI2 e (.slice a e.ks.length c) F d _ hw (hk.below ?hb)) ?_
  case hb => repeat (first | (with_reducible exact Below.refl _ _) | (with_reducible refine Below.drew ?_) | (with_reducible refine Below.alloc ?_ ?hh _; case hh => first | (simp; done) | (simp; omega) | omega) | (with_reducible refine Below.setCell ?_ ?hh _; case hh => first | (simp; done) | (simp; omega) | omega) | refine bstep (by assumption) (by first | (simp; done) | (simp; omega) | omega) ?_)
  rintro y w2 ⟨rfl, hb2⟩
  have hz2 := hb2.size
  simp at hz2
  go_wp2
  go_returns
  exact ⟨rfl, by repeat (first | (with_reducible exact Below.refl _ _) | (with_reducible refine Below.drew ?_) | (with_reducible refine Below.alloc ?_ ?hh _; case hh => first | (simp; done) | (simp; omega) | omega) | (with_reducible refine Below.setCell ?_ ?hh _; case hh => first | (simp; done) | (simp; omega) | omega) | refine bstep (by assumption) (by first | (simp; done) | (simp; omega) | omega) ?_)⟩
end Go.Proofs.YtaeibfipcenhaaaGreatDoor
namespace Go.Proofs.YtaeibfipcenhaaaGreatDoor
open Go.RowKit Go.Deep
set_option linter.unusedVariables false
theorem Tryz.infoExp : (Tryz.prog.info? 59).map (fun i => (i.zero, i.size, i.bytes)) = some (some (.agg #[.int .i64 0, .int .i64 0, .int .i64 0, .int .i64 0, .string ⟨#[]⟩, .string ⟨#[]⟩, .slice none 0 0]), 7, 88) := by kernel_rfl
/-- expressions of the call's own: block B has them, the first k are laid; G: the blocks of their kids. -/
structure HalfE (w : World) (d B : Nat) (es : List E7) (G : List (List Nat)) (k : Nat) : Prop where
  row : ∃ f, w.rowIs B 59 (es.length * 7) f ∧ ∀ i e, i < k → es[i]? = some e → e.wf ∧ f (i * 7) = .int .i64 e.k ∧ f (i * 7 + 1) = .int .i64 e.n ∧ f (i * 7 + 2) = .int .i64 e.v.k ∧ f (i * 7 + 3) = .int .i64 e.v.n ∧ f (i * 7 + 4) = .string e.v.s ∧ f (i * 7 + 5) = .string e.p ∧ ∃ g, G[i]? = some g ∧ KidsIs w d (f (i * 7 + 6)) e.ks g
  len : G.length = k
  own : Own w (B + 1) G.flatten
theorem HalfE.lt {w : World} {d B : Nat} {es : List E7} {G : List (List Nat)} {k : Nat} (h : HalfE w d B es G k) (hk : k ≤ es.length) : ∀ b ∈ G.flatten, b < w.heap.size := by
  obtain ⟨⟨f, hf, he⟩, hl, _⟩ := h
  intro b hb
  obtain ⟨g, hg, hbg⟩ := List.mem_flatten.1 hb
  obtain ⟨i, hi, rfl⟩ := List.mem_iff_getElem.1 hg
  have hi' : i < es.length := by omega
  obtain ⟨_, _, _, _, _, _, _, g, hg, hK⟩ := he i es[i] (by omega) (by simp)
  have : G[i] = g := by simpa [hi] using hg
  exact hK.lt b (this ▸ hbg)
theorem HalfE.cells {w : World} {d B : Nat} {es : List E7} {G : List (List Nat)} {k : Nat} (h : HalfE w d B es G k) (hk : k < es.length) :
    (∃ u, w.cell? ⟨B, k * 7, none⟩ = some u) ∧ (∃ u, w.cell? ⟨B, k * 7 + 1, none⟩ = some u) ∧ (∃ u, w.cell? ⟨B, k * 7 + 2, none⟩ = some u) ∧ (∃ u, w.cell? ⟨B, k * 7 + 3, none⟩ = some u) ∧ (∃ u, w.cell? ⟨B, k * 7 + 4, none⟩ = some u) ∧ (∃ u, w.cell? ⟨B, k * 7 + 5, none⟩ = some u) ∧ (∃ u, w.cell? ⟨B, k * 7 + 6, none⟩ = some u) ∧ (∀ i, w.frozen? ⟨B, i, none⟩ = false) ∧ B < w.heap.size := by
  obtain ⟨f, h, _⟩ := h.row
  exact ⟨⟨_, h.cell (by omega)⟩, ⟨_, h.cell (by omega)⟩, ⟨_, h.cell (by omega)⟩, ⟨_, h.cell (by omega)⟩, ⟨_, h.cell (by omega)⟩, ⟨_, h.cell (by omega)⟩, ⟨_, h.cell (by omega)⟩, fun i => h.frozen i, h.lt⟩
theorem HalfE.keep {w w' : World} {d B : Nat} {es : List E7} {G : List (List Nat)} {k : Nat} (h : HalfE w d B es G k) (hs : w.heap.size ≤ w'.heap.size) (hB : w'.heap[B]? = w.heap[B]?) (hF : ∀ b ∈ G.flatten, w'.heap[b]? = w.heap[b]?) : HalfE w' d B es G k := by
  obtain ⟨⟨f, hf, he⟩, hl, ho⟩ := h
  refine ⟨⟨f, hf.of_block hB, fun i e hi hx => ?_⟩, hl, ho.keep hF⟩
  obtain ⟨h0, h1, h2, h3, h4, h5, h6, g, hg, hK⟩ := he i e hi hx
  exact ⟨h0, h1, h2, h3, h4, h5, h6, g, hg, hK.keep hs fun b hb => hF b (List.mem_flatten.2 ⟨g, List.mem_of_getElem? hg, hb⟩)⟩
theorem HalfE.below {w w' : World} {d B : Nat} {es : List E7} {G : List (List Nat)} {k : Nat} (h : HalfE w d B es G k) (hk : k ≤ es.length) (hb : Below w.heap.size w w') : HalfE w' d B es G k := by
  have hB : B < w.heap.size := by obtain ⟨f, hf, _⟩ := h.row; exact hf.lt
  exact h.keep hb.size (hb.block B hB) fun b hF => hb.block b (h.lt hk b hF)
theorem HalfE.step {w : World} {d B : Nat} {es : List E7} {G : List (List Nat)} {k : Nat} {e : E7} {u : Value} {g : List Nat} (h : HalfE w d B es G k) (hk : k ≤ es.length) (hx : es[k]? = some e) (hw : e.wf) (hK : KidsIs w d u e.ks g) (hB : Own w (B + 1) g) (hd : ∀ b ∈ G.flatten, b ∉ g) :
    HalfE (((((((w.setCell ⟨B, k * 7, none⟩ (.int .i64 e.k)).setCell ⟨B, k * 7 + 1, none⟩ (.int .i64 e.n)).setCell ⟨B, k * 7 + 2, none⟩ (.int .i64 e.v.k)).setCell ⟨B, k * 7 + 3, none⟩ (.int .i64 e.v.n)).setCell ⟨B, k * 7 + 4, none⟩ (.string e.v.s)).setCell ⟨B, k * 7 + 5, none⟩ (.string e.p)).setCell ⟨B, k * 7 + 6, none⟩ u) d B es (G ++ [g]) (k + 1) := by
  have hlt := h.lt hk
  obtain ⟨⟨f, hf, he⟩, hl, ho⟩ := h
  have hblk : ∀ b, B + 1 ≤ b → (((((((w.setCell ⟨B, k * 7, none⟩ (.int .i64 e.k)).setCell ⟨B, k * 7 + 1, none⟩ (.int .i64 e.n)).setCell ⟨B, k * 7 + 2, none⟩ (.int .i64 e.v.k)).setCell ⟨B, k * 7 + 3, none⟩ (.int .i64 e.v.n)).setCell ⟨B, k * 7 + 4, none⟩ (.string e.v.s)).setCell ⟨B, k * 7 + 5, none⟩ (.string e.p)).setCell ⟨B, k * 7 + 6, none⟩ u).heap[b]? = w.heap[b]? := by
    intro b hb
    repeat rw [Below.heap_setCell _ _ _ _ (by show b ≠ B; omega)]
  have hsz : w.heap.size ≤ (((((((w.setCell ⟨B, k * 7, none⟩ (.int .i64 e.k)).setCell ⟨B, k * 7 + 1, none⟩ (.int .i64 e.n)).setCell ⟨B, k * 7 + 2, none⟩ (.int .i64 e.v.k)).setCell ⟨B, k * 7 + 3, none⟩ (.int .i64 e.v.n)).setCell ⟨B, k * 7 + 4, none⟩ (.string e.v.s)).setCell ⟨B, k * 7 + 5, none⟩ (.string e.p)).setCell ⟨B, k * 7 + 6, none⟩ u).heap.size := by simp
  refine ⟨⟨_, ((((((hf.set _ _).set _ _).set _ _).set _ _).set _ _).set _ _).set _ _, fun i y hi hy => ?_⟩, by simp [hl], ?_⟩
  · by_cases ei : i = k
    · subst ei
      obtain rfl : y = e := by rw [hx] at hy; exact (Option.some.inj hy).symm
      refine ⟨hw, by simp, by simp, by simp, by simp, by simp, by simp, g, ?_, ?_⟩
      · rw [List.getElem?_append_right (by omega)]; simp [hl]
      · simp only [if_true]
        exact hK.keep hsz fun b hb => hblk b (hB.2 b hb).1
    · obtain ⟨a0, a1, a2, a3, a4, a5, a6, g', hg', hK'⟩ := he i y (by omega) hy
      have n : ∀ p q : Nat, p < 7 → q < 7 → i * 7 + p ≠ k * 7 + q := by intro p q hp hq; omega
      have n0 : ∀ q : Nat, q < 7 → i * 7 ≠ k * 7 + q := by intro q hq; omega
      have n1 : ∀ p : Nat, p < 7 → i * 7 + p ≠ k * 7 := by intro q hq; omega
      have n2 : i * 7 ≠ k * 7 := by omega
      refine ⟨a0, ?_, ?_, ?_, ?_, ?_, ?_, g', ?_, ?_⟩
      · simp only [if_neg n2, if_neg (n0 1 (by omega)), if_neg (n0 2 (by omega)), if_neg (n0 3 (by omega)), if_neg (n0 4 (by omega)), if_neg (n0 5 (by omega)), if_neg (n0 6 (by omega))]; exact a1
      · simp only [if_neg (n1 1 (by omega)), if_neg (n 1 1 (by omega) (by omega)), if_neg (n 1 2 (by omega) (by omega)), if_neg (n 1 3 (by omega) (by omega)), if_neg (n 1 4 (by omega) (by omega)), if_neg (n 1 5 (by omega) (by omega)), if_neg (n 1 6 (by omega) (by omega))]; exact a2
      · simp only [if_neg (n1 2 (by omega)), if_neg (n 2 1 (by omega) (by omega)), if_neg (n 2 2 (by omega) (by omega)), if_neg (n 2 3 (by omega) (by omega)), if_neg (n 2 4 (by omega) (by omega)), if_neg (n 2 5 (by omega) (by omega)), if_neg (n 2 6 (by omega) (by omega))]; exact a3
      · simp only [if_neg (n1 3 (by omega)), if_neg (n 3 1 (by omega) (by omega)), if_neg (n 3 2 (by omega) (by omega)), if_neg (n 3 3 (by omega) (by omega)), if_neg (n 3 4 (by omega) (by omega)), if_neg (n 3 5 (by omega) (by omega)), if_neg (n 3 6 (by omega) (by omega))]; exact a4
      · simp only [if_neg (n1 4 (by omega)), if_neg (n 4 1 (by omega) (by omega)), if_neg (n 4 2 (by omega) (by omega)), if_neg (n 4 3 (by omega) (by omega)), if_neg (n 4 4 (by omega) (by omega)), if_neg (n 4 5 (by omega) (by omega)), if_neg (n 4 6 (by omega) (by omega))]; exact a5
      · simp only [if_neg (n1 5 (by omega)), if_neg (n 5 1 (by omega) (by omega)), if_neg (n 5 2 (by omega) (by omega)), if_neg (n 5 3 (by omega) (by omega)), if_neg (n 5 4 (by omega) (by omega)), if_neg (n 5 5 (by omega) (by omega)), if_neg (n 5 6 (by omega) (by omega))]; exact a6
      · rw [List.getElem?_append_left (by omega)]; exact hg'
      · simp only [if_neg (n1 6 (by omega)), if_neg (n 6 1 (by omega) (by omega)), if_neg (n 6 2 (by omega) (by omega)), if_neg (n 6 3 (by omega) (by omega)), if_neg (n 6 4 (by omega) (by omega)), if_neg (n 6 5 (by omega) (by omega)), if_neg (n 6 6 (by omega) (by omega))]
        exact hK'.keep hsz fun b hb => hblk b (ho.2 b (List.mem_flatten.2 ⟨g', List.mem_of_getElem? hg', hb⟩)).1
  · have hm : ∀ b ∈ (G ++ [g]).flatten, b ∈ G.flatten ∨ b ∈ g := by intro b hb; simpa using hb
    refine Own.keep (w := w) ⟨?_, fun b hb => (hm b hb).elim (ho.2 b) (hB.2 b)⟩ fun b hb => hblk b ((hm b hb).elim (fun h => (ho.2 b h).1) (fun h => (hB.2 b h).1))
    rw [List.flatten_append, List.nodup_append]
    refine ⟨ho.1, by simpa using hB.1, fun a ha b hb => ?_⟩
    rintro rfl
    exact hd a ha (by simpa using hb)
theorem HalfE.kids {w : World} {d B : Nat} {es : List E7} {G : List (List Nat)} (h : HalfE w d B es G es.length) (hm : es.length ≤ maxLen) (hne : es ≠ []) :
    KidsIs w (d + 1) (.slice (some ⟨B, 0, none⟩) es.length es.length) es (B :: G.flatten) ∧ Own w B (B :: G.flatten) := by
  obtain ⟨⟨f, hf, he⟩, hl, ho⟩ := h
  refine ⟨⟨_, _, G, rfl, Nat.le_refl _, hm, hl, fun h => absurd h hne, fun _ => ⟨B, 0, rfl, hf.lt, rfl, fun i e g hx hg => ?_⟩⟩, ?_, fun b hb => ?_⟩
  · have hi : i < es.length := (List.getElem?_eq_some_iff.1 hx).1
    obtain ⟨a0, a1, a2, a3, a4, a5, a6, g', hg', hK⟩ := he i e hi hx
    obtain rfl : g = g' := by rw [hg] at hg'; exact Option.some.inj hg'
    rw [Nat.zero_add]
    exact ⟨a0, ⟨by rw [hf.cell (by omega), a1], by rw [hf.cell (by omega), a2], by rw [hf.cell (by omega), a3], by rw [hf.cell (by omega), a4], by rw [hf.cell (by omega), a5], by rw [hf.cell (by omega), a6]⟩, _, hf.cell (by omega), hK⟩
  · refine List.nodup_cons.2 ⟨fun h => ?_, ho.1⟩
    have := (ho.2 B h).1
    omega
  · rcases List.mem_cons.1 hb with rfl | hb
    · exact ⟨Nat.le_refl _, fun o => hf.frozen o⟩
    · exact ⟨Nat.le_of_succ_le (ho.2 b hb).1, (ho.2 b hb).2⟩
theorem halfE_made (w : World) (z : Array Value) (d : Nat) (es : List E7) : HalfE (w.alloc (.cells (madeCells z (es.length * 7)) 59)) d w.heap.size es [] 0 :=
  ⟨⟨fun i => (madeCells z (es.length * 7))[i]?.getD undef, ⟨_, blk_alloc_new _ _, size_madeCells _ _, fun i hi => by
    have : i < (madeCells z (es.length * 7)).size := by rw [size_madeCells]; exact hi
    simp [this]⟩, fun i x hi => by omega⟩, rfl, by simp [Own, OwnN]⟩
/-- toExpS at kids that are at most d deep. -/
def ToS (d : Nat) : Prop := ∀ (v : Value) (es : List E7) (F : List Nat) (w : World), KidsIs w d v es F → es.length + wtEs es ≤ 1048576 →
    Calls Tryz.prog 52 #[v] w fun e w' => (∃ u F', e = .returned u ∧ KidsIs w' d u es F' ∧ Own w' w.heap.size F') ∧ Below w.heap.size w w'
set_option maxHeartbeats 1000000 in
set_option maxRecDepth 100000 in
theorem toExp_of {d : Nat} (hS : ToS d) (e : E7) (u : Value) (F : List Nat) (w : World) (hk : KidsIs w d u e.ks F) (hn : wtE e ≤ 1048576) :
    Calls Tryz.prog 51 #[(.agg #[.int .i64 e.k, .int .i64 e.n, .int .i64 e.v.k, .int .i64 e.v.n, .string e.v.s, .string e.p, u])] w fun x w' => (∃ u' F', x = .returned (.agg #[.int .i64 e.k, .int .i64 e.n, .int .i64 e.v.k, .int .i64 e.v.n, .string e.v.s, .string e.p, u']) ∧ KidsIs w' d u' e.ks F' ∧ Own w' w.heap.size F') ∧ Below w.heap.size w w' := by
  obtain ⟨a, c, rfl, _⟩ := hk.shape
  have hn1 : e.ks.length + wtEs e.ks ≤ 1048576 := by rw [wtE_eq] at hn; omega
  go_enter Tryz.func51, Tryz.ntmps51
  go_wp2_with fail
  refine Calls.mono (toValue_any e.v.k e.v.n e.v.s _) ?_
  rintro x w1 ⟨rfl, hb1⟩
  have hz1 := hb1.size
  simp only [World.size_alloc] at hz1
  have hf1 := (bcell hb1).2
  have hy2 : w.heap.size + 1 + 1 < w1.heap.size := by omega
  have hy1 : w.heap.size + 1 < w1.heap.size := by omega
  have hy0 : w.heap.size < w1.heap.size := by omega
  have c5 : w1.cell? ⟨w.heap.size, 5, none⟩ = some (.string e.p) := cell_later hb1 (by go_simp)
  have c6 : w1.cell? ⟨w.heap.size, 6, none⟩ = some (.slice a e.ks.length c) := cell_later hb1 (by go_simp)
  have r0 : w1.cell? ⟨w.heap.size + 1, 0, none⟩ = some (.int .i64 0) := cell_later hb1 (by go_simp)
  have r1 : w1.cell? ⟨w.heap.size + 1, 1, none⟩ = some (.int .i64 0) := cell_later hb1 (by go_simp)
  have r2 : w1.cell? ⟨w.heap.size + 1, 2, none⟩ = some (.int .i64 0) := cell_later hb1 (by go_simp)
  have r3 : w1.cell? ⟨w.heap.size + 1, 3, none⟩ = some (.int .i64 0) := cell_later hb1 (by go_simp)
  have r4 : w1.cell? ⟨w.heap.size + 1, 4, none⟩ = some (.string ⟨#[]⟩) := cell_later hb1 (by go_simp)
  have r5 : w1.cell? ⟨w.heap.size + 1, 5, none⟩ = some (.string ⟨#[]⟩) := cell_later hb1 (by go_simp)
  have r6 : w1.cell? ⟨w.heap.size + 1, 6, none⟩ = some (.slice none 0 0) := cell_later hb1 (by go_simp)
  have t0 : w1.cell? ⟨w.heap.size + 1 + 1, 0, none⟩ = some (.int .i64 e.k) := cell_later hb1 (by go_simp)
  have t1 : w1.cell? ⟨w.heap.size + 1 + 1, 1, none⟩ = some (.int .i64 e.n) := cell_later hb1 (by go_simp)
  have t2 : w1.cell? ⟨w.heap.size + 1 + 1, 2, none⟩ = some (.int .i64 0) := cell_later hb1 (by go_simp)
  have t3 : w1.cell? ⟨w.heap.size + 1 + 1, 3, none⟩ = some (.int .i64 0) := cell_later hb1 (by go_simp)
  have t4 : w1.cell? ⟨w.heap.size + 1 + 1, 4, none⟩ = some (.string ⟨#[]⟩) := cell_later hb1 (by go_simp)
  have t5 : w1.cell? ⟨w.heap.size + 1 + 1, 5, none⟩ = some (.string ⟨#[]⟩) := cell_later hb1 (by go_simp)
  have t6 : w1.cell? ⟨w.heap.size + 1 + 1, 6, none⟩ = some (.slice none 0 0) := cell_later hb1 (by go_simp)
  go_wp2_with fail
  refine Calls.mono (hS (.slice a e.ks.length c) e.ks F _ (hk.below ?hb) hn1) ?_
  case hb => repeat (first | exact Below.refl _ _ | refine Below.drew ?_ | refine Below.alloc ?_ (by first | (simp; done) | (simp; omega) | omega) _ | refine Below.setCell ?_ (by first | (simp; done) | (simp; omega) | omega) _ | refine bstep (by assumption) (by first | (simp; done) | (simp; omega) | omega) ?_)
  rintro x w2 ⟨⟨u2, F2, rfl, hK2, hO2⟩, hb2⟩
  have hz2 := hb2.size
  simp only [World.size_setCell] at hz2 hO2
  have hf2 := (bcell hb2).2
  obtain ⟨a2, c2, rfl, _⟩ := hK2.shape
  have hy5 : w.heap.size + 1 + 1 < w2.heap.size := by omega
  have hy4 : w.heap.size + 1 < w2.heap.size := by omega
  have R0 : w2.cell? ⟨w.heap.size + 1, 0, none⟩ = some (.int .i64 0) := cell_later hb2 (by go_simp)
  have R1 : w2.cell? ⟨w.heap.size + 1, 1, none⟩ = some (.int .i64 0) := cell_later hb2 (by go_simp)
  have R2 : w2.cell? ⟨w.heap.size + 1, 2, none⟩ = some (.int .i64 0) := cell_later hb2 (by go_simp)
  have R3 : w2.cell? ⟨w.heap.size + 1, 3, none⟩ = some (.int .i64 0) := cell_later hb2 (by go_simp)
  have R4 : w2.cell? ⟨w.heap.size + 1, 4, none⟩ = some (.string ⟨#[]⟩) := cell_later hb2 (by go_simp)
  have R5 : w2.cell? ⟨w.heap.size + 1, 5, none⟩ = some (.string ⟨#[]⟩) := cell_later hb2 (by go_simp)
  have R6 : w2.cell? ⟨w.heap.size + 1, 6, none⟩ = some (.slice none 0 0) := cell_later hb2 (by go_simp)
  have T0 : w2.cell? ⟨w.heap.size + 1 + 1, 0, none⟩ = some (.int .i64 e.k) := cell_later hb2 (by go_simp)
  have T1 : w2.cell? ⟨w.heap.size + 1 + 1, 1, none⟩ = some (.int .i64 e.n) := cell_later hb2 (by go_simp)
  have T2 : w2.cell? ⟨w.heap.size + 1 + 1, 2, none⟩ = some (.int .i64 e.v.k) := cell_later hb2 (by go_simp)
  have T3 : w2.cell? ⟨w.heap.size + 1 + 1, 3, none⟩ = some (.int .i64 e.v.n) := cell_later hb2 (by go_simp)
  have T4 : w2.cell? ⟨w.heap.size + 1 + 1, 4, none⟩ = some (.string e.v.s) := cell_later hb2 (by go_simp)
  have T5 : w2.cell? ⟨w.heap.size + 1 + 1, 5, none⟩ = some (.string e.p) := cell_later hb2 (by go_simp)
  have T6 : w2.cell? ⟨w.heap.size + 1 + 1, 6, none⟩ = some (.slice none 0 0) := cell_later hb2 (by go_simp)
  have bel2 : Below w.heap.size w w2 := by repeat (first | exact Below.refl _ _ | refine Below.drew ?_ | refine Below.alloc ?_ (by first | (simp; done) | (simp; omega) | omega) _ | refine Below.setCell ?_ (by first | (simp; done) | (simp; omega) | omega) _ | refine bstep (by assumption) (by first | (simp; done) | (simp; omega) | omega) ?_)
  clear hb1 hb2 c5 c6 r0 r1 r2 r3 r4 r5 r6 t0 t1 t2 t3 t4 t5 t6
  go_wp2
  refine bodyPost_ret (v := (.agg #[.int .i64 e.k, .int .i64 e.n, .int .i64 e.v.k, .int .i64 e.v.n, .string e.v.s, .string e.p, (.slice a2 e.ks.length c2)])) (by simp [results, Tryz.results51, go_sem, *]) rfl ⟨⟨_, F2, rfl, ?_, ?_⟩, ?_⟩
  · refine hK2.keep (by simp) fun b hb => ?_
    have := (hO2.2 b hb).1
    repeat rw [Below.heap_setCell _ _ _ _ (by simp; try omega)]
  · refine Own.keep (w := w2) ⟨hO2.1, fun b hb => ⟨by have := (hO2.2 b hb).1; omega, (hO2.2 b hb).2⟩⟩ fun b hb => ?_
    have := (hO2.2 b hb).1
    repeat rw [Below.heap_setCell _ _ _ _ (by simp; try omega)]
  · repeat (first | (with_reducible exact bel2) | (with_reducible refine Below.setCell ?_ ?hh _; case hh => (simp; try omega)))
set_option maxHeartbeats 2000000 in
set_option maxRecDepth 100000 in
theorem toExpS_step {d : Nat} (hS : ToS d) : ToS (d + 1) := by
  intro v es F w hr hn
  obtain ⟨a, c, b, o, G, rfl, hl, hc, hG, _, ha⟩ := hr.pick
  unfold maxLen at hc
  clear hr
  have hn1 : es.length ≤ 1048576 := by omega
  have hmk := run_make_wide (P := Tryz.prog) 57 59 _ 7 88 Tryz.underlying57 Tryz.infoExp es.length (by omega) (by omega)
  go_enter Tryz.func52, Tryz.ntmps52
  go_wp2
  go_loopw [4] (fun i wr => ∃ (k : Nat) (G' : List (List Nat)), k ≤ es.length ∧ i = .int .i64 k ∧ Below w.heap.size w wr ∧ HalfE wr d w.heap.size es G' k) (fun i _ => es.length - (intOf i).toNat)
  case atStart => exact ⟨0, [], Nat.zero_le _, rfl, by go_grown, halfE_made _ _ _ _⟩
  case round =>
    obtain ⟨k, G', hk, rfl, hb, hH⟩ := hrel
    clear hmk
    by_cases hlt : k < es.length
    · have hzb := hb.size
      obtain ⟨rfl, hblt, _, hL⟩ := ha k hlt
      obtain ⟨x, g, u, hx, hg, hxw, ⟨c0, c1, c2, c3, c4, c5⟩, c6, hK, hbr⟩ := hL.at hG hblt hb hlt
      have HX : Hid (es[k]? = some x) := hx
      have hxn : wtE x ≤ 1048576 := by have := wtE_mem (List.mem_of_getElem? hx); omega
      have hBr := (hH.cells hlt).2.2.2.2.2.2.2.2
      have hHl := hH.lt hk
      clear ha hL hx
      go_wp2_with (go_at_call 51; refine (toExp_of hS _ _ _ _ hK hxn).mono ?_; rintro e w1 ⟨⟨u1, F1, rfl, hK1, hO1⟩, hb1⟩; obtain ⟨a1, n1, rfl, _⟩ := hK1.shape; have hz1 := hb1.size; have hH1 := hH.below hk hb1; obtain ⟨⟨y0, q0⟩, ⟨y1, q1⟩, ⟨y2, q2⟩, ⟨y3, q3⟩, ⟨y4, q4⟩, ⟨y5, q5⟩, ⟨y6, q6⟩, gf, gs⟩ := hH1.cells hlt)
      refine ⟨⟨k + 1, _, hlt, by simp, ?_, hH1.step hk HX.out hxw hK1 ⟨hO1.1, fun b hb => ⟨by have := (hO1.2 b hb).1; omega, (hO1.2 b hb).2⟩⟩ (fun b hb hb' => by have := (hO1.2 b hb').1; have := hHl b hb; omega)⟩, by simp [intOf]; omega⟩
      repeat (first | (with_reducible exact Below.refl _ _) | (with_reducible refine Below.drew ?_) | (with_reducible refine Below.alloc ?_ ?hh _; case hh => first | (simp; done) | (simp; omega) | omega) | (with_reducible refine Below.setCell ?_ ?hh _; case hh => first | (simp; done) | (simp; omega) | omega) | refine bstep (by assumption) (by first | (simp; done) | (simp; omega) | omega) ?_)
    · go_wp2
      go_returns
      obtain rfl : k = es.length := by omega
      by_cases hne : es = []
      · subst hne
        exact ⟨⟨_, [], rfl, ⟨_, _, [], rfl, Nat.le_refl _, by simp, rfl, fun _ => rfl, fun h => absurd rfl h⟩, by simp [Own, OwnN]⟩, hb⟩
      · obtain ⟨h1, h2⟩ := hH.kids (by unfold maxLen; omega) hne
        exact ⟨⟨_, _, rfl, h1, h2⟩, hb⟩
theorem toExpS_any : ∀ d, ToS d
  | 0 => fun _ _ _ _ h => h.elim
  | d + 1 => toExpS_step (toExpS_any d)
theorem toExp_any {d : Nat} (e : E7) (u : Value) (F : List Nat) (w : World) (hk : KidsIs w d u e.ks F) (hn : wtE e ≤ 1048576) :
    Calls Tryz.prog 51 #[(.agg #[.int .i64 e.k, .int .i64 e.n, .int .i64 e.v.k, .int .i64 e.v.n, .string e.v.s, .string e.p, u])] w fun x w' => (∃ u' F', x = .returned (.agg #[.int .i64 e.k, .int .i64 e.n, .int .i64 e.v.k, .int .i64 e.v.n, .string e.v.s, .string e.p, u']) ∧ KidsIs w' d u' e.ks F' ∧ Own w' w.heap.size F') ∧ Below w.heap.size w w' :=
  toExp_of (toExpS_any d) e u F w hk hn
end Go.Proofs.YtaeibfipcenhaaaGreatDoor
namespace Go.Proofs.YtaeibfipcenhaaaGreatDoor
open Go.RowKit Go.Deep
set_option linter.unusedVariables false
/-- the blocks of F may be written. -/
def FreeE (w : World) (F : List Nat) : Prop := ∀ b ∈ F, ∀ o, w.frozen? ⟨b, o, none⟩ = false
/-- what was there is as it was, the blocks of F aside. -/
structure ChgE (F : List Nat) (w w' : World) : Prop where
  os : w'.os = w.os
  tape : w'.tape = w.tape
  output : w'.output = w.output
  size : w.heap.size ≤ w'.heap.size
  block : ∀ k, k < w.heap.size → k ∉ F → w'.heap[k]? = w.heap[k]?
  free : FreeE w F → FreeE w' F
theorem ChgE.refl (F : List Nat) (w : World) : ChgE F w w := ⟨rfl, rfl, rfl, Nat.le_refl _, fun _ _ _ => rfl, id⟩
theorem ChgE.trans {a b c : World} {F : List Nat} (h : ChgE F a b) (k : ChgE F b c) : ChgE F a c :=
  ⟨k.os.trans h.os, k.tape.trans h.tape, k.output.trans h.output, Nat.le_trans h.size k.size, fun i hi hF => (k.block i (Nat.lt_of_lt_of_le hi h.size) hF).trans (h.block i hi hF), fun f => k.free (h.free f)⟩
theorem ChgE.setCell {w w' : World} {F : List Nat} (h : ChgE F w w') {p : Addr} (hp : p.block ∈ F) (u : Value) : ChgE F w (w'.setCell p u) :=
  ⟨h.os, h.tape, h.output, by simpa using h.size, fun k hk hF => (Below.heap_setCell _ _ _ _ (by rintro rfl; exact hF hp)).trans (h.block k hk hF), fun f b hb o => by rw [World.frozen?_setCell]; exact h.free f b hb o⟩
theorem ChgE.below {w w' : World} {F : List Nat} {N : Nat} (h : ChgE F w w') (hF : ∀ b ∈ F, N ≤ b) (hN : N ≤ w.heap.size) : Below N w w' :=
  ⟨h.os, h.tape, h.output, h.size, fun k hk => h.block k (by omega) fun hx => by have := hF k hx; omega⟩
end Go.Proofs.YtaeibfipcenhaaaGreatDoor
