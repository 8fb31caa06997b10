/- Own text. Whether relations and schemas have the same names and widths; the contracts of both TypesOf. -/
import Derived.Test.YtfmdleomfpampaaSchC
import Derived.Test.YtfmdleomfpampaaRelC
import Derived.Test.YtfmdleomfpampaaHasP
import Derived.Test.YtfmdleomfpampaaFrK
import Derived.Handy
import Derived.Deep.RegionHeld3
import Derived.Deep.QuietTactic
import Derived.BigQuiet
namespace Go.Proofs.Ytfmdleomfpampaa
open Go.RowKit
set_option linter.unusedVariables false
/-- whether a relation is one of a schema. -/
def ty1 (r : R3) (x : S2) : Bool := (r.s.toList == x.s.toList) && (r.W == (x.cs.length : Int))
/-- whether relations are those of schemas, in order. -/
def tyB : List R3 → List S2 → Bool
  | [], [] => true
  | r :: rs, x :: hs => ty1 r x && tyB rs hs
  | _, _ => false
theorem tyB_len : ∀ {rs : List R3} {hs : List S2}, rs.length ≠ hs.length → tyB rs hs = false
  | [], [], h => absurd rfl h
  | [], _ :: _, _ => rfl
  | _ :: _, [], _ => rfl
  | r :: rs, x :: hs, h => by
    rw [tyB, tyB_len (by simpa using h), Bool.and_false]
theorem tyB_step {rs : List R3} {hs : List S2} {k : Nat} {r : R3} {x : S2} (h : rs[k]? = some r) (h' : hs[k]? = some x) : tyB (rs.drop k) (hs.drop k) = (ty1 r x && tyB (rs.drop (k + 1)) (hs.drop (k + 1))) := by
  obtain ⟨hk, rfl⟩ := List.getElem?_eq_some_iff.1 h
  obtain ⟨hk', rfl⟩ := List.getElem?_eq_some_iff.1 h'
  rw [List.drop_eq_getElem_cons hk, List.drop_eq_getElem_cons hk']
  rfl
set_option maxHeartbeats 4000000 in
set_option maxRecDepth 100000 in
theorem typesFn_any (r : R3) (x : S2) (u : Value) (a : Option Addr) (c : Nat) (w : World) :
    Calls Try.prog 29 #[.agg #[.string r.s, .int .i64 r.W, u], .agg #[.string x.s, .slice a x.cs.length c]] w fun e w' => e = .returned (.bool (ty1 r x)) ∧ Below w.heap.size w w' := by
  cases hn : r.s.toList == x.s.toList with
  | false =>
    have HF : Hid (ty1 r x = false) := by simp [Hid, ty1, hn]
    go_enter Try.func29, Try.ntmps29
    go_wp2
    go_returns
    exact ⟨ret_bool (by rw [HF.out]), by repeat (first | (with_reducible exact Below.refl _ _) | (with_reducible refine Below.drew ?_) | (with_reducible refine Below.alloc ?_ ?hh _; case hh => first | (simp; done) | (simp; omega) | omega) | (with_reducible refine Below.setCell ?_ ?hh _; case hh => first | (simp; done) | (simp; omega) | omega) | refine bstep (by assumption) (by first | (simp; done) | (simp; omega) | omega) ?_)⟩
  | true =>
    have HT : Hid (ty1 r x = (r.W == (x.cs.length : Int))) := by simp [Hid, ty1, hn]
    go_enter Try.func29, Try.ntmps29
    go_wp2
    go_returns
    exact ⟨ret_bool (by rw [HT.out]), by repeat (first | (with_reducible exact Below.refl _ _) | (with_reducible refine Below.drew ?_) | (with_reducible refine Below.alloc ?_ ?hh _; case hh => first | (simp; done) | (simp; omega) | omega) | (with_reducible refine Below.setCell ?_ ?hh _; case hh => first | (simp; done) | (simp; omega) | omega) | refine bstep (by assumption) (by first | (simp; done) | (simp; omega) | omega) ?_)⟩
set_option maxHeartbeats 4000000 in
set_option maxRecDepth 100000 in
theorem equalFn_any (v u : Value) (rs : List R3) (hs : List S2) (w : World) (hr : RelsIs w v rs) (hu : SchsIs w u hs) :
    Calls Try.prog 28 #[v, u, .func (.func 29) #[] #[]] w fun e w' => e = .returned (.bool (tyB rs hs)) ∧ Below w.heap.size w w' := by
  obtain ⟨a, c, b, o, rfl, hl, hc, ha⟩ := hr.pick
  obtain ⟨a', c', b', o', rfl, hl', hc', ha'⟩ := hu.pick
  unfold maxLen at hc hc'
  clear hr hu
  by_cases hne : rs.length = hs.length
  rotate_left
  · have hneI : ¬ (rs.length : Int) = hs.length := by omega
    have HF : Hid (tyB rs hs = false) := tyB_len hne
    clear ha ha'
    go_enter Try.func28, Try.ntmps28
    go_wp2
    go_returns
    exact ⟨ret_bool (by rw [HF.out]), by go_grown⟩
  have HL : Hid (rs.length = hs.length) := hne
  have hnb : ((rs.length : Int) != (hs.length : Int)) = false := by simpa using (by omega : (rs.length : Int) = hs.length)
  clear hne
  go_enter Try.func28, Try.ntmps28
  go_wp2
  go_loopw [17] (fun i wr => ∃ k : Nat, k ≤ rs.length ∧ i = .int .i64 k ∧ Below w.heap.size w wr ∧ tyB rs hs = tyB (rs.drop k) (hs.drop k)) (fun i _ => rs.length - (intOf i).toNat)
  case atStart => exact ⟨0, Nat.zero_le _, rfl, by repeat (first | (with_reducible exact Below.refl _ _) | (with_reducible refine Below.drew ?_) | (with_reducible refine Below.alloc ?_ ?hh _; case hh => first | (simp; done) | (simp; omega) | omega) | (with_reducible refine Below.setCell ?_ ?hh _; case hh => first | (simp; done) | (simp; omega) | omega) | refine bstep (by assumption) (by first | (simp; done) | (simp; omega) | omega) ?_), by simp⟩
  case round =>
    obtain ⟨k, hk, rfl, hb, heq⟩ := hrel
    have HE : Hid (tyB rs hs = tyB (rs.drop k) (hs.drop k)) := heq
    have hzb := hb.size
    clear heq
    by_cases hlt : k < rs.length
    · have hlt' : k < hs.length := by have := HL.out; omega
      have hlI : (k : Int) < hs.length := by omega
      obtain ⟨rfl, hblt, hL⟩ := ha k hlt
      obtain ⟨rfl, hblt', hL'⟩ := ha' k hlt'
      obtain ⟨x, v, hx, c0, c1, c2, hR, hbr⟩ := hL.at hblt hb hlt
      obtain ⟨y, u, g, hy, d0, d1, hR', hbr'⟩ := hL'.at hblt' hb hlt'
      obtain ⟨av, lv, cv, rfl⟩ := hR.shape
      obtain ⟨au, cu, rfl, _, _⟩ := hR'.shape
      have HS : Hid (tyB (rs.drop k) (hs.drop k) = (ty1 x y && tyB (rs.drop (k + 1)) (hs.drop (k + 1)))) := tyB_step hx hy
      clear ha ha' hL hL' hx hy hR hR'
      obtain ⟨t1, HT⟩ : ∃ t1, Hid (ty1 x y = t1) := ⟨_, rfl⟩
      cases t1 with
      | false =>
        go_wp2_with (go_at_call 29; refine Calls.mono (typesFn_any x y _ _ _ _) ?_; rw [HT.out]; rintro e w1 ⟨rfl, hb1⟩; have hz1 := hb1.size; (try simp at hz1))
        go_returns
        exact ⟨ret_bool (by rw [HE.out, HS.out, HT.out]; rfl), by repeat (first | exact Below.refl _ _ | refine Below.drew ?_ | refine Below.alloc ?_ (by first | (simp; done) | (simp; omega) | omega) _ | refine Below.setCell ?_ (by first | (simp; done) | (simp; omega) | omega) _ | refine bstep (by assumption) (by first | (simp; done) | (simp; omega) | omega) ?_)⟩
      | true =>
        go_wp2_with (go_at_call 29; refine Calls.mono (typesFn_any x y _ _ _ _) ?_; rw [HT.out]; rintro e w1 ⟨rfl, hb1⟩; have hz1 := hb1.size; (try simp at hz1))
        go_roundw
        case rel => exact ⟨k + 1, hlt, by simp, by repeat (first | exact Below.refl _ _ | refine Below.drew ?_ | refine Below.alloc ?_ (by first | (simp; done) | (simp; omega) | omega) _ | refine Below.setCell ?_ (by first | (simp; done) | (simp; omega) | omega) _ | refine bstep (by assumption) (by first | (simp; done) | (simp; omega) | omega) ?_), by rw [HE.out, HS.out, HT.out]; rfl⟩
        case measure => simp [intOf]; omega
    · clear ha ha'
      go_wp2
      go_returns
      refine ⟨ret_bool ?_, hb⟩
      rw [HE.out, List.drop_eq_nil_of_le (by omega), List.drop_eq_nil_of_le (by have := HL.out; omega)]
      rfl
set_option maxHeartbeats 4000000 in
set_option maxRecDepth 100000 in
theorem implTypesOf_any (v u : Value) (rs : List R3) (hs : List S2) (w : World) (hr : RelsIs w v rs) (hu : SchsIs w u hs) :
    Calls Try.prog 14 #[v, u] w fun e w' => e = .returned (.bool (tyB rs hs)) ∧ Below w.heap.size w w' := by
  have hcall := equalFn_any v u rs hs w hr hu
  obtain ⟨a, l, c, rfl⟩ := hr.shape
  obtain ⟨a', l', c', rfl⟩ := hu.shape
  clear hr hu
  go_enter Try.func14, Try.ntmps14
  go_wp2_with (go_at_call 28; refine Calls.mono hcall ?_; rintro e w1 ⟨rfl, hb1⟩)
  go_returns
  exact ⟨rfl, hb1⟩
set_option maxHeartbeats 4000000 in
set_option maxRecDepth 100000 in
theorem specTypesOf_any (v u : Value) (rs : List R3) (hs : List S2) (w : World) (hr : RelsIs w v rs) (hu : SchsIs w u hs) :
    Calls Try.prog 12 #[v, u] w fun e w' => e = .returned (.bool (tyB rs hs)) ∧ Below w.heap.size w w' := by
  obtain ⟨a, c, b, o, rfl, hl, hc, ha⟩ := hr.pick
  obtain ⟨a', c', b', o', rfl, hl', hc', ha'⟩ := hu.pick
  unfold maxLen at hc hc'
  clear hr hu
  by_cases hne : rs.length = hs.length
  rotate_left
  · have hneI : ¬ (rs.length : Int) = hs.length := by omega
    have HF : Hid (tyB rs hs = false) := tyB_len hne
    clear ha ha'
    go_enter Try.func12, Try.ntmps12
    go_wp2
    go_returns
    exact ⟨ret_bool (by rw [HF.out]), by go_grown⟩
  have HL : Hid (rs.length = hs.length) := hne
  have hnb : ((rs.length : Int) != (hs.length : Int)) = false := by simpa using (by omega : (rs.length : Int) = hs.length)
  clear hne
  go_enter Try.func12, Try.ntmps12
  go_wp2
  go_loopw [5] (fun i wr => ∃ k : Nat, k ≤ rs.length ∧ i = .int .i64 k ∧ Below w.heap.size w wr ∧ tyB rs hs = tyB (rs.drop k) (hs.drop k)) (fun i _ => rs.length - (intOf i).toNat)
  case atStart => exact ⟨0, Nat.zero_le _, rfl, by repeat (first | (with_reducible exact Below.refl _ _) | (with_reducible refine Below.drew ?_) | (with_reducible refine Below.alloc ?_ ?hh _; case hh => first | (simp; done) | (simp; omega) | omega) | (with_reducible refine Below.setCell ?_ ?hh _; case hh => first | (simp; done) | (simp; omega) | omega) | refine bstep (by assumption) (by first | (simp; done) | (simp; omega) | omega) ?_), by simp⟩
  case round =>
    obtain ⟨k, hk, rfl, hb, heq⟩ := hrel
    have HE : Hid (tyB rs hs = tyB (rs.drop k) (hs.drop k)) := heq
    have hzb := hb.size
    clear heq
    by_cases hlt : k < rs.length
    · have hlt' : k < hs.length := by have := HL.out; omega
      have hlI : (k : Int) < hs.length := by omega
      obtain ⟨rfl, hblt, hL⟩ := ha k hlt
      obtain ⟨rfl, hblt', hL'⟩ := ha' k hlt'
      obtain ⟨x, v, hx, c0, c1, c2, hR, hbr⟩ := hL.at hblt hb hlt
      obtain ⟨y, u, g, hy, d0, d1, hR', hbr'⟩ := hL'.at hblt' hb hlt'
      obtain ⟨av, lv, cv, rfl⟩ := hR.shape
      obtain ⟨au, cu, rfl, _, _⟩ := hR'.shape
      have HS : Hid (tyB (rs.drop k) (hs.drop k) = (ty1 x y && tyB (rs.drop (k + 1)) (hs.drop (k + 1)))) := tyB_step hx hy
      clear ha ha' hL hL' hx hy hR hR'
      cases hn : x.s.toList == y.s.toList with
      | false =>
        have HT : Hid (ty1 x y = false) := by simp [Hid, ty1, hn]
        go_wp2_with fail
        go_quiet (fail)
        go_wp2
        go_returns
        exact ⟨ret_bool (by rw [HE.out, HS.out, HT.out]; rfl), hb.trans ((below_drewN _ _).mono hb.size)⟩
      | true =>
        cases hm : x.W == (y.cs.length : Int) with
        | false =>
          have HT : Hid (ty1 x y = false) := by simp [Hid, ty1, hm]
          go_wp2_with fail
          go_quiet (fail)
          go_wp2
          go_returns
          exact ⟨ret_bool (by rw [HE.out, HS.out, HT.out]; rfl), hb.trans ((below_drewN _ _).mono hb.size)⟩
        | true =>
          have HT : Hid (ty1 x y = true) := by simp [Hid, ty1, hn, hm]
          go_wp2_with fail
          go_quiet (fail)
          go_wp2
          go_roundw
          case rel => exact ⟨k + 1, hlt, by simp, hb.trans ((below_drewN _ _).mono hb.size), by rw [HE.out, HS.out, HT.out]; rfl⟩
          case measure => simp [intOf]; omega
    · clear ha ha'
      go_wp2
      go_returns
      refine ⟨ret_bool ?_, hb⟩
      rw [HE.out, List.drop_eq_nil_of_le (by omega), List.drop_eq_nil_of_le (by have := HL.out; omega)]
      rfl
end Go.Proofs.Ytfmdleomfpampaa
