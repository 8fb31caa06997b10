/- Own text. The contract of impl.StepOk. -/
import Derived.Test.YtdkbhoichmcodaaRelO
import Derived.Test.YtdkbhoichmcodaaSchI
import Derived.Handy
import Derived.BigQuiet
import Derived.Deep.RegionHeld3
namespace Go.Proofs.Ytdkbhoichmcodaa
open Go.RowKit
set_option linter.unusedVariables false
theorem isEmpty_len {α : Type} (l : List α) : ((l.length : Int) == 0) = l.isEmpty := by cases l <;> simp; omega
/-- one schema in a list of its own. -/
theorem schs_one {w : World} {s : ByteArray} {uc : Value} {cs : List ByteArray} {g : List Nat} (h : StrsF w uc cs g) {a : Option Addr} {B : Nat} (ha : a = some ⟨B, 0, none⟩) (hlt : B < w.heap.size) (h0 : w.cell? ⟨B, 0, none⟩ = some (.string s)) (h1 : w.cell? ⟨B, 1, none⟩ = some uc) : SchsIs w (.slice a 1 1) [⟨s, cs⟩] := by
  refine ⟨a, 1, rfl, Nat.le_refl _, by unfold maxLen; omega, fun _ => ⟨B, 0, ha, hlt, fun i x hx => ?_⟩⟩
  match i, hx with
  | 0, hx =>
    obtain rfl : (⟨s, cs⟩ : S2) = x := by simpa using hx
    exact ⟨uc, g, h0, h1, h⟩
  | i + 1, hx => simp at hx
set_option maxHeartbeats 4000000 in
set_option maxRecDepth 100000 in
theorem implStepOk_any (x : T5) (uc ur : Value) (w : World) (hw : x.wf) (hr : StpIs w uc ur x) :
    Calls Try.prog 27 #[(.agg #[.int .i64 x.k, .string x.s, uc, .string x.q, ur])] w fun e w' => e = .returned (.bool (okStep x)) ∧ Below w.heap.size w w' := by
  obtain ⟨_, ws, wc, wq, wr⟩ := hw
  obtain ⟨⟨ac, cc, rfl, _, _⟩, ar, cr, rfl, _, _⟩ := hr.shape
  obtain ⟨⟨g, hS⟩, hR⟩ := hr
  have e2 := isEmpty_len x.cs
  have e4 := isEmpty_len x.rs
  obtain ⟨b1, e1⟩ : ∃ b, x.s.toList.isEmpty = b := ⟨_, rfl⟩
  obtain ⟨b2, HB2⟩ : ∃ b, Hid (x.cs.isEmpty = b) := ⟨_, rfl⟩
  obtain ⟨b3, e3⟩ : ∃ b, x.q.toList.isEmpty = b := ⟨_, rfl⟩
  obtain ⟨b4, HB4⟩ : ∃ b, Hid (x.rs.isEmpty = b) := ⟨_, rfl⟩
  rw [HB2.out] at e2
  rw [HB4.out] at e4
  have HK : Hid (okStep x = if x.k = 0 then okSch [⟨x.s, x.cs⟩] && b3 && b4
    else if x.k = 1 then nameB x.s && b2 && decide (x.q.size ≤ 1000) && b4
    else if x.k = 2 then nameB x.s && b2 && b3 && b4
    else if x.k = 3 then b1 && b2 && b3 && okRels x.rs
    else false) := by simp only [Hid, okStep, e1, HB2.out, e3, HB4.out]
  by_cases k0 : x.k = 0
  · rw [if_pos k0] at HK
    have k0' : (x.k == 0) = true := by simpa using k0
    obtain ⟨bo, HO⟩ : ∃ b, Hid (okSch [⟨x.s, x.cs⟩] = b) := ⟨_, rfl⟩
    clear k0
    go_enter Try.func27, Try.ntmps27
    go_wp2_with fail
    go_quiet (fail)
    go_wp2_with fail
    refine Calls.mono (implSchemasOk_any _ [⟨x.s, x.cs⟩] _ ?hw (schs_one (s := x.s) (hS.below ?hb) rfl ?hl ?h0 ?h1)) ?_
    case hw => intro y hy; obtain rfl := List.mem_singleton.1 hy; exact ⟨ws, wc⟩
    case hb => repeat (first | (with_reducible exact Below.refl _ _) | (with_reducible refine Below.drew ?_) | (with_reducible refine belowN ?_ _) | (with_reducible refine Below.alloc ?_ ?hh _; case hh => first | (simp; done) | (simp; omega) | omega) | (with_reducible refine Below.setCell ?_ ?hh _; case hh => first | (simp; done) | (simp; omega) | omega) | refine bstep (by assumption) (by first | (simp; done) | (simp; omega) | omega) ?_)
    case hl => simp
    case h0 => go_simp
    case h1 => go_simp
    rw [HO.out]
    rintro e w1 ⟨rfl, hb1⟩
    have bel1 : Below w.heap.size w w1 := by
      refine Below.trans ?_ (hb1.mono ?_)
      · repeat (first | (with_reducible exact Below.refl _ _) | (with_reducible refine Below.drew ?_) | (with_reducible refine belowN ?_ _) | (with_reducible refine Below.alloc ?_ ?hh _; case hh => first | (simp; done) | (simp; omega) | omega) | (with_reducible refine Below.setCell ?_ ?hh _; case hh => first | (simp; done) | (simp; omega) | omega) | refine bstep (by assumption) (by first | (simp; done) | (simp; omega) | omega) ?_)
      · (simp; try omega)
    cases bo <;> cases b3 <;> cases b4 <;> (
      go_wp2_with fail
      go_returns
      exact ⟨ret_bool (by rw [HK.out, HO.out]; rfl), bel1⟩)
  have k0' : (x.k == 0) = false := by simpa using k0
  rw [if_neg k0] at HK
  clear k0
  by_cases k1 : x.k = 1
  · rw [if_pos k1] at HK
    have k1' : (x.k == 1) = true := by simpa using k1
    obtain ⟨bo, HO⟩ : ∃ b, Hid (nameB x.s = b) := ⟨_, rfl⟩
    have hq := wq
    unfold maxLen at hq
    by_cases hk : (x.q.size : Int) ≤ 1000
    · have HQ : Hid (decide (x.q.size ≤ 1000) = true) := by simp [Hid]; omega
      clear k1
      go_enter Try.func27, Try.ntmps27
      go_wp2_with fail
      go_quiet (fail)
      go_wp2_with fail
      refine Calls.mono (implName_any x.s _ ws) ?_
      rw [HO.out]
      rintro e w1 ⟨rfl, rfl⟩
      cases bo <;> cases b2 <;> cases b4 <;> (
        go_wp2_with fail
        go_returns
        exact ⟨ret_bool (by rw [HK.out, HO.out, HQ.out]; rfl), by repeat (first | (with_reducible exact Below.refl _ _) | (with_reducible refine Below.drew ?_) | (with_reducible refine belowN ?_ _) | (with_reducible refine Below.alloc ?_ ?hh _; case hh => first | (simp; done) | (simp; omega) | omega) | (with_reducible refine Below.setCell ?_ ?hh _; case hh => first | (simp; done) | (simp; omega) | omega) | refine bstep (by assumption) (by first | (simp; done) | (simp; omega) | omega) ?_)⟩)
    · have HQ : Hid (decide (x.q.size ≤ 1000) = false) := by simp [Hid]; omega
      clear k1
      go_enter Try.func27, Try.ntmps27
      go_wp2_with fail
      go_quiet (fail)
      go_wp2_with fail
      refine Calls.mono (implName_any x.s _ ws) ?_
      rw [HO.out]
      rintro e w1 ⟨rfl, rfl⟩
      cases bo <;> cases b2 <;> cases b4 <;> (
        go_wp2_with fail
        go_returns
        exact ⟨ret_bool (by rw [HK.out, HO.out, HQ.out]; rfl), by repeat (first | (with_reducible exact Below.refl _ _) | (with_reducible refine Below.drew ?_) | (with_reducible refine belowN ?_ _) | (with_reducible refine Below.alloc ?_ ?hh _; case hh => first | (simp; done) | (simp; omega) | omega) | (with_reducible refine Below.setCell ?_ ?hh _; case hh => first | (simp; done) | (simp; omega) | omega) | refine bstep (by assumption) (by first | (simp; done) | (simp; omega) | omega) ?_)⟩)
  have k1' : (x.k == 1) = false := by simpa using k1
  rw [if_neg k1] at HK
  clear k1
  by_cases k2 : x.k = 2
  · rw [if_pos k2] at HK
    have k2' : (x.k == 2) = true := by simpa using k2
    obtain ⟨bo, HO⟩ : ∃ b, Hid (nameB x.s = b) := ⟨_, rfl⟩
    clear k2
    go_enter Try.func27, Try.ntmps27
    go_wp2_with fail
    go_quiet (fail)
    go_wp2_with fail
    refine Calls.mono (implName_any x.s _ ws) ?_
    rw [HO.out]
    rintro e w1 ⟨rfl, rfl⟩
    cases bo <;> cases b2 <;> cases b3 <;> cases b4 <;> (
      go_wp2_with fail
      go_returns
      exact ⟨ret_bool (by rw [HK.out, HO.out]; rfl), by repeat (first | (with_reducible exact Below.refl _ _) | (with_reducible refine Below.drew ?_) | (with_reducible refine belowN ?_ _) | (with_reducible refine Below.alloc ?_ ?hh _; case hh => first | (simp; done) | (simp; omega) | omega) | (with_reducible refine Below.setCell ?_ ?hh _; case hh => first | (simp; done) | (simp; omega) | omega) | refine bstep (by assumption) (by first | (simp; done) | (simp; omega) | omega) ?_)⟩)
  have k2' : (x.k == 2) = false := by simpa using k2
  rw [if_neg k2] at HK
  clear k2
  by_cases k3 : x.k = 3
  · rw [if_pos k3] at HK
    have k3' : (x.k == 3) = true := by simpa using k3
    obtain ⟨bo, HO⟩ : ∃ b, Hid (okRels x.rs = b) := ⟨_, rfl⟩
    clear k3
    cases b1 with
    | false =>
      go_enter Try.func27, Try.ntmps27
      go_wp2_with fail
      go_quiet (fail)
      go_wp2_with fail
      go_returns
      exact ⟨ret_bool (by rw [HK.out]; rfl), by repeat (first | (with_reducible exact Below.refl _ _) | (with_reducible refine Below.drew ?_) | (with_reducible refine belowN ?_ _) | (with_reducible refine Below.alloc ?_ ?hh _; case hh => first | (simp; done) | (simp; omega) | omega) | (with_reducible refine Below.setCell ?_ ?hh _; case hh => first | (simp; done) | (simp; omega) | omega) | refine bstep (by assumption) (by first | (simp; done) | (simp; omega) | omega) ?_)⟩
    | true =>
    cases b2 with
    | false =>
      go_enter Try.func27, Try.ntmps27
      go_wp2_with fail
      go_quiet (fail)
      go_wp2_with fail
      go_returns
      exact ⟨ret_bool (by rw [HK.out]; rfl), by repeat (first | (with_reducible exact Below.refl _ _) | (with_reducible refine Below.drew ?_) | (with_reducible refine belowN ?_ _) | (with_reducible refine Below.alloc ?_ ?hh _; case hh => first | (simp; done) | (simp; omega) | omega) | (with_reducible refine Below.setCell ?_ ?hh _; case hh => first | (simp; done) | (simp; omega) | omega) | refine bstep (by assumption) (by first | (simp; done) | (simp; omega) | omega) ?_)⟩
    | true =>
    cases b3 with
    | false =>
      go_enter Try.func27, Try.ntmps27
      go_wp2_with fail
      go_quiet (fail)
      go_wp2_with fail
      go_returns
      exact ⟨ret_bool (by rw [HK.out]; rfl), by repeat (first | (with_reducible exact Below.refl _ _) | (with_reducible refine Below.drew ?_) | (with_reducible refine belowN ?_ _) | (with_reducible refine Below.alloc ?_ ?hh _; case hh => first | (simp; done) | (simp; omega) | omega) | (with_reducible refine Below.setCell ?_ ?hh _; case hh => first | (simp; done) | (simp; omega) | omega) | refine bstep (by assumption) (by first | (simp; done) | (simp; omega) | omega) ?_)⟩
    | true =>
    go_enter Try.func27, Try.ntmps27
    go_wp2_with fail
    go_quiet (fail)
    go_wp2_with fail
    refine Calls.mono (relsOk_any _ x.rs _ wr (hR.below ?hb)) ?_
    case hb => repeat (first | (with_reducible exact Below.refl _ _) | (with_reducible refine Below.drew ?_) | (with_reducible refine belowN ?_ _) | (with_reducible refine Below.alloc ?_ ?hh _; case hh => first | (simp; done) | (simp; omega) | omega) | (with_reducible refine Below.setCell ?_ ?hh _; case hh => first | (simp; done) | (simp; omega) | omega) | refine bstep (by assumption) (by first | (simp; done) | (simp; omega) | omega) ?_)
    rw [HO.out]
    rintro e w1 ⟨rfl, hb1⟩
    have bel1 : Below w.heap.size w w1 := by
      refine Below.trans ?_ (hb1.mono ?_)
      · repeat (first | (with_reducible exact Below.refl _ _) | (with_reducible refine Below.drew ?_) | (with_reducible refine belowN ?_ _) | (with_reducible refine Below.alloc ?_ ?hh _; case hh => first | (simp; done) | (simp; omega) | omega) | (with_reducible refine Below.setCell ?_ ?hh _; case hh => first | (simp; done) | (simp; omega) | omega) | refine bstep (by assumption) (by first | (simp; done) | (simp; omega) | omega) ?_)
      · (simp; try omega)
    go_wp2_with fail
    go_returns
    exact ⟨ret_bool (by rw [HK.out, HO.out]; rfl), bel1⟩
  have k3' : (x.k == 3) = false := by simpa using k3
  rw [if_neg k3] at HK
  clear k3
  go_enter Try.func27, Try.ntmps27
  go_wp2_with fail
  go_quiet (fail)
  go_wp2_with fail
  go_returns
  exact ⟨ret_bool (by rw [HK.out]), by repeat (first | (with_reducible exact Below.refl _ _) | (with_reducible refine Below.drew ?_) | (with_reducible refine belowN ?_ _) | (with_reducible refine Below.alloc ?_ ?hh _; case hh => first | (simp; done) | (simp; omega) | omega) | (with_reducible refine Below.setCell ?_ ?hh _; case hh => first | (simp; done) | (simp; omega) | omega) | refine bstep (by assumption) (by first | (simp; done) | (simp; omega) | omega) ?_)⟩
end Go.Proofs.Ytdkbhoichmcodaa
