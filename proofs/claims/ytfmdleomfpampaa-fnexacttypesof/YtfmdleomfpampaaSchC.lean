/- Own text. The contracts of the helpers on schemas: how much they weigh, that they are the same as others. -/
import Derived.Test.YtfmdleomfpampaaSchK
import Derived.Test.YtfmdleomfpampaaStrC
import Derived.Handy
import Derived.Deep.RegionHeld3
namespace Go.Proofs.Ytfmdleomfpampaa
open Go.RowKit
set_option linter.unusedVariables false
set_option maxHeartbeats 1000000 in
theorem szSchema_any (s : ByteArray) (v : Value) (cs : List ByteArray) (g : List Nat) (left : Int) (w : World) (hs : s.size ≤ maxLen) (hr : StrsF w v cs g) (hw : SsWf cs) (h0 : 0 ≤ left) (h1 : left ≤ 1048576) :
    Calls Try.prog 18 #[.agg #[.string s, v], .int .i64 left] w fun e w' => (∃ z : Int, e = .returned (.int .i64 z) ∧ -1 ≤ z ∧ z ≤ left ∧ (0 ≤ z → z + (s.size + (cs.length + wtSs cs)) = left)) ∧ Below w.heap.size w w' := by
  unfold maxLen at hs
  by_cases hbig : left - s.size < 0
  · go_enter Try.func18, Try.ntmps18
    go_wp2_with fail
    go_returns
    exact ⟨⟨-1, rfl, by omega, by omega, by omega⟩, by repeat (first | exact Below.refl _ _ | refine Below.drew ?_ | refine Below.alloc ?_ (by first | (simp; done) | (simp; omega) | omega) _ | refine Below.setCell ?_ (by first | (simp; done) | (simp; omega) | omega) _ | refine bstep (by assumption) (by first | (simp; done) | (simp; omega) | omega) ?_)⟩
  obtain ⟨a, c, rfl, _, _⟩ := hr.shape
  go_enter Try.func18, Try.ntmps18
  go_wp2_with fail
  refine Calls.mono (szStringS_any (.slice a cs.length c) cs g (left - s.size) _ (hr.below ?hb) hw (by omega) (by omega)) ?_
  case hb => repeat (first | exact Below.refl _ _ | refine Below.drew ?_ | refine Below.alloc ?_ (by first | (simp; done) | (simp; omega) | omega) _ | refine Below.setCell ?_ (by first | (simp; done) | (simp; omega) | omega) _ | refine bstep (by assumption) (by first | (simp; done) | (simp; omega) | omega) ?_)
  rintro e w1 ⟨⟨z1, rfl, l1, g1, s1⟩, hb1⟩
  have hz1 := hb1.size
  simp only [World.size_alloc] at hz1
  by_cases hn1 : z1 < 0
  · go_wp2_with fail
    go_returns
    exact ⟨⟨-1, rfl, by omega, by omega, by omega⟩, by repeat (first | exact Below.refl _ _ | refine Below.drew ?_ | refine Below.alloc ?_ (by first | (simp; done) | (simp; omega) | omega) _ | refine Below.setCell ?_ (by first | (simp; done) | (simp; omega) | omega) _ | refine bstep (by assumption) (by first | (simp; done) | (simp; omega) | omega) ?_)⟩
  · go_wp2_with fail
    go_returns
    exact ⟨⟨z1, rfl, by omega, by omega, fun h => by have := s1 h; omega⟩, by repeat (first | exact Below.refl _ _ | refine Below.drew ?_ | refine Below.alloc ?_ (by first | (simp; done) | (simp; omega) | omega) _ | refine Below.setCell ?_ (by first | (simp; done) | (simp; omega) | omega) _ | refine bstep (by assumption) (by first | (simp; done) | (simp; omega) | omega) ?_)⟩
set_option maxHeartbeats 2000000 in
set_option maxRecDepth 100000 in
theorem szSchemaS_any (v : Value) (rs : List S2) (left : Int) (w : World) (hr : SchsIs w v rs) (hw : HsWf rs) (h0 : 0 ≤ left) (h1 : left ≤ 1048576) :
    Calls Try.prog 6 #[v, .int .i64 left] w fun e w' => (∃ z : Int, e = .returned (.int .i64 z) ∧ -1 ≤ z ∧ z ≤ left ∧ (0 ≤ z → z + wtH rs = left)) ∧ Below w.heap.size w w' := by
  obtain ⟨a, c, b, o, rfl, hl, hc, ha⟩ := hr.pick
  unfold maxLen at hc
  by_cases hbig : left - rs.length < 0
  · go_enter Try.func6, Try.ntmps6
    go_wp2
    go_returns
    exact ⟨⟨-1, rfl, by omega, by omega, by omega⟩, by go_grown⟩
  go_enter Try.func6, Try.ntmps6
  go_wp2
  go_loopw [1, 5] (fun l i wr => ∃ k : Nat, k ≤ rs.length ∧ i = .int .i64 k ∧ l = .int .i64 (left - rs.length - wths (rs.take k)) ∧ 0 ≤ left - rs.length - wths (rs.take k) ∧ Below w.heap.size w wr) (fun _ i _ => rs.length - (intOf i).toNat)
  case atStart => exact ⟨0, Nat.zero_le _, rfl, by simp [wths], by simp [wths]; omega, by go_grown⟩
  case round =>
    obtain ⟨k, hk, rfl, rfl, hp, hb⟩ := hrel
    by_cases hlt : k < rs.length
    · have hzb := hb.size
      obtain ⟨rfl, hblt, hL⟩ := ha k hlt
      obtain ⟨x, u, g, hx, c0, c1, hR, hbr⟩ := hL.at hblt hb hlt
      obtain ⟨hxs, hxw⟩ := hw x (List.mem_of_getElem? hx)
      have hT : Hid (wths (rs.take (k + 1)) = wths (rs.take k) + wth x) := wths_take hx
      have hp1 : left - rs.length - wths (rs.take k) ≤ 1048576 := by omega
      clear ha hL hw hx
      go_wp2_with (go_at_call 18; refine (szSchema_any _ _ _ _ _ _ hxs hR hxw hp hp1).mono ?_; rintro e w1 ⟨⟨z1, rfl, l1, g1, s1⟩, hb1⟩)
      · go_returns
        exact ⟨⟨-1, rfl, by omega, by omega, by omega⟩, hb.trans (hb1.mono hb.size)⟩
      · have h9 : 0 ≤ z1 := by assumption
        have e1 := s1 h9
        have hT := hT.out
        unfold wth at hT
        refine ⟨⟨k + 1, hlt, by simp, by congr 1; omega, by omega, hb.trans (hb1.mono hb.size)⟩, by simp [intOf]; omega⟩
    · go_wp2
      go_returns
      have hkk : k = rs.length := by omega
      subst hkk
      refine ⟨⟨_, rfl, by omega, by omega, fun _ => ?_⟩, hb⟩
      rw [List.take_length]; unfold wtH; omega
set_option maxHeartbeats 1000000 in
theorem eqSchema_same (s : ByteArray) (v u : Value) (cs : List ByteArray) (g g' : List Nat) (w : World) (hr : StrsF w v cs g) (hu : StrsF w u cs g') :
    Calls Try.prog 25 #[.agg #[.string s, v], .agg #[.string s, u]] w fun e w' => e = .returned (.bool true) ∧ Below w.heap.size w w' := by
  obtain ⟨a, c, rfl, _, _⟩ := hr.shape
  obtain ⟨a', c', rfl, _, _⟩ := hu.shape
  go_enter Try.func25, Try.ntmps25
  go_wp2_with fail
  refine Calls.mono (eqStringS_same _ _ cs g g' _ (hr.below ?hb) (hu.below ?hc)) ?_
  case hb => repeat (first | exact Below.refl _ _ | refine Below.drew ?_ | refine Below.alloc ?_ (by first | (simp; done) | (simp; omega) | omega) _ | refine Below.setCell ?_ (by first | (simp; done) | (simp; omega) | omega) _ | refine bstep (by assumption) (by first | (simp; done) | (simp; omega) | omega) ?_)
  case hc => repeat (first | exact Below.refl _ _ | refine Below.drew ?_ | refine Below.alloc ?_ (by first | (simp; done) | (simp; omega) | omega) _ | refine Below.setCell ?_ (by first | (simp; done) | (simp; omega) | omega) _ | refine bstep (by assumption) (by first | (simp; done) | (simp; omega) | omega) ?_)
  rintro e w1 ⟨rfl, hb1⟩
  have hz1 := hb1.size
  simp only [World.size_alloc] at hz1
  go_wp2
  go_returns
  exact ⟨rfl, by repeat (first | exact Below.refl _ _ | refine Below.drew ?_ | refine Below.alloc ?_ (by first | (simp; done) | (simp; omega) | omega) _ | refine Below.setCell ?_ (by first | (simp; done) | (simp; omega) | omega) _ | refine bstep (by assumption) (by first | (simp; done) | (simp; omega) | omega) ?_)⟩
set_option maxHeartbeats 2000000 in
set_option maxRecDepth 100000 in
theorem eqSchemaS_same (v u : Value) (rs : List S2) (w : World) (hr : SchsIs w v rs) (hu : SchsIs w u rs) :
    Calls Try.prog 10 #[v, u] w fun e w' => e = .returned (.bool true) ∧ Below w.heap.size w w' := by
  obtain ⟨a, c, b, o, rfl, hl, hc, ha⟩ := hr.pick
  obtain ⟨a', c', b', o', rfl, hl', hc', ha'⟩ := hu.pick
  unfold maxLen at hc hc'
  clear hr hu
  go_enter Try.func10, Try.ntmps10
  go_wp2
  go_loopw [5] (fun i wr => ∃ k : Nat, k ≤ rs.length ∧ i = .int .i64 k ∧ Below w.heap.size w wr) (fun i _ => rs.length - (intOf i).toNat)
  case atStart => exact ⟨0, Nat.zero_le _, rfl, by go_grown⟩
  case round =>
    obtain ⟨k, hk, rfl, hb⟩ := hrel
    by_cases hlt : k < rs.length
    · have hzb := hb.size
      obtain ⟨rfl, hblt, hL⟩ := ha k hlt
      obtain ⟨rfl, hblt', hL'⟩ := ha' k hlt
      obtain ⟨x, v, g, hx, c0, c1, hR, hbr⟩ := hL.at hblt hb hlt
      obtain ⟨x', u, g', hx', c0', c1', hR', hbr'⟩ := hL'.at hblt' hb hlt
      obtain rfl : x = x' := by rw [hx] at hx'; exact Option.some.inj hx'
      clear ha ha' hL hL' hx hx'
      go_wp2_with fail
      go_region_held3 (fun w' => w'.cell? ⟨b, o + k * 2, none⟩ = some (.string x.s) ∧ w'.cell? ⟨b, o + k * 2 + 1, none⟩ = some v ∧ w'.cell? ⟨b', o' + k * 2, none⟩ = some (.string x.s) ∧ w'.cell? ⟨b', o' + k * 2 + 1, none⟩ = some u) (refine ⟨?_, ?_, ?_, ?_⟩ <;> first | (go_simp; done) | (exact cell_later (by assumption) (by go_simp))) (first | (go_at_call 25; refine (eqSchema_same x.s v u x.cs g g' _ (hR.below (by repeat (first | exact Below.refl _ _ | refine Below.drew ?_ | refine Below.alloc ?_ (by first | (simp; done) | (simp; omega) | omega) _ | refine Below.setCell ?_ (by first | (simp; done) | (simp; omega) | omega) _ | refine bstep (by assumption) (by first | (simp; done) | (simp; omega) | omega) ?_))) (hR'.below (by repeat (first | exact Below.refl _ _ | refine Below.drew ?_ | refine Below.alloc ?_ (by first | (simp; done) | (simp; omega) | omega) _ | refine Below.setCell ?_ (by first | (simp; done) | (simp; omega) | omega) _ | refine bstep (by assumption) (by first | (simp; done) | (simp; omega) | omega) ?_)))).mono ?_; rintro e w1 ⟨rfl, hb1⟩))
      go_wp2
      go_roundw
      case rel => exact ⟨k + 1, hlt, by simp, by repeat (first | exact Below.refl _ _ | refine Below.drew ?_ | refine Below.alloc ?_ (by first | (simp; done) | (simp; omega) | omega) _ | refine Below.setCell ?_ (by first | (simp; done) | (simp; omega) | omega) _ | refine bstep (by assumption) (by first | (simp; done) | (simp; omega) | omega) ?_)⟩
      case measure => simp [intOf]; omega
    · go_wp2
      go_returns
      exact ⟨rfl, hb⟩
end Go.Proofs.Ytfmdleomfpampaa
