/- Own text. The contracts of both CompareRow: they answer cmpRow, and write nothing that was there. -/
import Derived.Test.YtiaafgmjigbjlaaGreatDoorRowK
import Derived.Test.YtiaafgmjigbjlaaGreatDoorCmp
import Derived.Handy
import Derived.Deep.RegionHeld3
namespace Go.Proofs.YtiaafgmjigbjlaaGreatDoor
open Go.RowKit
set_option linter.unusedVariables false
/-- how two values stand. -/
def cmpW (x y : V3) : Int := cmpV x.k x.n x.s y.k y.n y.s
/-- -1, 0 or 1: how two rows stand. -/
def cmpRow : List V3 → List V3 → Int
  | [], [] => 0
  | [], _ :: _ => -1
  | _ :: _, [] => 1
  | x :: xs, y :: ys => if cmpW x y = 0 then cmpRow xs ys else cmpW x y
theorem cmpRow_step {vs us : List V3} {k : Nat} {x y : V3} (hx : vs[k]? = some x) (hy : us[k]? = some y) :
    cmpRow (vs.drop k) (us.drop k) = if cmpW x y = 0 then cmpRow (vs.drop (k + 1)) (us.drop (k + 1)) else cmpW x y := by
  obtain ⟨h1, rfl⟩ := List.getElem?_eq_some_iff.1 hx
  obtain ⟨h2, rfl⟩ := List.getElem?_eq_some_iff.1 hy
  rw [List.drop_eq_getElem_cons h1, List.drop_eq_getElem_cons h2]
  rfl
theorem cmpRow_end {vs us : List V3} {k : Nat} (hk : k ≤ vs.length) (hk' : k ≤ us.length) (h : ¬ (k < vs.length ∧ k < us.length)) : cmpRow (vs.drop k) (us.drop k) = cmpI vs.length us.length := by
  by_cases h1 : k < vs.length
  · have h2 : us.drop k = [] := by simp; omega
    rw [h2, List.drop_eq_getElem_cons h1]
    simp only [cmpRow, cmpI]
    rw [if_neg (by omega), if_pos (by omega)]
  · have h2 : vs.drop k = [] := by simp; omega
    rw [h2]
    by_cases h3 : k < us.length
    · rw [List.drop_eq_getElem_cons h3]
      simp only [cmpRow, cmpI]
      rw [if_pos (by omega)]
    · have h4 : us.drop k = [] := by simp; omega
      rw [h4]
      simp only [cmpRow, cmpI]
      rw [if_neg (by omega), if_neg (by omega)]
set_option maxHeartbeats 4000000 in
set_option maxRecDepth 100000 in
theorem specRow_any (v u : Value) (vs us : List V3) (w : World) (hr : RowIs w v vs) (hu : RowIs w u us) :
    Calls Tryz.prog 35 #[v, u] w fun e w' => e = .returned (.int .i64 (cmpRow vs us)) ∧ Below w.heap.size w w' := by
  obtain ⟨a, c, b, o, rfl, hl, hc, ha⟩ := hr.pick
  obtain ⟨a', c', b', o', rfl, hl', hc', ha'⟩ := hu.pick
  unfold maxLen at hc hc'
  clear hr hu
  go_enter Tryz.func35, Tryz.ntmps35
  go_wp2
  go_loopw [5] (fun i wr => ∃ k : Nat, k ≤ vs.length ∧ k ≤ us.length ∧ i = .int .i64 k ∧ Below w.heap.size w wr ∧ cmpRow vs us = cmpRow (vs.drop k) (us.drop k)) (fun i _ => vs.length - (intOf i).toNat)
  case atStart => exact ⟨0, Nat.zero_le _, Nat.zero_le _, rfl, by go_grown, by simp⟩
  case round =>
    obtain ⟨k, hk, hk', rfl, hb, heq⟩ := hrel
    have HE : Hid (cmpRow vs us = cmpRow (vs.drop k) (us.drop k)) := heq
    clear heq
    by_cases hlt : k < vs.length
    · by_cases hlt' : k < us.length
      · have hzb := hb.size
        obtain ⟨rfl, hblt, hL⟩ := ha k hlt
        obtain ⟨rfl, hblt', hL'⟩ := ha' k hlt'
        obtain ⟨x, hx, c0, c1, c2, hbr⟩ := hL.at hblt hb hlt
        obtain ⟨y, hy, c0', c1', c2', hbr'⟩ := hL'.at hblt' hb hlt'
        have HS : Hid (cmpRow (vs.drop k) (us.drop k) = if cmpW x y = 0 then cmpRow (vs.drop (k + 1)) (us.drop (k + 1)) else cmpW x y) := cmpRow_step hx hy
        clear ha ha' hL hL' hx hy
        go_wp2_with fail
        go_region_held3 (fun w' => w'.cell? ⟨b, o + k * 3, none⟩ = some (.int .i64 x.k) ∧ w'.cell? ⟨b, o + k * 3 + 1, none⟩ = some (.int .i64 x.n) ∧ w'.cell? ⟨b, o + k * 3 + 2, none⟩ = some (.string x.s) ∧ w'.cell? ⟨b', o' + k * 3, none⟩ = some (.int .i64 y.k) ∧ w'.cell? ⟨b', o' + k * 3 + 1, none⟩ = some (.int .i64 y.n) ∧ w'.cell? ⟨b', o' + k * 3 + 2, none⟩ = some (.string y.s)) (refine ⟨?_, ?_, ?_, ?_, ?_, ?_⟩ <;> first | (go_simp; done) | (exact cell_later (by assumption) (by go_simp))) (first | (go_at_call 52; refine (specCmp_any _ _ _ _ _ _ _).mono ?_; rintro e w1 ⟨rfl, hb1⟩))
        by_cases hz : cmpV x.k x.n x.s y.k y.n y.s = 0
        · go_wp2
          go_roundw
          case rel =>
            refine ⟨k + 1, hlt, hlt', by simp, by repeat (first | exact Below.refl _ _ | refine Below.drew ?_ | refine Below.alloc ?_ (by first | (simp; done) | (simp; omega) | omega) _ | refine Below.setCell ?_ (by first | (simp; done) | (simp; omega) | omega) _ | refine bstep (by assumption) (by first | (simp; done) | (simp; omega) | omega) ?_), ?_⟩
            rw [HE.out, HS.out, if_pos (show cmpW x y = 0 from hz)]
          case measure => simp [intOf]; omega
        · go_wp2
          go_returns
          refine ⟨ret_int ?_, by repeat (first | exact Below.refl _ _ | refine Below.drew ?_ | refine Below.alloc ?_ (by first | (simp; done) | (simp; omega) | omega) _ | refine Below.setCell ?_ (by first | (simp; done) | (simp; omega) | omega) _ | refine bstep (by assumption) (by first | (simp; done) | (simp; omega) | omega) ?_)⟩
          rw [HE.out, HS.out, if_neg (show ¬ cmpW x y = 0 from hz)]
          rfl
      · have HN : Hid (cmpRow (vs.drop k) (us.drop k) = cmpI vs.length us.length) := cmpRow_end hk hk' (by omega)
        clear ha ha'
        go_wp2
        all_goals (go_returns; refine ⟨ret_int ?_, by first | exact hb | repeat (first | exact Below.refl _ _ | refine Below.drew ?_ | refine Below.alloc ?_ (by first | (simp; done) | (simp; omega) | omega) _ | refine Below.setCell ?_ (by first | (simp; done) | (simp; omega) | omega) _ | refine bstep (by assumption) (by first | (simp; done) | (simp; omega) | omega) ?_)⟩)
        all_goals (rw [HE.out, HN.out]; try rfl)
        all_goals (unfold cmpI; first | (rw [if_pos (by omega)]; done) | (rw [if_neg (by omega), if_pos (by omega)]; done) | (rw [if_neg (by omega), if_neg (by omega)]; done))
    · have HN : Hid (cmpRow (vs.drop k) (us.drop k) = cmpI vs.length us.length) := cmpRow_end hk hk' (by omega)
      clear ha ha'
      go_wp2
      all_goals (go_returns; refine ⟨ret_int ?_, by first | exact hb | repeat (first | exact Below.refl _ _ | refine Below.drew ?_ | refine Below.alloc ?_ (by first | (simp; done) | (simp; omega) | omega) _ | refine Below.setCell ?_ (by first | (simp; done) | (simp; omega) | omega) _ | refine bstep (by assumption) (by first | (simp; done) | (simp; omega) | omega) ?_)⟩)
      all_goals (rw [HE.out, HN.out]; try rfl)
      all_goals (unfold cmpI; first | (rw [if_pos (by omega)]; done) | (rw [if_neg (by omega), if_pos (by omega)]; done) | (rw [if_neg (by omega), if_neg (by omega)]; done))
set_option maxHeartbeats 4000000 in
set_option maxRecDepth 100000 in
theorem implRow_any (v u : Value) (vs us : List V3) (w : World) (hr : RowIs w v vs) (hu : RowIs w u us) :
    Calls Tryz.prog 41 #[v, u] w fun e w' => e = .returned (.int .i64 (cmpRow vs us)) ∧ Below w.heap.size w w' := by
  obtain ⟨a, c, b, o, rfl, hl, hc, ha⟩ := hr.pick
  obtain ⟨a', c', b', o', rfl, hl', hc', ha'⟩ := hu.pick
  unfold maxLen at hc hc'
  clear hr hu
  go_enter Tryz.func41, Tryz.ntmps41
  go_wp2
  go_loopw [5] (fun i wr => ∃ k : Nat, k ≤ vs.length ∧ k ≤ us.length ∧ i = .int .i64 k ∧ Below w.heap.size w wr ∧ cmpRow vs us = cmpRow (vs.drop k) (us.drop k)) (fun i _ => vs.length - (intOf i).toNat)
  case atStart => exact ⟨0, Nat.zero_le _, Nat.zero_le _, rfl, by go_grown, by simp⟩
  case round =>
    obtain ⟨k, hk, hk', rfl, hb, heq⟩ := hrel
    have HE : Hid (cmpRow vs us = cmpRow (vs.drop k) (us.drop k)) := heq
    clear heq
    by_cases hlt : k < vs.length
    · by_cases hlt' : k < us.length
      · have hzb := hb.size
        obtain ⟨rfl, hblt, hL⟩ := ha k hlt
        obtain ⟨rfl, hblt', hL'⟩ := ha' k hlt'
        obtain ⟨x, hx, c0, c1, c2, hbr⟩ := hL.at hblt hb hlt
        obtain ⟨y, hy, c0', c1', c2', hbr'⟩ := hL'.at hblt' hb hlt'
        have HS : Hid (cmpRow (vs.drop k) (us.drop k) = if cmpW x y = 0 then cmpRow (vs.drop (k + 1)) (us.drop (k + 1)) else cmpW x y) := cmpRow_step hx hy
        clear ha ha' hL hL' hx hy
        go_wp2_with fail
        go_region_held3 (fun w' => w'.cell? ⟨b, o + k * 3, none⟩ = some (.int .i64 x.k) ∧ w'.cell? ⟨b, o + k * 3 + 1, none⟩ = some (.int .i64 x.n) ∧ w'.cell? ⟨b, o + k * 3 + 2, none⟩ = some (.string x.s) ∧ w'.cell? ⟨b', o' + k * 3, none⟩ = some (.int .i64 y.k) ∧ w'.cell? ⟨b', o' + k * 3 + 1, none⟩ = some (.int .i64 y.n) ∧ w'.cell? ⟨b', o' + k * 3 + 2, none⟩ = some (.string y.s)) (refine ⟨?_, ?_, ?_, ?_, ?_, ?_⟩ <;> first | (go_simp; done) | (exact cell_later (by assumption) (by go_simp))) (first | (go_at_call 57; refine (implCmp_any _ _ _ _ _ _ _).mono ?_; rintro e w1 ⟨rfl, hb1⟩))
        by_cases hz : cmpV x.k x.n x.s y.k y.n y.s = 0
        · go_wp2
          go_roundw
          case rel =>
            refine ⟨k + 1, hlt, hlt', by simp, by repeat (first | exact Below.refl _ _ | refine Below.drew ?_ | refine Below.alloc ?_ (by first | (simp; done) | (simp; omega) | omega) _ | refine Below.setCell ?_ (by first | (simp; done) | (simp; omega) | omega) _ | refine bstep (by assumption) (by first | (simp; done) | (simp; omega) | omega) ?_), ?_⟩
            rw [HE.out, HS.out, if_pos (show cmpW x y = 0 from hz)]
          case measure => simp [intOf]; omega
        · go_wp2
          go_returns
          refine ⟨ret_int ?_, by repeat (first | exact Below.refl _ _ | refine Below.drew ?_ | refine Below.alloc ?_ (by first | (simp; done) | (simp; omega) | omega) _ | refine Below.setCell ?_ (by first | (simp; done) | (simp; omega) | omega) _ | refine bstep (by assumption) (by first | (simp; done) | (simp; omega) | omega) ?_)⟩
          rw [HE.out, HS.out, if_neg (show ¬ cmpW x y = 0 from hz)]
          rfl
      · have HN : Hid (cmpRow (vs.drop k) (us.drop k) = cmpI vs.length us.length) := cmpRow_end hk hk' (by omega)
        clear ha ha'
        go_wp2_with (go_at_call 58; refine (cmpInt_any _ _ _).mono ?_; rintro e w1 ⟨rfl, rfl⟩)
        all_goals (go_returns; refine ⟨ret_int ?_, by first | exact hb | repeat (first | exact Below.refl _ _ | refine Below.drew ?_ | refine Below.alloc ?_ (by first | (simp; done) | (simp; omega) | omega) _ | refine Below.setCell ?_ (by first | (simp; done) | (simp; omega) | omega) _ | refine bstep (by assumption) (by first | (simp; done) | (simp; omega) | omega) ?_)⟩)
        all_goals (rw [HE.out, HN.out]; try rfl)
        all_goals (unfold cmpI; first | (rw [if_pos (by omega)]; done) | (rw [if_neg (by omega), if_pos (by omega)]; done) | (rw [if_neg (by omega), if_neg (by omega)]; done))
    · have HN : Hid (cmpRow (vs.drop k) (us.drop k) = cmpI vs.length us.length) := cmpRow_end hk hk' (by omega)
      clear ha ha'
      go_wp2_with (go_at_call 58; refine (cmpInt_any _ _ _).mono ?_; rintro e w1 ⟨rfl, rfl⟩)
      all_goals (go_returns; refine ⟨ret_int ?_, by first | exact hb | repeat (first | exact Below.refl _ _ | refine Below.drew ?_ | refine Below.alloc ?_ (by first | (simp; done) | (simp; omega) | omega) _ | refine Below.setCell ?_ (by first | (simp; done) | (simp; omega) | omega) _ | refine bstep (by assumption) (by first | (simp; done) | (simp; omega) | omega) ?_)⟩)
      all_goals (rw [HE.out, HN.out]; try rfl)
      all_goals (unfold cmpI; first | (rw [if_pos (by omega)]; done) | (rw [if_neg (by omega), if_pos (by omega)]; done) | (rw [if_neg (by omega), if_neg (by omega)]; done))
end Go.Proofs.YtiaafgmjigbjlaaGreatDoor
