/- Own texts, joined: contracts that the law's proof goes by. -/
import Derived.Test.YtaeibfipcenhaaaGreatDoorGLViewsOk1
import Derived.Handy
import Derived.Deep.RegionHeld3
import Derived.Test.YtaeibfipcenhaaaGreatDoorGLViewsOk2
namespace Go.Proofs.YtaeibfipcenhaaaGreatDoor
open Go.RowKit
set_option linter.unusedVariables false
def cmpI (x y : Int) : Int := if x < y then -1 else if y < x then 1 else 0
def cmpS (s t : ByteArray) : Int := if Op.bytesLess s.toList t.toList = true then -1 else if s.toList = t.toList then 0 else 1
def orI (x y z : Int) : Int := if x = 0 then (if y = 0 then z else y) else x
/-- -1, 0 or 1: how two values stand. -/
def cmpV (k n : Int) (s : ByteArray) (k' n' : Int) (s' : ByteArray) : Int := orI (cmpI k k') (cmpI n n') (cmpS s s')
set_option maxHeartbeats 1000000 in
theorem cmpInt_any (x y : Int) (w : World) :
    Calls Tryz.prog 92 #[.int .i64 x, .int .i64 y] w fun e w' => e = .returned (.int .i64 (cmpI x y)) ∧ w' = w := by
  rcases Int.lt_trichotomy x y with h | h | h
  · go_enter Tryz.func92, Tryz.ntmps92
    go_wp2
    go_returns
    exact ⟨by simp [cmpI, h], rfl⟩
  · subst h
    go_enter Tryz.func92, Tryz.ntmps92
    go_wp2
    go_returns
    exact ⟨by simp [cmpI], rfl⟩
  · have h' : ¬ x < y := by omega
    go_enter Tryz.func92, Tryz.ntmps92
    go_wp2
    go_returns
    exact ⟨by simp [cmpI, h, h'], rfl⟩
set_option maxHeartbeats 1000000 in
theorem cmpStr_any (x y : ByteArray) (w : World) :
    Calls Tryz.prog 107 #[.string x, .string y] w fun e w' => e = .returned (.int .i64 (cmpS x y)) ∧ w' = w := by
  go_enter Tryz.func107, Tryz.ntmps107
  go_wp2
  all_goals go_returns
  all_goals (refine ⟨ret_int ?_, rfl⟩; simp_all [cmpS])
set_option maxHeartbeats 1000000 in
theorem or_any (b : Nat) (x y z : Int) (w : World) (h0 : w.cell? ⟨b, 0, none⟩ = some (.int .i64 x)) (h1 : w.cell? ⟨b, 1, none⟩ = some (.int .i64 y)) (h2 : w.cell? ⟨b, 2, none⟩ = some (.int .i64 z)) :
    Calls Tryz.prog 106 #[.slice (some ⟨b, 0, none⟩) 3 3] w fun e w' => e = .returned (.int .i64 (orI x y z)) ∧ w' = w := by
  go_enter Tryz.func106, Tryz.ntmps106
  go_wp2
  go_rounds 4
  all_goals go_returns
  all_goals (refine ⟨ret_int ?_, rfl⟩; clear h0 h1 h2; simp_all [orI])
theorem cmpV_lt0 (k n k' n' : Int) (s s' : ByteArray) (h : k < k') : cmpV k n s k' n' s' = -1 := by simp [cmpV, cmpI, orI, h]
theorem cmpV_gt0 (k n k' n' : Int) (s s' : ByteArray) (h : k' < k) : cmpV k n s k' n' s' = 1 := by simp [cmpV, cmpI, orI, h, show ¬ k < k' from by omega]
theorem cmpV_lt1 (k n k' n' : Int) (s s' : ByteArray) (h0 : k' ≤ k) (h1 : k ≤ k') (h : n < n') : cmpV k n s k' n' s' = -1 := by simp [cmpV, cmpI, orI, h, show ¬ k < k' from by omega, show ¬ k' < k from by omega]
theorem cmpV_gt1 (k n k' n' : Int) (s s' : ByteArray) (h0 : k' ≤ k) (h1 : k ≤ k') (h : n' < n) : cmpV k n s k' n' s' = 1 := by simp [cmpV, cmpI, orI, h, show ¬ k < k' from by omega, show ¬ k' < k from by omega, show ¬ n < n' from by omega]
theorem cmpV_s (k n k' n' : Int) (s s' : ByteArray) (h0 : k' ≤ k) (h1 : k ≤ k') (h2 : n' ≤ n) (h3 : n ≤ n') : cmpV k n s k' n' s' = cmpS s s' := by simp [cmpV, cmpI, orI, show ¬ k < k' from by omega, show ¬ k' < k from by omega, show ¬ n < n' from by omega, show ¬ n' < n from by omega]
set_option maxHeartbeats 1000000 in
set_option maxRecDepth 100000 in
theorem specCmp_any (k n k' n' : Int) (s s' : ByteArray) (w : World) :
    Calls Tryz.prog 88 #[(.agg #[.int .i64 k, .int .i64 n, .string s]), (.agg #[.int .i64 k', .int .i64 n', .string s'])] w fun e w' => e = .returned (.int .i64 (cmpV k n s k' n' s')) ∧ Below w.heap.size w w' := by
  go_enter Tryz.func88, Tryz.ntmps88
  go_wp2
  all_goals (go_returns; refine ⟨ret_int ?_, ?_⟩)
  all_goals first | (go_grown; done) | (rw [cmpV_lt0 _ _ _ _ _ _ (by assumption)]; done) | (rw [cmpV_gt0 _ _ _ _ _ _ (by assumption)]; done) | (rw [cmpV_lt1 _ _ _ _ _ _ (by assumption) (by assumption) (by assumption)]; done) | (rw [cmpV_gt1 _ _ _ _ _ _ (by assumption) (by assumption) (by assumption)]; done) | (rw [cmpV_s _ _ _ _ _ _ (by assumption) (by assumption) (by assumption) (by assumption)]; simp_all [cmpS]; done)
set_option maxHeartbeats 2000000 in
set_option maxRecDepth 100000 in
theorem implCmp_any (k n k' n' : Int) (s s' : ByteArray) (w : World) :
    Calls Tryz.prog 91 #[(.agg #[.int .i64 k, .int .i64 n, .string s]), (.agg #[.int .i64 k', .int .i64 n', .string s'])] w fun e w' => e = .returned (.int .i64 (cmpV k n s k' n' s')) ∧ Below w.heap.size w w' := by
  go_enter Tryz.func91, Tryz.ntmps91
  go_wp2_with fail
  go_region_held3 (fun w' => w'.cell? ⟨w.heap.size, 0, none⟩ = some (.int .i64 k) ∧ w'.cell? ⟨w.heap.size, 1, none⟩ = some (.int .i64 n) ∧ w'.cell? ⟨w.heap.size, 2, none⟩ = some (.string s) ∧ w'.cell? ⟨w.heap.size + 1, 0, none⟩ = some (.int .i64 k') ∧ w'.cell? ⟨w.heap.size + 1, 1, none⟩ = some (.int .i64 n') ∧ w'.cell? ⟨w.heap.size + 1, 2, none⟩ = some (.string s')) (go_keep) (first | (go_at_call 92; refine (cmpInt_any _ _ _).mono ?_; rintro e w' ⟨rfl, rfl⟩) | (go_at_call 107; refine (cmpStr_any _ _ _).mono ?_; rintro e w' ⟨rfl, rfl⟩) | (go_at_call 106; refine Calls.mono (or_any _ (cmpI k k') (cmpI n n') (cmpS s s') _ ?h0 ?h1 ?h2) ?hk; (case h0 => go_simp); (case h1 => go_simp); (case h2 => go_simp); rintro e w' ⟨rfl, rfl⟩))
  all_goals go_wp2
  all_goals (go_returns; refine ⟨ret_int ?_, ?_⟩)
  all_goals first | (go_grown; done) | rfl
end Go.Proofs.YtaeibfipcenhaaaGreatDoor
namespace Go.Proofs.YtaeibfipcenhaaaGreatDoor
open Go.RowKit
set_option linter.unusedVariables false
/-- how two values stand. -/
def cmpW (x y : V3) : Int := cmpV x.k x.n x.s y.k y.n y.s
/-- -1, 0 or 1: how two rows stand. -/
def cmpRow : List V3 → List V3 → Int
  | [], [] => 0
  | [], _ :: _ => -1
  | _ :: _, [] => 1
  | x :: xs, y :: ys => if cmpW x y = 0 then cmpRow xs ys else cmpW x y
theorem cmpRow_step {vs us : List V3} {k : Nat} {x y : V3} (hx : vs[k]? = some x) (hy : us[k]? = some y) :
    cmpRow (vs.drop k) (us.drop k) = if cmpW x y = 0 then cmpRow (vs.drop (k + 1)) (us.drop (k + 1)) else cmpW x y := by
  obtain ⟨h1, rfl⟩ := List.getElem?_eq_some_iff.1 hx
  obtain ⟨h2, rfl⟩ := List.getElem?_eq_some_iff.1 hy
  rw [List.drop_eq_getElem_cons h1, List.drop_eq_getElem_cons h2]
  rfl
theorem cmpRow_end {vs us : List V3} {k : Nat} (hk : k ≤ vs.length) (hk' : k ≤ us.length) (h : ¬ (k < vs.length ∧ k < us.length)) : cmpRow (vs.drop k) (us.drop k) = cmpI vs.length us.length := by
  by_cases h1 : k < vs.length
  · have h2 : us.drop k = [] := by simp; omega
    rw [h2, List.drop_eq_getElem_cons h1]
    simp only [cmpRow, cmpI]
    rw [if_neg (by omega), if_pos (by omega)]
  · have h2 : vs.drop k = [] := by simp; omega
    rw [h2]
    by_cases h3 : k < us.length
    · rw [List.drop_eq_getElem_cons h3]
      simp only [cmpRow, cmpI]
      rw [if_pos (by omega)]
    · have h4 : us.drop k = [] := by simp; omega
      rw [h4]
      simp only [cmpRow, cmpI]
      rw [if_neg (by omega), if_neg (by omega)]
set_option maxHeartbeats 4000000 in
set_option maxRecDepth 100000 in
theorem specRow_any (v u : Value) (vs us : List V3) (w : World) (hr : RowIs w v vs) (hu : RowIs w u us) :
    Calls Tryz.prog 69 #[v, u] w fun e w' => e = .returned (.int .i64 (cmpRow vs us)) ∧ Below w.heap.size w w' := by
  obtain ⟨a, c, b, o, rfl, hl, hc, ha⟩ := hr.pick
  obtain ⟨a', c', b', o', rfl, hl', hc', ha'⟩ := hu.pick
  unfold maxLen at hc hc'
  clear hr hu
  go_enter Tryz.func69, Tryz.ntmps69
  go_wp2
  go_loopw [5] (fun i wr => ∃ k : Nat, k ≤ vs.length ∧ k ≤ us.length ∧ i = .int .i64 k ∧ Below w.heap.size w wr ∧ cmpRow vs us = cmpRow (vs.drop k) (us.drop k)) (fun i _ => vs.length - (intOf i).toNat)
  case atStart => exact ⟨0, Nat.zero_le _, Nat.zero_le _, rfl, by go_grown, by simp⟩
  case round =>
    obtain ⟨k, hk, hk', rfl, hb, heq⟩ := hrel
    have HE : Hid (cmpRow vs us = cmpRow (vs.drop k) (us.drop k)) := heq
    clear heq
    by_cases hlt : k < vs.length
    · by_cases hlt' : k < us.length
      · have hzb := hb.size
        obtain ⟨rfl, hblt, hL⟩ := ha k hlt
        obtain ⟨rfl, hblt', hL'⟩ := ha' k hlt'
        obtain ⟨x, hx, c0, c1, c2, hbr⟩ := hL.at hblt hb hlt
        obtain ⟨y, hy, c0', c1', c2', hbr'⟩ := hL'.at hblt' hb hlt'
        have HS : Hid (cmpRow (vs.drop k) (us.drop k) = if cmpW x y = 0 then cmpRow (vs.drop (k + 1)) (us.drop (k + 1)) else cmpW x y) := cmpRow_step hx hy
        clear ha ha' hL hL' hx hy
        go_wp2_with fail
        go_region_held3 (fun w' => w'.cell? ⟨b, o + k * 3, none⟩ = some (.int .i64 x.k) ∧ w'.cell? ⟨b, o + k * 3 + 1, none⟩ = some (.int .i64 x.n) ∧ w'.cell? ⟨b, o + k * 3 + 2, none⟩ = some (.string x.s) ∧ w'.cell? ⟨b', o' + k * 3, none⟩ = some (.int .i64 y.k) ∧ w'.cell? ⟨b', o' + k * 3 + 1, none⟩ = some (.int .i64 y.n) ∧ w'.cell? ⟨b', o' + k * 3 + 2, none⟩ = some (.string y.s)) (refine ⟨?_, ?_, ?_, ?_, ?_, ?_⟩ <;> first | (go_simp; done) | (exact cell_later (by assumption) (by go_simp))) (first | (go_at_call 88; refine (specCmp_any _ _ _ _ _ _ _).mono ?_; rintro e w1 ⟨rfl, hb1⟩))
        by_cases hz : cmpV x.k x.n x.s y.k y.n y.s = 0
        · go_wp2
          go_roundw
          case rel =>
            refine ⟨k + 1, hlt, hlt', by simp, by repeat (first | exact Below.refl _ _ | refine Below.drew ?_ | refine Below.alloc ?_ (by first | (simp; done) | (simp; omega) | omega) _ | refine Below.setCell ?_ (by first | (simp; done) | (simp; omega) | omega) _ | refine bstep (by assumption) (by first | (simp; done) | (simp; omega) | omega) ?_), ?_⟩
            rw [HE.out, HS.out, if_pos (show cmpW x y = 0 from hz)]
          case measure => simp [intOf]; omega
        · go_wp2
          go_returns
          refine ⟨ret_int ?_, by repeat (first | exact Below.refl _ _ | refine Below.drew ?_ | refine Below.alloc ?_ (by first | (simp; done) | (simp; omega) | omega) _ | refine Below.setCell ?_ (by first | (simp; done) | (simp; omega) | omega) _ | refine bstep (by assumption) (by first | (simp; done) | (simp; omega) | omega) ?_)⟩
          rw [HE.out, HS.out, if_neg (show ¬ cmpW x y = 0 from hz)]
          rfl
      · have HN : Hid (cmpRow (vs.drop k) (us.drop k) = cmpI vs.length us.length) := cmpRow_end hk hk' (by omega)
        clear ha ha'
        go_wp2
        all_goals (go_returns; refine ⟨ret_int ?_, by first | exact hb | repeat (first | exact Below.refl _ _ | refine Below.drew ?_ | refine Below.alloc ?_ (by first | (simp; done) | (simp; omega) | omega) _ | refine Below.setCell ?_ (by first | (simp; done) | (simp; omega) | omega) _ | refine bstep (by assumption) (by first | (simp; done) | (simp; omega) | omega) ?_)⟩)
        all_goals (rw [HE.out, HN.out]; try rfl)
        all_goals (unfold cmpI; first | (rw [if_pos (by omega)]; done) | (rw [if_neg (by omega), if_pos (by omega)]; done) | (rw [if_neg (by omega), if_neg (by omega)]; done))
    · have HN : Hid (cmpRow (vs.drop k) (us.drop k) = cmpI vs.length us.length) := cmpRow_end hk hk' (by omega)
      clear ha ha'
      go_wp2
      all_goals (go_returns; refine ⟨ret_int ?_, by first | exact hb | repeat (first | exact Below.refl _ _ | refine Below.drew ?_ | refine Below.alloc ?_ (by first | (simp; done) | (simp; omega) | omega) _ | refine Below.setCell ?_ (by first | (simp; done) | (simp; omega) | omega) _ | refine bstep (by assumption) (by first | (simp; done) | (simp; omega) | omega) ?_)⟩)
      all_goals (rw [HE.out, HN.out]; try rfl)
      all_goals (unfold cmpI; first | (rw [if_pos (by omega)]; done) | (rw [if_neg (by omega), if_pos (by omega)]; done) | (rw [if_neg (by omega), if_neg (by omega)]; done))
set_option maxHeartbeats 4000000 in
set_option maxRecDepth 100000 in
theorem implRow_any (v u : Value) (vs us : List V3) (w : World) (hr : RowIs w v vs) (hu : RowIs w u us) :
    Calls Tryz.prog 74 #[v, u] w fun e w' => e = .returned (.int .i64 (cmpRow vs us)) ∧ Below w.heap.size w w' := by
  obtain ⟨a, c, b, o, rfl, hl, hc, ha⟩ := hr.pick
  obtain ⟨a', c', b', o', rfl, hl', hc', ha'⟩ := hu.pick
  unfold maxLen at hc hc'
  clear hr hu
  go_enter Tryz.func74, Tryz.ntmps74
  go_wp2
  go_loopw [5] (fun i wr => ∃ k : Nat, k ≤ vs.length ∧ k ≤ us.length ∧ i = .int .i64 k ∧ Below w.heap.size w wr ∧ cmpRow vs us = cmpRow (vs.drop k) (us.drop k)) (fun i _ => vs.length - (intOf i).toNat)
  case atStart => exact ⟨0, Nat.zero_le _, Nat.zero_le _, rfl, by go_grown, by simp⟩
  case round =>
    obtain ⟨k, hk, hk', rfl, hb, heq⟩ := hrel
    have HE : Hid (cmpRow vs us = cmpRow (vs.drop k) (us.drop k)) := heq
    clear heq
    by_cases hlt : k < vs.length
    · by_cases hlt' : k < us.length
      · have hzb := hb.size
        obtain ⟨rfl, hblt, hL⟩ := ha k hlt
        obtain ⟨rfl, hblt', hL'⟩ := ha' k hlt'
        obtain ⟨x, hx, c0, c1, c2, hbr⟩ := hL.at hblt hb hlt
        obtain ⟨y, hy, c0', c1', c2', hbr'⟩ := hL'.at hblt' hb hlt'
        have HS : Hid (cmpRow (vs.drop k) (us.drop k) = if cmpW x y = 0 then cmpRow (vs.drop (k + 1)) (us.drop (k + 1)) else cmpW x y) := cmpRow_step hx hy
        clear ha ha' hL hL' hx hy
        go_wp2_with fail
        go_region_held3 (fun w' => w'.cell? ⟨b, o + k * 3, none⟩ = some (.int .i64 x.k) ∧ w'.cell? ⟨b, o + k * 3 + 1, none⟩ = some (.int .i64 x.n) ∧ w'.cell? ⟨b, o + k * 3 + 2, none⟩ = some (.string x.s) ∧ w'.cell? ⟨b', o' + k * 3, none⟩ = some (.int .i64 y.k) ∧ w'.cell? ⟨b', o' + k * 3 + 1, none⟩ = some (.int .i64 y.n) ∧ w'.cell? ⟨b', o' + k * 3 + 2, none⟩ = some (.string y.s)) (refine ⟨?_, ?_, ?_, ?_, ?_, ?_⟩ <;> first | (go_simp; done) | (exact cell_later (by assumption) (by go_simp))) (first | (go_at_call 91; refine (implCmp_any _ _ _ _ _ _ _).mono ?_; rintro e w1 ⟨rfl, hb1⟩))
        by_cases hz : cmpV x.k x.n x.s y.k y.n y.s = 0
        · go_wp2
          go_roundw
          case rel =>
            refine ⟨k + 1, hlt, hlt', by simp, by repeat (first | exact Below.refl _ _ | refine Below.drew ?_ | refine Below.alloc ?_ (by first | (simp; done) | (simp; omega) | omega) _ | refine Below.setCell ?_ (by first | (simp; done) | (simp; omega) | omega) _ | refine bstep (by assumption) (by first | (simp; done) | (simp; omega) | omega) ?_), ?_⟩
            rw [HE.out, HS.out, if_pos (show cmpW x y = 0 from hz)]
          case measure => simp [intOf]; omega
        · go_wp2
          go_returns
          refine ⟨ret_int ?_, by repeat (first | exact Below.refl _ _ | refine Below.drew ?_ | refine Below.alloc ?_ (by first | (simp; done) | (simp; omega) | omega) _ | refine Below.setCell ?_ (by first | (simp; done) | (simp; omega) | omega) _ | refine bstep (by assumption) (by first | (simp; done) | (simp; omega) | omega) ?_)⟩
          rw [HE.out, HS.out, if_neg (show ¬ cmpW x y = 0 from hz)]
          rfl
      · have HN : Hid (cmpRow (vs.drop k) (us.drop k) = cmpI vs.length us.length) := cmpRow_end hk hk' (by omega)
        clear ha ha'
        go_wp2_with (go_at_call 92; refine (cmpInt_any _ _ _).mono ?_; rintro e w1 ⟨rfl, rfl⟩)
        all_goals (go_returns; refine ⟨ret_int ?_, by first | exact hb | repeat (first | exact Below.refl _ _ | refine Below.drew ?_ | refine Below.alloc ?_ (by first | (simp; done) | (simp; omega) | omega) _ | refine Below.setCell ?_ (by first | (simp; done) | (simp; omega) | omega) _ | refine bstep (by assumption) (by first | (simp; done) | (simp; omega) | omega) ?_)⟩)
        all_goals (rw [HE.out, HN.out]; try rfl)
        all_goals (unfold cmpI; first | (rw [if_pos (by omega)]; done) | (rw [if_neg (by omega), if_pos (by omega)]; done) | (rw [if_neg (by omega), if_neg (by omega)]; done))
    · have HN : Hid (cmpRow (vs.drop k) (us.drop k) = cmpI vs.length us.length) := cmpRow_end hk hk' (by omega)
      clear ha ha'
      go_wp2_with (go_at_call 92; refine (cmpInt_any _ _ _).mono ?_; rintro e w1 ⟨rfl, rfl⟩)
      all_goals (go_returns; refine ⟨ret_int ?_, by first | exact hb | repeat (first | exact Below.refl _ _ | refine Below.drew ?_ | refine Below.alloc ?_ (by first | (simp; done) | (simp; omega) | omega) _ | refine Below.setCell ?_ (by first | (simp; done) | (simp; omega) | omega) _ | refine bstep (by assumption) (by first | (simp; done) | (simp; omega) | omega) ?_)⟩)
      all_goals (rw [HE.out, HN.out]; try rfl)
      all_goals (unfold cmpI; first | (rw [if_pos (by omega)]; done) | (rw [if_neg (by omega), if_pos (by omega)]; done) | (rw [if_neg (by omega), if_neg (by omega)]; done))
end Go.Proofs.YtaeibfipcenhaaaGreatDoor
namespace Go.Proofs.YtaeibfipcenhaaaGreatDoor
open Go.RowKit
set_option linter.unusedVariables false
set_option linter.unusedSimpArgs false
theorem blQ_irrefl : ∀ (x : List UInt8), Op.bytesLess x x = false
  | [] => by simp [Op.bytesLess]
  | a :: x => by
    have e : ¬ a < a := by simp
    simp [Op.bytesLess, e, blQ_irrefl x]
theorem blQ_total : ∀ {x y : List UInt8}, Op.bytesLess x y = false → x ≠ y → Op.bytesLess y x = true
  | [], [], _, h => absurd rfl h
  | [], b :: y, h, _ => by simp [Op.bytesLess] at h
  | a :: x, [], _, _ => by simp [Op.bytesLess]
  | a :: x, b :: y, h, hn => by
    simp only [Op.bytesLess] at h ⊢
    rcases Nat.lt_trichotomy a.toNat b.toNat with h1 | h1 | h1
    · have e : a < b := by simp [UInt8.lt_iff_toNat_lt]; omega
      simp [e] at h
    · obtain rfl : a = b := UInt8.toNat_inj.1 h1
      have e : ¬ a < a := by simp
      simp [e] at h ⊢
      exact blQ_total h (by rintro rfl; exact hn rfl)
    · have e : b < a := by simp [UInt8.lt_iff_toNat_lt]; omega
      simp [e]
theorem blQ_asymm : ∀ {x y : List UInt8}, Op.bytesLess x y = true → Op.bytesLess y x = false
  | [], [], h => by simp [Op.bytesLess] at h
  | [], b :: y, _ => by simp [Op.bytesLess]
  | a :: x, [], h => by simp [Op.bytesLess] at h
  | a :: x, b :: y, h => by
    simp only [Op.bytesLess] at h ⊢
    rcases Nat.lt_trichotomy a.toNat b.toNat with h1 | h1 | h1
    · have e : ¬ b < a := by simp [UInt8.lt_iff_toNat_lt]; omega
      have e' : ¬ b = a := by rintro rfl; omega
      simp [e, e']
    · obtain rfl : a = b := UInt8.toNat_inj.1 h1
      have e : ¬ a < a := by simp
      simp [e] at h ⊢
      exact blQ_asymm h
    · have e : ¬ a < b := by simp [UInt8.lt_iff_toNat_lt]; omega
      have e' : ¬ a = b := by rintro rfl; omega
      simp [e, e'] at h
theorem cmpI_flip (x y : Int) : cmpI y x = - cmpI x y := by
  unfold cmpI
  rcases Int.lt_trichotomy x y with h | h | h
  · rw [if_neg (by omega), if_pos h, if_pos h]; rfl
  · rw [if_neg (by omega), if_neg (by omega), if_neg (by omega), if_neg (by omega)]; rfl
  · rw [if_pos h, if_neg (by omega), if_pos h]
theorem cmpS_flip (s t : ByteArray) : cmpS t s = - cmpS s t := by
  unfold cmpS
  by_cases h : Op.bytesLess s.toList t.toList = true
  · have h' := blQ_asymm h
    have hne : ¬ t.toList = s.toList := fun e => by rw [e, blQ_irrefl] at h; cases h
    rw [if_neg (by rw [h']; simp), if_neg hne, if_pos h]; rfl
  · by_cases he : s.toList = t.toList
    · rw [if_neg (by rw [he, blQ_irrefl]; simp), if_pos he.symm, if_neg h, if_pos he]; rfl
    · rw [if_pos (blQ_total (by simpa using h) he), if_neg h, if_neg he]
theorem cmpV_flip (k n : Int) (s : ByteArray) (k' n' : Int) (s' : ByteArray) : cmpV k' n' s' k n s = - cmpV k n s k' n' s' := by
  unfold cmpV
  rw [cmpI_flip k k', cmpI_flip n n', cmpS_flip s s']
  unfold orI
  by_cases h : cmpI k k' = 0
  · rw [if_pos (by omega), if_pos h]
    by_cases h2 : cmpI n n' = 0
    · rw [if_pos (by omega), if_pos h2]
    · rw [if_neg (by omega), if_neg h2]
  · rw [if_neg (by omega), if_neg h]
end Go.Proofs.YtaeibfipcenhaaaGreatDoor
namespace Go.Proofs.YtaeibfipcenhaaaGreatDoor
open Go.RowKit
set_option linter.unusedVariables false
/-- nothing old has turned, and the tape has gone on. -/
def Onw (w w' : World) : Prop := Below w.heap.size w w' ∧ w.drawn ≤ w'.drawn
theorem Onw.refl (w : World) : Onw w w := ⟨Below.refl _ _, Nat.le_refl _⟩
theorem Onw.trans {a b c : World} (h : Onw a b) (k : Onw b c) : Onw a c := ⟨h.1.trans (k.1.mono h.1.size), Nat.le_trans h.2 k.2⟩
theorem Onw.alloc {a b : World} (h : Onw a b) (o : Obj) : Onw a (b.alloc o) := ⟨h.1.alloc h.1.size o, h.2⟩
theorem Onw.drew {a b : World} (h : Onw a b) : Onw a b.drew := ⟨h.1.drew, Nat.le_trans h.2 (Nat.le_succ _)⟩
end Go.Proofs.YtaeibfipcenhaaaGreatDoor
