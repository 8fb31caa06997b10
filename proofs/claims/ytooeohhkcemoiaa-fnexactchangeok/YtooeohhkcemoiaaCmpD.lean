/- Own text. CompareValue and CompareRow once more: besides, the tape is asked no less often than before (as the library's sort asks of a comparison). -/
import Derived.Test.YtooeohhkcemoiaaRowCmp
import Derived.Handy
import Derived.Deep.RegionHeld3
namespace Go.Proofs.Ytooeohhkcemoiaa
open Go.RowKit
set_option linter.unusedVariables false
/-- nothing old has turned, and the tape has gone on. -/
def Onw (w w' : World) : Prop := Below w.heap.size w w' ∧ w.drawn ≤ w'.drawn
theorem Onw.refl (w : World) : Onw w w := ⟨Below.refl _ _, Nat.le_refl _⟩
theorem Onw.trans {a b c : World} (h : Onw a b) (k : Onw b c) : Onw a c := ⟨h.1.trans (k.1.mono h.1.size), Nat.le_trans h.2 k.2⟩
theorem Onw.alloc {a b : World} (h : Onw a b) (o : Obj) : Onw a (b.alloc o) := ⟨h.1.alloc h.1.size o, h.2⟩
theorem Onw.drew {a b : World} (h : Onw a b) : Onw a b.drew := ⟨h.1.drew, Nat.le_trans h.2 (Nat.le_succ _)⟩
set_option maxHeartbeats 2000000 in
set_option maxRecDepth 100000 in
theorem implCmpD_any (k n k' n' : Int) (s s' : ByteArray) (w : World) :
    Calls Try.prog 50 #[(.agg #[.int .i64 k, .int .i64 n, .string s]), (.agg #[.int .i64 k', .int .i64 n', .string s'])] w fun e w' => e = .returned (.int .i64 (cmpV k n s k' n' s')) ∧ Onw w w' := by
  go_enter Try.func50, Try.ntmps50
  go_wp2_with fail
  go_region_held3 (fun w' => w'.cell? ⟨w.heap.size, 0, none⟩ = some (.int .i64 k) ∧ w'.cell? ⟨w.heap.size, 1, none⟩ = some (.int .i64 n) ∧ w'.cell? ⟨w.heap.size, 2, none⟩ = some (.string s) ∧ w'.cell? ⟨w.heap.size + 1, 0, none⟩ = some (.int .i64 k') ∧ w'.cell? ⟨w.heap.size + 1, 1, none⟩ = some (.int .i64 n') ∧ w'.cell? ⟨w.heap.size + 1, 2, none⟩ = some (.string s')) (go_keep) (first | (go_at_call 51; refine (cmpInt_any _ _ _).mono ?_; rintro e w' ⟨rfl, rfl⟩) | (go_at_call 61; refine (cmpStr_any _ _ _).mono ?_; rintro e w' ⟨rfl, rfl⟩) | (go_at_call 60; refine Calls.mono (or_any _ (cmpI k k') (cmpI n n') (cmpS s s') _ ?h0 ?h1 ?h2) ?hk; (case h0 => go_simp); (case h1 => go_simp); (case h2 => go_simp); rintro e w' ⟨rfl, rfl⟩))
  all_goals go_wp2
  all_goals (go_returns; refine ⟨ret_int ?_, ?_⟩)
  all_goals first | rfl | (repeat (first | exact Onw.refl _ | refine Onw.drew ?_ | refine Onw.alloc ?_ _))
set_option maxHeartbeats 2000000 in
set_option maxRecDepth 100000 in
theorem implRowD_any (v u : Value) (vs us : List V3) (w : World) (hr : RowIs w v vs) (hu : RowIs w u us) :
    Calls Try.prog 43 #[v, u] w fun e w' => e = .returned (.int .i64 (cmpRow vs us)) ∧ Onw w w' := by
  obtain ⟨a, c, b, o, rfl, hl, hc, ha⟩ := hr.pick
  obtain ⟨a', c', b', o', rfl, hl', hc', ha'⟩ := hu.pick
  unfold maxLen at hc hc'
  clear hr hu
  go_enter Try.func43, Try.ntmps43
  go_wp2
  go_loopw [5] (fun i wr => ∃ k : Nat, k ≤ vs.length ∧ k ≤ us.length ∧ i = .int .i64 k ∧ Onw w wr ∧ cmpRow vs us = cmpRow (vs.drop k) (us.drop k)) (fun i _ => vs.length - (intOf i).toNat)
  case atStart => exact ⟨0, Nat.zero_le _, Nat.zero_le _, rfl, Onw.refl _, by simp⟩
  case round =>
    obtain ⟨k, hk, hk', rfl, hO, heq⟩ := hrel
    have hb := hO.1
    have HE : Hid (cmpRow vs us = cmpRow (vs.drop k) (us.drop k)) := heq
    clear heq
    by_cases hlt : k < vs.length
    · by_cases hlt' : k < us.length
      · have hzb := hb.size
        obtain ⟨rfl, hblt, hL⟩ := ha k hlt
        obtain ⟨rfl, hblt', hL'⟩ := ha' k hlt'
        obtain ⟨x, hx, c0, c1, c2, hbr⟩ := hL.at hblt hb hlt
        obtain ⟨y, hy, c0', c1', c2', hbr'⟩ := hL'.at hblt' hb hlt'
        have HS : Hid (cmpRow (vs.drop k) (us.drop k) = if cmpW x y = 0 then cmpRow (vs.drop (k + 1)) (us.drop (k + 1)) else cmpW x y) := cmpRow_step hx hy
        clear ha ha' hL hL' hx hy
        go_wp2_with fail
        go_region_held3 (fun w' => w'.cell? ⟨b, o + k * 3, none⟩ = some (.int .i64 x.k) ∧ w'.cell? ⟨b, o + k * 3 + 1, none⟩ = some (.int .i64 x.n) ∧ w'.cell? ⟨b, o + k * 3 + 2, none⟩ = some (.string x.s) ∧ w'.cell? ⟨b', o' + k * 3, none⟩ = some (.int .i64 y.k) ∧ w'.cell? ⟨b', o' + k * 3 + 1, none⟩ = some (.int .i64 y.n) ∧ w'.cell? ⟨b', o' + k * 3 + 2, none⟩ = some (.string y.s)) (refine ⟨?_, ?_, ?_, ?_, ?_, ?_⟩ <;> first | (go_simp; done) | (exact cell_later (by assumption) (by go_simp))) (first | (go_at_call 50; refine (implCmpD_any _ _ _ _ _ _ _).mono ?_; rintro e w1 ⟨rfl, hO1⟩; have hb1 := hO1.1))
        by_cases hz : cmpV x.k x.n x.s y.k y.n y.s = 0
        · go_wp2
          go_roundw
          case rel =>
            refine ⟨k + 1, hlt, hlt', by simp, ?_, ?_⟩
            · repeat (first | exact hO | refine Onw.drew ?_ | refine Onw.trans ?_ hO1)
            rw [HE.out, HS.out, if_pos (show cmpW x y = 0 from hz)]
          case measure => simp [intOf]; omega
        · go_wp2
          go_returns
          refine ⟨ret_int ?_, by (repeat (first | exact hO | refine Onw.drew ?_ | refine Onw.trans ?_ hO1))⟩
          rw [HE.out, HS.out, if_neg (show ¬ cmpW x y = 0 from hz)]
          rfl
      · have HN : Hid (cmpRow (vs.drop k) (us.drop k) = cmpI vs.length us.length) := cmpRow_end hk hk' (by omega)
        clear ha ha'
        go_wp2_with (go_at_call 51; refine (cmpInt_any _ _ _).mono ?_; rintro e w1 ⟨rfl, rfl⟩)
        all_goals (go_returns; refine ⟨ret_int ?_, by (repeat (first | exact hO | refine Onw.drew ?_))⟩)
        all_goals (rw [HE.out, HN.out]; try rfl)
        all_goals (unfold cmpI; first | (rw [if_pos (by omega)]; done) | (rw [if_neg (by omega), if_pos (by omega)]; done) | (rw [if_neg (by omega), if_neg (by omega)]; done))
    · have HN : Hid (cmpRow (vs.drop k) (us.drop k) = cmpI vs.length us.length) := cmpRow_end hk hk' (by omega)
      clear ha ha'
      go_wp2_with (go_at_call 51; refine (cmpInt_any _ _ _).mono ?_; rintro e w1 ⟨rfl, rfl⟩)
      all_goals (go_returns; refine ⟨ret_int ?_, by (repeat (first | exact hO | refine Onw.drew ?_))⟩)
      all_goals (rw [HE.out, HN.out]; try rfl)
      all_goals (unfold cmpI; first | (rw [if_pos (by omega)]; done) | (rw [if_neg (by omega), if_pos (by omega)]; done) | (rw [if_neg (by omega), if_neg (by omega)]; done))
set_option maxHeartbeats 2000000 in
/-- the comparison that is handed to the sort. -/
theorem ascCmp_any (v u : Value) (vs us : List V3) (n m : Int) (w : World) (hr : RowIs w v vs) (hu : RowIs w u us) :
    Calls Try.prog 65 #[.agg #[v, .int .i64 n], .agg #[u, .int .i64 m]] w fun e w' => e = .returned (.int .i64 (cmpRow vs us)) ∧ Onw w w' := by
  obtain ⟨a, c, b, o, rfl, _⟩ := hr.pick
  obtain ⟨a', c', b', o', rfl, _⟩ := hu.pick
  have h0 : Onw w ((w.alloc (.cells #[.slice a vs.length c, .int .i64 n] 53)).alloc (.cells #[.slice a' us.length c', .int .i64 m] 53)) := ((Onw.refl w).alloc _).alloc _
  have hcall := implRowD_any _ _ vs us _ (hr.below h0.1) (hu.below h0.1)
  go_enter Try.func65, Try.ntmps65
  go_wp2_with (go_at_call 43; refine Calls.mono hcall ?_; rintro e w1 ⟨rfl, hO1⟩)
  go_returns
  exact ⟨rfl, h0.trans hO1⟩
end Go.Proofs.Ytooeohhkcemoiaa
