/- Own text. The contracts of both CompareValue: they answer cmpV, and write nothing that was there. -/
import Derived.Test.YtiaafgmjigbjlaaGreatDoorKit
import Derived.Handy
import Derived.Deep.RegionHeld3
namespace Go.Proofs.YtiaafgmjigbjlaaGreatDoor
open Go.RowKit
set_option linter.unusedVariables false
def cmpI (x y : Int) : Int := if x < y then -1 else if y < x then 1 else 0
def cmpS (s t : ByteArray) : Int := if Op.bytesLess s.toList t.toList = true then -1 else if s.toList = t.toList then 0 else 1
def orI (x y z : Int) : Int := if x = 0 then (if y = 0 then z else y) else x
/-- -1, 0 or 1: how two values stand. -/
def cmpV (k n : Int) (s : ByteArray) (k' n' : Int) (s' : ByteArray) : Int := orI (cmpI k k') (cmpI n n') (cmpS s s')
set_option maxHeartbeats 1000000 in
theorem cmpInt_any (x y : Int) (w : World) :
    Calls Tryz.prog 58 #[.int .i64 x, .int .i64 y] w fun e w' => e = .returned (.int .i64 (cmpI x y)) ∧ w' = w := by
  rcases Int.lt_trichotomy x y with h | h | h
  · go_enter Tryz.func58, Tryz.ntmps58
    go_wp2
    go_returns
    exact ⟨by simp [cmpI, h], rfl⟩
  · subst h
    go_enter Tryz.func58, Tryz.ntmps58
    go_wp2
    go_returns
    exact ⟨by simp [cmpI], rfl⟩
  · have h' : ¬ x < y := by omega
    go_enter Tryz.func58, Tryz.ntmps58
    go_wp2
    go_returns
    exact ⟨by simp [cmpI, h, h'], rfl⟩
set_option maxHeartbeats 1000000 in
theorem cmpStr_any (x y : ByteArray) (w : World) :
    Calls Tryz.prog 69 #[.string x, .string y] w fun e w' => e = .returned (.int .i64 (cmpS x y)) ∧ w' = w := by
  go_enter Tryz.func69, Tryz.ntmps69
  go_wp2
  all_goals go_returns
  all_goals (refine ⟨ret_int ?_, rfl⟩; simp_all [cmpS])
set_option maxHeartbeats 1000000 in
theorem or_any (b : Nat) (x y z : Int) (w : World) (h0 : w.cell? ⟨b, 0, none⟩ = some (.int .i64 x)) (h1 : w.cell? ⟨b, 1, none⟩ = some (.int .i64 y)) (h2 : w.cell? ⟨b, 2, none⟩ = some (.int .i64 z)) :
    Calls Tryz.prog 68 #[.slice (some ⟨b, 0, none⟩) 3 3] w fun e w' => e = .returned (.int .i64 (orI x y z)) ∧ w' = w := by
  go_enter Tryz.func68, Tryz.ntmps68
  go_wp2
  go_rounds 4
  all_goals go_returns
  all_goals (refine ⟨ret_int ?_, rfl⟩; clear h0 h1 h2; simp_all [orI])
theorem cmpV_lt0 (k n k' n' : Int) (s s' : ByteArray) (h : k < k') : cmpV k n s k' n' s' = -1 := by simp [cmpV, cmpI, orI, h]
theorem cmpV_gt0 (k n k' n' : Int) (s s' : ByteArray) (h : k' < k) : cmpV k n s k' n' s' = 1 := by simp [cmpV, cmpI, orI, h, show ¬ k < k' from by omega]
theorem cmpV_lt1 (k n k' n' : Int) (s s' : ByteArray) (h0 : k' ≤ k) (h1 : k ≤ k') (h : n < n') : cmpV k n s k' n' s' = -1 := by simp [cmpV, cmpI, orI, h, show ¬ k < k' from by omega, show ¬ k' < k from by omega]
theorem cmpV_gt1 (k n k' n' : Int) (s s' : ByteArray) (h0 : k' ≤ k) (h1 : k ≤ k') (h : n' < n) : cmpV k n s k' n' s' = 1 := by simp [cmpV, cmpI, orI, h, show ¬ k < k' from by omega, show ¬ k' < k from by omega, show ¬ n < n' from by omega]
theorem cmpV_s (k n k' n' : Int) (s s' : ByteArray) (h0 : k' ≤ k) (h1 : k ≤ k') (h2 : n' ≤ n) (h3 : n ≤ n') : cmpV k n s k' n' s' = cmpS s s' := by simp [cmpV, cmpI, orI, show ¬ k < k' from by omega, show ¬ k' < k from by omega, show ¬ n < n' from by omega, show ¬ n' < n from by omega]
theorem cmpV_bd (k n k' n' : Int) (s s' : ByteArray) : -1 ≤ cmpV k n s k' n' s' ∧ cmpV k n s k' n' s' ≤ 1 := by
  unfold cmpV orI cmpI cmpS
  split <;> (try split) <;> (try split) <;> (try split) <;> (try split) <;> omega
set_option maxHeartbeats 1000000 in
set_option maxRecDepth 100000 in
theorem specCmp_any (k n k' n' : Int) (s s' : ByteArray) (w : World) :
    Calls Tryz.prog 52 #[(.agg #[.int .i64 k, .int .i64 n, .string s]), (.agg #[.int .i64 k', .int .i64 n', .string s'])] w fun e w' => e = .returned (.int .i64 (cmpV k n s k' n' s')) ∧ Below w.heap.size w w' := by
  go_enter Tryz.func52, Tryz.ntmps52
  go_wp2
  all_goals (go_returns; refine ⟨ret_int ?_, ?_⟩)
  all_goals first | (go_grown; done) | (rw [cmpV_lt0 _ _ _ _ _ _ (by assumption)]; done) | (rw [cmpV_gt0 _ _ _ _ _ _ (by assumption)]; done) | (rw [cmpV_lt1 _ _ _ _ _ _ (by assumption) (by assumption) (by assumption)]; done) | (rw [cmpV_gt1 _ _ _ _ _ _ (by assumption) (by assumption) (by assumption)]; done) | (rw [cmpV_s _ _ _ _ _ _ (by assumption) (by assumption) (by assumption) (by assumption)]; simp_all [cmpS]; done)
set_option maxHeartbeats 2000000 in
set_option maxRecDepth 100000 in
theorem implCmp_any (k n k' n' : Int) (s s' : ByteArray) (w : World) :
    Calls Tryz.prog 57 #[(.agg #[.int .i64 k, .int .i64 n, .string s]), (.agg #[.int .i64 k', .int .i64 n', .string s'])] w fun e w' => e = .returned (.int .i64 (cmpV k n s k' n' s')) ∧ Below w.heap.size w w' := by
  go_enter Tryz.func57, Tryz.ntmps57
  go_wp2_with fail
  go_region_held3 (fun w' => w'.cell? ⟨w.heap.size, 0, none⟩ = some (.int .i64 k) ∧ w'.cell? ⟨w.heap.size, 1, none⟩ = some (.int .i64 n) ∧ w'.cell? ⟨w.heap.size, 2, none⟩ = some (.string s) ∧ w'.cell? ⟨w.heap.size + 1, 0, none⟩ = some (.int .i64 k') ∧ w'.cell? ⟨w.heap.size + 1, 1, none⟩ = some (.int .i64 n') ∧ w'.cell? ⟨w.heap.size + 1, 2, none⟩ = some (.string s')) (go_keep) (first | (go_at_call 58; refine (cmpInt_any _ _ _).mono ?_; rintro e w' ⟨rfl, rfl⟩) | (go_at_call 69; refine (cmpStr_any _ _ _).mono ?_; rintro e w' ⟨rfl, rfl⟩) | (go_at_call 68; refine Calls.mono (or_any _ (cmpI k k') (cmpI n n') (cmpS s s') _ ?h0 ?h1 ?h2) ?hk; (case h0 => go_simp); (case h1 => go_simp); (case h2 => go_simp); rintro e w' ⟨rfl, rfl⟩))
  all_goals go_wp2
  all_goals (go_returns; refine ⟨ret_int ?_, ?_⟩)
  all_goals first | (go_grown; done) | rfl
end Go.Proofs.YtiaafgmjigbjlaaGreatDoor
