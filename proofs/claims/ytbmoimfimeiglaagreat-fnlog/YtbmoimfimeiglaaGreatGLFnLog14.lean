/- Own texts, joined: contracts that the law's proof goes by. -/
import Derived.Test.YtbmoimfimeiglaaGreatGLFnLog1
import Derived.Handy
import Derived.Deep.RegionHeld3
namespace Go.Proofs.YtbmoimfimeiglaaGreat
open Go.RowKit
set_option linter.unusedVariables false
def cmpI (x y : Int) : Int := if x < y then -1 else if y < x then 1 else 0
def cmpS (s t : ByteArray) : Int := if Op.bytesLess s.toList t.toList = true then -1 else if s.toList = t.toList then 0 else 1
def orI (x y z : Int) : Int := if x = 0 then (if y = 0 then z else y) else x
def cmpV (k n : Int) (s : ByteArray) (k' n' : Int) (s' : ByteArray) : Int := orI (cmpI k k') (cmpI n n') (cmpS s s')
set_option maxHeartbeats 1000000 in
theorem cmpInt_any (x y : Int) (w : World) :
    Calls Tryz.prog 112 #[.int .i64 x, .int .i64 y] w fun e w' => e = .returned (.int .i64 (cmpI x y)) ∧ w' = w := by
  rcases Int.lt_trichotomy x y with h | h | h
  · go_enter Tryz.func112, Tryz.ntmps112
    go_wp2
    go_returns
    exact ⟨by simp [cmpI, h], rfl⟩
  · subst h
    go_enter Tryz.func112, Tryz.ntmps112
    go_wp2
    go_returns
    exact ⟨by simp [cmpI], rfl⟩
  · have h' : ¬ x < y := by omega
    go_enter Tryz.func112, Tryz.ntmps112
    go_wp2
    go_returns
    exact ⟨by simp [cmpI, h, h'], rfl⟩
set_option maxHeartbeats 1000000 in
theorem cmpStr_any (x y : ByteArray) (w : World) :
    Calls Tryz.prog 122 #[.string x, .string y] w fun e w' => e = .returned (.int .i64 (cmpS x y)) ∧ w' = w := by
  go_enter Tryz.func122, Tryz.ntmps122
  go_wp2
  all_goals go_returns
  all_goals (refine ⟨ret_int ?_, rfl⟩; simp_all [cmpS])
set_option maxHeartbeats 1000000 in
theorem or_any (b : Nat) (x y z : Int) (w : World) (h0 : w.cell? ⟨b, 0, none⟩ = some (.int .i64 x)) (h1 : w.cell? ⟨b, 1, none⟩ = some (.int .i64 y)) (h2 : w.cell? ⟨b, 2, none⟩ = some (.int .i64 z)) :
    Calls Tryz.prog 121 #[.slice (some ⟨b, 0, none⟩) 3 3] w fun e w' => e = .returned (.int .i64 (orI x y z)) ∧ w' = w := by
  go_enter Tryz.func121, Tryz.ntmps121
  go_wp2
  go_rounds 4
  all_goals go_returns
  all_goals (refine ⟨ret_int ?_, rfl⟩; clear h0 h1 h2; simp_all [orI])
theorem cmpV_lt0 (k n k' n' : Int) (s s' : ByteArray) (h : k < k') : cmpV k n s k' n' s' = -1 := by simp [cmpV, cmpI, orI, h]
theorem cmpV_gt0 (k n k' n' : Int) (s s' : ByteArray) (h : k' < k) : cmpV k n s k' n' s' = 1 := by simp [cmpV, cmpI, orI, h, show ¬ k < k' from by omega]
theorem cmpV_lt1 (k n k' n' : Int) (s s' : ByteArray) (h0 : k' ≤ k) (h1 : k ≤ k') (h : n < n') : cmpV k n s k' n' s' = -1 := by simp [cmpV, cmpI, orI, h, show ¬ k < k' from by omega, show ¬ k' < k from by omega]
theorem cmpV_gt1 (k n k' n' : Int) (s s' : ByteArray) (h0 : k' ≤ k) (h1 : k ≤ k') (h : n' < n) : cmpV k n s k' n' s' = 1 := by simp [cmpV, cmpI, orI, h, show ¬ k < k' from by omega, show ¬ k' < k from by omega, show ¬ n < n' from by omega]
theorem cmpV_s (k n k' n' : Int) (s s' : ByteArray) (h0 : k' ≤ k) (h1 : k ≤ k') (h2 : n' ≤ n) (h3 : n ≤ n') : cmpV k n s k' n' s' = cmpS s s' := by simp [cmpV, cmpI, orI, show ¬ k < k' from by omega, show ¬ k' < k from by omega, show ¬ n < n' from by omega, show ¬ n' < n from by omega]
set_option maxHeartbeats 1000000 in
set_option maxRecDepth 100000 in
theorem specCmp_any (k n k' n' : Int) (s s' : ByteArray) (w : World) :
    Calls Tryz.prog 106 #[(.agg #[.int .i64 k, .int .i64 n, .string s]), (.agg #[.int .i64 k', .int .i64 n', .string s'])] w fun e w' => e = .returned (.int .i64 (cmpV k n s k' n' s')) ∧ Below w.heap.size w w' := by
  go_enter Tryz.func106, Tryz.ntmps106
  go_wp2
  all_goals (go_returns; refine ⟨ret_int ?_, ?_⟩)
  all_goals first | (go_grown; done) | (rw [cmpV_lt0 _ _ _ _ _ _ (by assumption)]; done) | (rw [cmpV_gt0 _ _ _ _ _ _ (by assumption)]; done) | (rw [cmpV_lt1 _ _ _ _ _ _ (by assumption) (by assumption) (by assumption)]; done) | (rw [cmpV_gt1 _ _ _ _ _ _ (by assumption) (by assumption) (by assumption)]; done) | (rw [cmpV_s _ _ _ _ _ _ (by assumption) (by assumption) (by assumption) (by assumption)]; simp_all [cmpS]; done)
set_option maxHeartbeats 2000000 in
set_option maxRecDepth 100000 in
theorem implCmp_any (k n k' n' : Int) (s s' : ByteArray) (w : World) :
    Calls Tryz.prog 111 #[(.agg #[.int .i64 k, .int .i64 n, .string s]), (.agg #[.int .i64 k', .int .i64 n', .string s'])] w fun e w' => e = .returned (.int .i64 (cmpV k n s k' n' s')) ∧ Below w.heap.size w w' := by
  go_enter Tryz.func111, Tryz.ntmps111
  go_wp2_with fail
  go_region_held3 (fun w' => w'.cell? ⟨w.heap.size, 0, none⟩ = some (.int .i64 k) ∧ w'.cell? ⟨w.heap.size, 1, none⟩ = some (.int .i64 n) ∧ w'.cell? ⟨w.heap.size, 2, none⟩ = some (.string s) ∧ w'.cell? ⟨w.heap.size + 1, 0, none⟩ = some (.int .i64 k') ∧ w'.cell? ⟨w.heap.size + 1, 1, none⟩ = some (.int .i64 n') ∧ w'.cell? ⟨w.heap.size + 1, 2, none⟩ = some (.string s')) (go_keep) (first | (go_at_call 112; refine (cmpInt_any _ _ _).mono ?_; rintro e w' ⟨rfl, rfl⟩) | (go_at_call 122; refine (cmpStr_any _ _ _).mono ?_; rintro e w' ⟨rfl, rfl⟩) | (go_at_call 121; refine Calls.mono (or_any _ (cmpI k k') (cmpI n n') (cmpS s s') _ ?h0 ?h1 ?h2) ?hk; (case h0 => go_simp); (case h1 => go_simp); (case h2 => go_simp); rintro e w' ⟨rfl, rfl⟩))
  all_goals go_wp2
  all_goals (go_returns; refine ⟨ret_int ?_, ?_⟩)
  all_goals first | (go_grown; done) | rfl
end Go.Proofs.YtbmoimfimeiglaaGreat
namespace Go.Proofs.YtbmoimfimeiglaaGreat
open Go.RowKit
set_option linter.unusedVariables false
set_option linter.unusedSimpArgs false
theorem blQ_irrefl : ∀ (x : List UInt8), Op.bytesLess x x = false
  | [] => by simp [Op.bytesLess]
  | a :: x => by
    have e : ¬ a < a := by simp
    simp [Op.bytesLess, e, blQ_irrefl x]
theorem blQ_total : ∀ {x y : List UInt8}, Op.bytesLess x y = false → x ≠ y → Op.bytesLess y x = true
  | [], [], _, h => absurd rfl h
  | [], b :: y, h, _ => by simp [Op.bytesLess] at h
  | a :: x, [], _, _ => by simp [Op.bytesLess]
  | a :: x, b :: y, h, hn => by
    simp only [Op.bytesLess] at h ⊢
    rcases Nat.lt_trichotomy a.toNat b.toNat with h1 | h1 | h1
    · have e : a < b := by simp [UInt8.lt_iff_toNat_lt]; omega
      simp [e] at h
    · obtain rfl : a = b := UInt8.toNat_inj.1 h1
      have e : ¬ a < a := by simp
      simp [e] at h ⊢
      exact blQ_total h (by rintro rfl; exact hn rfl)
    · have e : b < a := by simp [UInt8.lt_iff_toNat_lt]; omega
      simp [e]
theorem blQ_asymm : ∀ {x y : List UInt8}, Op.bytesLess x y = true → Op.bytesLess y x = false
  | [], [], h => by simp [Op.bytesLess] at h
  | [], b :: y, _ => by simp [Op.bytesLess]
  | a :: x, [], h => by simp [Op.bytesLess] at h
  | a :: x, b :: y, h => by
    simp only [Op.bytesLess] at h ⊢
    rcases Nat.lt_trichotomy a.toNat b.toNat with h1 | h1 | h1
    · have e : ¬ b < a := by simp [UInt8.lt_iff_toNat_lt]; omega
      have e' : ¬ b = a := by rintro rfl; omega
      simp [e, e']
    · obtain rfl : a = b := UInt8.toNat_inj.1 h1
      have e : ¬ a < a := by simp
      simp [e] at h ⊢
      exact blQ_asymm h
    · have e : ¬ a < b := by simp [UInt8.lt_iff_toNat_lt]; omega
      have e' : ¬ a = b := by rintro rfl; omega
      simp [e, e'] at h
theorem cmpI_flip (x y : Int) : cmpI y x = - cmpI x y := by
  unfold cmpI
  rcases Int.lt_trichotomy x y with h | h | h
  · rw [if_neg (by omega), if_pos h, if_pos h]; rfl
  · rw [if_neg (by omega), if_neg (by omega), if_neg (by omega), if_neg (by omega)]; rfl
  · rw [if_pos h, if_neg (by omega), if_pos h]
theorem cmpS_flip (s t : ByteArray) : cmpS t s = - cmpS s t := by
  unfold cmpS
  by_cases h : Op.bytesLess s.toList t.toList = true
  · have h' := blQ_asymm h
    have hne : ¬ t.toList = s.toList := fun e => by rw [e, blQ_irrefl] at h; cases h
    rw [if_neg (by rw [h']; simp), if_neg hne, if_pos h]; rfl
  · by_cases he : s.toList = t.toList
    · rw [if_neg (by rw [he, blQ_irrefl]; simp), if_pos he.symm, if_neg h, if_pos he]; rfl
    · rw [if_pos (blQ_total (by simpa using h) he), if_neg h, if_neg he]
theorem cmpV_flip (k n : Int) (s : ByteArray) (k' n' : Int) (s' : ByteArray) : cmpV k' n' s' k n s = - cmpV k n s k' n' s' := by
  unfold cmpV
  rw [cmpI_flip k k', cmpI_flip n n', cmpS_flip s s']
  unfold orI
  by_cases h : cmpI k k' = 0
  · rw [if_pos (by omega), if_pos h]
    by_cases h2 : cmpI n n' = 0
    · rw [if_pos (by omega), if_pos h2]
    · rw [if_neg (by omega), if_neg h2]
  · rw [if_neg (by omega), if_neg h]
end Go.Proofs.YtbmoimfimeiglaaGreat
