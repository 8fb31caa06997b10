/- Own texts, joined: contracts that the law's proof goes by. -/
import Derived.Test.YtbmoimfimeiglaaGreatGLFnLog8
import Derived.Test.YtbmoimfimeiglaaGreatGLFnLog7
import Derived.Test.YtbmoimfimeiglaaGreatGLFnLog21
import Derived.Test.YtbmoimfimeiglaaGreatGLFnLog10
namespace Go.Proofs.YtbmoimfimeiglaaGreat
open Go.RowKit
set_option linter.unusedVariables false
theorem step_u64 (b : Int) (c : UInt8) (h0 : 0 ≤ b) (h1 : b < 72057594037927936) : IntKind.u64.wrap (IntKind.u64.wrap (256 * b) + IntKind.u64.wrap c.toNat) = 256 * b + c.toNat := by
  have hc := c.toNat_lt
  rw [IntKind.wrap_u64, IntKind.wrap_u64, IntKind.wrap_u64]
  omega
theorem take_drop_snoc (s : ByteArray) (a k : Nat) (h : a + k < s.size) : (s.data.toList.drop a).take (k + 1) = (s.data.toList.drop a).take k ++ [s[a + k]] := by
  rw [List.take_succ_eq_append_getElem (by simp; omega)]
  congr 2
  rw [List.getElem_drop]
  rfl
theorem nilList : (⟨#[]⟩ : ByteArray).toList = [] := by rw [ByteArray.toList_eq]
theorem okB_lit_0 : okB 0 0 ⟨#[]⟩ = true := by rw [okB_0, nilList]; rfl
theorem okB_lit_1 (n : Int) : okB 1 n ⟨#[]⟩ = true := by rw [okB_1, nilList]; rfl
theorem okB_lit_2 (m : Nat) (h : m = 0 ∨ m = 1) : okB 2 (m : Int) ⟨#[]⟩ = true := by rw [okB_2, nilList]; rcases h with rfl | rfl <;> rfl
theorem okB_lit_2x (m : Nat) (h : 2 ≤ m) : okB 2 (m : Int) ⟨#[]⟩ = false := by rw [okB_2, nilList]; simp; omega
theorem okB_lit_3 (x : ByteArray) (h : x.size ≤ 100) : okB 3 0 x = true := by rw [okB_3]; simp [h]
theorem okB_lit_3x (x : ByteArray) (h : 101 ≤ x.size) : okB 3 0 x = false := by rw [okB_3]; simp; omega
set_option maxHeartbeats 2000000 in
set_option maxRecDepth 100000 in
theorem sget_0 (s : ByteArray) (i : Nat) (m : Nat) (w : World) (hi : i < s.size) (hs : s.size ≤ 1048576) (hc : bAt s i = 0) :
    Calls Tryz.prog 71 #[.string s, .int .i64 i] w fun e w' => e = .returned (.tuple #[.agg #[.int .i64 0, .int .i64 0, .string ⟨#[]⟩], .int .i64 ((i : Int) + 1)]) ∧ Below w.heap.size w w' := by
  have hl1 : (i : Int) < s.size := by omega
  have hin : inB (i : Int) 0 ((s.size : Int) - 1) = true := by simp [inB]; omega
  have hc' : wrap64 (s[i].toNat : Int) = 0 := by rw [wrap64_byte, bAt_eq s i hi, hc]; rfl
  clear hc
  have hok := okB_lit_0
  go_enter Tryz.func71, Tryz.ntmps71
  go_wp2_with (first | (go_at_call 51; refine (l01InN_any _ _ _ _).mono ?_; rintro e w' ⟨rfl, rfl⟩) | (go_at_call 103; refine (specValueOk_any _ _ _ _ (by unfold maxLen; decide)).mono ?_; rintro e w1 ⟨rfl, hb1⟩; have hf1 := (bcell hb1).2; have hz1 := hb1.size; (try simp at hz1); have hy1 : w.heap.size < w1.heap.size := (by omega); have hx1 : w.heap.size + 1 < w1.heap.size := (by omega); have qa1 : w1.cell? ⟨w.heap.size, 0, none⟩ = some (.int .i64 0) := cell_later hb1 (by go_simp); have qb1 : w1.cell? ⟨w.heap.size, 1, none⟩ = some (.int .i64 0) := cell_later hb1 (by go_simp); have qc1 : w1.cell? ⟨w.heap.size, 2, none⟩ = some (.string ⟨#[]⟩) := cell_later hb1 (by go_simp); have ra1 : w1.cell? ⟨w.heap.size + 1, 0, none⟩ = some (.int .i64 0) := cell_later hb1 (by go_simp); have rb1 : w1.cell? ⟨w.heap.size + 1, 1, none⟩ = some (.int .i64 0) := cell_later hb1 (by go_simp); have rc1 : w1.cell? ⟨w.heap.size + 1, 2, none⟩ = some (.string ⟨#[]⟩) := cell_later hb1 (by go_simp)))
  refine bodyPost_ret (v := .tuple #[.agg #[.int .i64 0, .int .i64 0, .string ⟨#[]⟩], .int .i64 ((i : Int) + 1)]) (by simp [results, Tryz.results71, go_sem, *]) rfl ⟨rfl, ?_⟩
  exact bela
set_option maxHeartbeats 2000000 in
set_option maxRecDepth 100000 in
theorem sget_1 (s : ByteArray) (i : Nat) (m : Nat) (w : World) (hi : i < s.size) (hs : s.size ≤ 1048576) (hc : bAt s i = 1) (h9 : i + 9 ≤ s.size) :
    Calls Tryz.prog 71 #[.string s, .int .i64 i] w fun e w' => e = .returned (.tuple #[.agg #[.int .i64 1, .int .i64 (numAt s (i + 1)), .string ⟨#[]⟩], .int .i64 ((i : Int) + 9)]) ∧ Below w.heap.size w w' := by
  have hl1 : (i : Int) < s.size := by omega
  have hin : inB (i : Int) 0 ((s.size : Int) - 1) = true := by simp [inB]; omega
  have hc' : wrap64 (s[i].toNat : Int) = 1 := by rw [wrap64_byte, bAt_eq s i hi, hc]; rfl
  clear hc
  have hr : (9 : Int) ≤ (s.size : Int) - i := by omega
  have hok := okB_lit_1 (numAt s (i + 1))
  go_enter Tryz.func71, Tryz.ntmps71
  go_wp2_with (first | (go_at_call 51; refine (l01InN_any _ _ _ _).mono ?_; rintro e w' ⟨rfl, rfl⟩))
  clear hc'
  go_loop [8, 9] (fun u j => ∃ k : Nat, k ≤ 8 ∧ j = .int .i64 ((k : Int) + 1) ∧ u = .int .u64 (be ((s.data.toList.drop (i + 1)).take k))) (fun _ j => 9 - (intOf j).toNat)
  case atStart => exact ⟨0, by omega, rfl, rfl⟩
  case round =>
    obtain ⟨k, hk, rfl, rfl⟩ := hrel
    by_cases hlt : k < 8
    · have hxx : i + (k + 1) < s.size := by omega
      have hxi : (i : Int) + ((k : Int) + 1) < s.size := by omega
      have hst : Hid (IntKind.u64.wrap (IntKind.u64.wrap (256 * be ((s.data.toList.drop (i + 1)).take k)) + IntKind.u64.wrap (s[i + (k + 1)].toNat)) = be ((s.data.toList.drop (i + 1)).take (k + 1))) := by
        show _ = _
        have hb := be_bd7 ((s.data.toList.drop (i + 1)).take k) (by rw [List.length_take]; omega)
        rw [step_u64 _ _ hb.1 hb.2, take_drop_snoc s (i + 1) k (by omega), be_snoc]
        simp only [show i + (k + 1) = i + 1 + k from by omega]
      go_wp2
      go_round
      case rel => exact ⟨k + 1, by omega, by go_num, by rw [← hst.out]⟩
      case measure => simp [intOf]; omega
    · have hk8 : k = 8 := by omega
      subst hk8
      have hnum : wrap64 (be ((s.data.toList.drop (i + 1)).take 8)) = numAt s (i + 1) := rfl
      go_wp2_with (first | (go_at_call 103; refine (specValueOk_any _ _ _ _ (by unfold maxLen; decide)).mono ?_; rintro e w1 ⟨rfl, hb1⟩; have hf1 := (bcell hb1).2; have hz1 := hb1.size; (try simp at hz1); have hy1 : w.heap.size < w1.heap.size := (by omega); have hx1 : w.heap.size + 1 < w1.heap.size := (by omega); have qa1 : w1.cell? ⟨w.heap.size, 0, none⟩ = some (.int .i64 0) := cell_later hb1 (by go_simp); have qb1 : w1.cell? ⟨w.heap.size, 1, none⟩ = some (.int .i64 0) := cell_later hb1 (by go_simp); have qc1 : w1.cell? ⟨w.heap.size, 2, none⟩ = some (.string ⟨#[]⟩) := cell_later hb1 (by go_simp); have ra1 : w1.cell? ⟨w.heap.size + 1, 0, none⟩ = some (.int .i64 1) := cell_later hb1 (by go_simp); have rb1 : w1.cell? ⟨w.heap.size + 1, 1, none⟩ = some (.int .i64 (numAt s (i + 1))) := cell_later hb1 (by go_simp); have rc1 : w1.cell? ⟨w.heap.size + 1, 2, none⟩ = some (.string ⟨#[]⟩) := cell_later hb1 (by go_simp)))
      refine bodyPost_ret (v := .tuple #[.agg #[.int .i64 1, .int .i64 (numAt s (i + 1)), .string ⟨#[]⟩], .int .i64 ((i : Int) + 9)]) (by simp [results, Tryz.results71, go_sem, *]) rfl ⟨rfl, ?_⟩
      exact bela
set_option maxHeartbeats 2000000 in
set_option maxRecDepth 100000 in
theorem sget_2 (s : ByteArray) (i : Nat) (m : Nat) (w : World) (hi : i < s.size) (hs : s.size ≤ 1048576) (hc : bAt s i = 2) (h2 : i + 2 ≤ s.size) (hm : bAt s (i + 1) = m) (hg : m = 0 ∨ m = 1) :
    Calls Tryz.prog 71 #[.string s, .int .i64 i] w fun e w' => e = .returned (.tuple #[.agg #[.int .i64 2, .int .i64 (m : Int), .string ⟨#[]⟩], .int .i64 ((i : Int) + 2)]) ∧ Below w.heap.size w w' := by
  have hl1 : (i : Int) < s.size := by omega
  have hin : inB (i : Int) 0 ((s.size : Int) - 1) = true := by simp [inB]; omega
  have hc' : wrap64 (s[i].toNat : Int) = 2 := by rw [wrap64_byte, bAt_eq s i hi, hc]; rfl
  clear hc
  have hm' : wrap64 ((s[i + 1]'(by omega)).toNat : Int) = m := by rw [wrap64_byte, bAt_eq s (i + 1) (by omega), hm]
  have hx : i + 1 < s.size := by omega
  have hm256 : m < 256 := by have := bAt_lt s (i + 1); omega
  clear hm
  have hr : (2 : Int) ≤ (s.size : Int) - i := by omega
  have hok := okB_lit_2 m hg
  clear hg
  go_enter Tryz.func71, Tryz.ntmps71
  go_wp2_with (first | (go_at_call 51; refine (l01InN_any _ _ _ _).mono ?_; rintro e w' ⟨rfl, rfl⟩) | (go_at_call 103; refine (specValueOk_any _ _ _ _ (by unfold maxLen; decide)).mono ?_; rintro e w1 ⟨rfl, hb1⟩; have hf1 := (bcell hb1).2; have hz1 := hb1.size; (try simp at hz1); have hy1 : w.heap.size < w1.heap.size := (by omega); have hx1 : w.heap.size + 1 < w1.heap.size := (by omega); have qa1 : w1.cell? ⟨w.heap.size, 0, none⟩ = some (.int .i64 0) := cell_later hb1 (by go_simp); have qb1 : w1.cell? ⟨w.heap.size, 1, none⟩ = some (.int .i64 0) := cell_later hb1 (by go_simp); have qc1 : w1.cell? ⟨w.heap.size, 2, none⟩ = some (.string ⟨#[]⟩) := cell_later hb1 (by go_simp); have ra1 : w1.cell? ⟨w.heap.size + 1, 0, none⟩ = some (.int .i64 2) := cell_later hb1 (by go_simp); have rb1 : w1.cell? ⟨w.heap.size + 1, 1, none⟩ = some (.int .i64 m) := cell_later hb1 (by go_simp); have rc1 : w1.cell? ⟨w.heap.size + 1, 2, none⟩ = some (.string ⟨#[]⟩) := cell_later hb1 (by go_simp)))
  refine bodyPost_ret (v := .tuple #[.agg #[.int .i64 2, .int .i64 (m : Int), .string ⟨#[]⟩], .int .i64 ((i : Int) + 2)]) (by simp [results, Tryz.results71, go_sem, *]) rfl ⟨rfl, ?_⟩
  exact bela
set_option maxHeartbeats 2000000 in
set_option maxRecDepth 100000 in
theorem sget_2x (s : ByteArray) (i : Nat) (m : Nat) (w : World) (hi : i < s.size) (hs : s.size ≤ 1048576) (hc : bAt s i = 2) (h2 : i + 2 ≤ s.size) (hm : bAt s (i + 1) = m) (hg : 2 ≤ m) :
    Calls Tryz.prog 71 #[.string s, .int .i64 i] w fun e w' => e = .returned (.tuple #[.agg #[.int .i64 0, .int .i64 0, .string ⟨#[]⟩], .int .i64 (-1)]) ∧ Below w.heap.size w w' := by
  have hl1 : (i : Int) < s.size := by omega
  have hin : inB (i : Int) 0 ((s.size : Int) - 1) = true := by simp [inB]; omega
  have hc' : wrap64 (s[i].toNat : Int) = 2 := by rw [wrap64_byte, bAt_eq s i hi, hc]; rfl
  clear hc
  have hm' : wrap64 ((s[i + 1]'(by omega)).toNat : Int) = m := by rw [wrap64_byte, bAt_eq s (i + 1) (by omega), hm]
  have hx : i + 1 < s.size := by omega
  have hm256 : m < 256 := by have := bAt_lt s (i + 1); omega
  clear hm
  have hr : (2 : Int) ≤ (s.size : Int) - i := by omega
  have hok := okB_lit_2x m hg
  go_enter Tryz.func71, Tryz.ntmps71
  go_wp2_with (first | (go_at_call 51; refine (l01InN_any _ _ _ _).mono ?_; rintro e w' ⟨rfl, rfl⟩) | (go_at_call 103; refine (specValueOk_any _ _ _ _ (by unfold maxLen; decide)).mono ?_; rintro e w1 ⟨rfl, hb1⟩; have hf1 := (bcell hb1).2; have hz1 := hb1.size; (try simp at hz1); have hy1 : w.heap.size < w1.heap.size := (by omega); have hx1 : w.heap.size + 1 < w1.heap.size := (by omega); have qa1 : w1.cell? ⟨w.heap.size, 0, none⟩ = some (.int .i64 0) := cell_later hb1 (by go_simp); have qb1 : w1.cell? ⟨w.heap.size, 1, none⟩ = some (.int .i64 0) := cell_later hb1 (by go_simp); have qc1 : w1.cell? ⟨w.heap.size, 2, none⟩ = some (.string ⟨#[]⟩) := cell_later hb1 (by go_simp); have ra1 : w1.cell? ⟨w.heap.size + 1, 0, none⟩ = some (.int .i64 2) := cell_later hb1 (by go_simp); have rb1 : w1.cell? ⟨w.heap.size + 1, 1, none⟩ = some (.int .i64 m) := cell_later hb1 (by go_simp); have rc1 : w1.cell? ⟨w.heap.size + 1, 2, none⟩ = some (.string ⟨#[]⟩) := cell_later hb1 (by go_simp)))
  refine bodyPost_ret (v := .tuple #[.agg #[.int .i64 0, .int .i64 0, .string ⟨#[]⟩], .int .i64 (-1)]) (by simp [results, Tryz.results71, go_sem, *]) rfl ⟨rfl, ?_⟩
  exact bela
set_option maxHeartbeats 2000000 in
set_option maxRecDepth 100000 in
theorem sget_3 (s : ByteArray) (i : Nat) (m : Nat) (w : World) (hi : i < s.size) (hs : s.size ≤ 1048576) (hc : bAt s i = 3) (h2 : i + 2 ≤ s.size) (hm : bAt s (i + 1) = m) (hn : i + 2 + m ≤ s.size) (hg : m ≤ 100) :
    Calls Tryz.prog 71 #[.string s, .int .i64 i] w fun e w' => e = .returned (.tuple #[.agg #[.int .i64 3, .int .i64 0, .string (s.extract (i + 2) (i + 2 + m))], .int .i64 ((i : Int) + (2 + (m : Int)))]) ∧ Below w.heap.size w w' := by
  have hl1 : (i : Int) < s.size := by omega
  have hin : inB (i : Int) 0 ((s.size : Int) - 1) = true := by simp [inB]; omega
  have hc' : wrap64 (s[i].toNat : Int) = 3 := by rw [wrap64_byte, bAt_eq s i hi, hc]; rfl
  clear hc
  have hm' : wrap64 ((s[i + 1]'(by omega)).toNat : Int) = m := by rw [wrap64_byte, bAt_eq s (i + 1) (by omega), hm]
  have hx : i + 1 < s.size := by omega
  have hm256 : m < 256 := by have := bAt_lt s (i + 1); omega
  clear hm
  have hr : (2 : Int) ≤ (s.size : Int) - i := by omega
  have hr2 : (m : Int) ≤ (s.size : Int) - i - 2 := by omega
  have hes : Hid ((s.extract (i + 2) (i + 2 + m)).size = m) := by show _ = _; rw [extract_size s (i + 2) (i + 2 + m) (by omega) (by omega)]; omega
  have hen : ((i : Int) + (2 + (m : Int))).toNat = i + 2 + m := by omega
  have hen2 : ((i : Int) + 2).toNat = i + 2 := by omega
  have hok := okB_lit_3 (s.extract (i + 2) (i + 2 + m)) (by rw [hes.out]; omega)
  go_enter Tryz.func71, Tryz.ntmps71
  go_wp2_with (first | (go_at_call 51; refine (l01InN_any _ _ _ _).mono ?_; rintro e w' ⟨rfl, rfl⟩) | (go_at_call 103; refine (specValueOk_any _ _ _ _ (by unfold maxLen; rw [hes.out]; omega)).mono ?_; rintro e w1 ⟨rfl, hb1⟩; have hf1 := (bcell hb1).2; have hz1 := hb1.size; (try simp at hz1); have hy1 : w.heap.size < w1.heap.size := (by omega); have hx1 : w.heap.size + 1 < w1.heap.size := (by omega); have qa1 : w1.cell? ⟨w.heap.size, 0, none⟩ = some (.int .i64 0) := cell_later hb1 (by go_simp); have qb1 : w1.cell? ⟨w.heap.size, 1, none⟩ = some (.int .i64 0) := cell_later hb1 (by go_simp); have qc1 : w1.cell? ⟨w.heap.size, 2, none⟩ = some (.string ⟨#[]⟩) := cell_later hb1 (by go_simp); have ra1 : w1.cell? ⟨w.heap.size + 1, 0, none⟩ = some (.int .i64 3) := cell_later hb1 (by go_simp); have rb1 : w1.cell? ⟨w.heap.size + 1, 1, none⟩ = some (.int .i64 0) := cell_later hb1 (by go_simp); have rc1 : w1.cell? ⟨w.heap.size + 1, 2, none⟩ = some (.string (s.extract (i + 2) (i + 2 + m))) := cell_later hb1 (by go_simp)))
  refine bodyPost_ret (v := .tuple #[.agg #[.int .i64 3, .int .i64 0, .string (s.extract (i + 2) (i + 2 + m))], .int .i64 ((i : Int) + (2 + (m : Int)))]) (by simp [results, Tryz.results71, go_sem, *]) rfl ⟨rfl, ?_⟩
  exact bela
set_option maxHeartbeats 2000000 in
set_option maxRecDepth 100000 in
theorem sget_3x (s : ByteArray) (i : Nat) (m : Nat) (w : World) (hi : i < s.size) (hs : s.size ≤ 1048576) (hc : bAt s i = 3) (h2 : i + 2 ≤ s.size) (hm : bAt s (i + 1) = m) (hn : i + 2 + m ≤ s.size) (hg : 101 ≤ m) :
    Calls Tryz.prog 71 #[.string s, .int .i64 i] w fun e w' => e = .returned (.tuple #[.agg #[.int .i64 0, .int .i64 0, .string ⟨#[]⟩], .int .i64 (-1)]) ∧ Below w.heap.size w w' := by
  have hl1 : (i : Int) < s.size := by omega
  have hin : inB (i : Int) 0 ((s.size : Int) - 1) = true := by simp [inB]; omega
  have hc' : wrap64 (s[i].toNat : Int) = 3 := by rw [wrap64_byte, bAt_eq s i hi, hc]; rfl
  clear hc
  have hm' : wrap64 ((s[i + 1]'(by omega)).toNat : Int) = m := by rw [wrap64_byte, bAt_eq s (i + 1) (by omega), hm]
  have hx : i + 1 < s.size := by omega
  have hm256 : m < 256 := by have := bAt_lt s (i + 1); omega
  clear hm
  have hr : (2 : Int) ≤ (s.size : Int) - i := by omega
  have hr2 : (m : Int) ≤ (s.size : Int) - i - 2 := by omega
  have hes : Hid ((s.extract (i + 2) (i + 2 + m)).size = m) := by show _ = _; rw [extract_size s (i + 2) (i + 2 + m) (by omega) (by omega)]; omega
  have hen : ((i : Int) + (2 + (m : Int))).toNat = i + 2 + m := by omega
  have hen2 : ((i : Int) + 2).toNat = i + 2 := by omega
  have hok := okB_lit_3x (s.extract (i + 2) (i + 2 + m)) (by rw [hes.out]; omega)
  go_enter Tryz.func71, Tryz.ntmps71
  go_wp2_with (first | (go_at_call 51; refine (l01InN_any _ _ _ _).mono ?_; rintro e w' ⟨rfl, rfl⟩) | (go_at_call 103; refine (specValueOk_any _ _ _ _ (by unfold maxLen; rw [hes.out]; omega)).mono ?_; rintro e w1 ⟨rfl, hb1⟩; have hf1 := (bcell hb1).2; have hz1 := hb1.size; (try simp at hz1); have hy1 : w.heap.size < w1.heap.size := (by omega); have hx1 : w.heap.size + 1 < w1.heap.size := (by omega); have qa1 : w1.cell? ⟨w.heap.size, 0, none⟩ = some (.int .i64 0) := cell_later hb1 (by go_simp); have qb1 : w1.cell? ⟨w.heap.size, 1, none⟩ = some (.int .i64 0) := cell_later hb1 (by go_simp); have qc1 : w1.cell? ⟨w.heap.size, 2, none⟩ = some (.string ⟨#[]⟩) := cell_later hb1 (by go_simp); have ra1 : w1.cell? ⟨w.heap.size + 1, 0, none⟩ = some (.int .i64 3) := cell_later hb1 (by go_simp); have rb1 : w1.cell? ⟨w.heap.size + 1, 1, none⟩ = some (.int .i64 0) := cell_later hb1 (by go_simp); have rc1 : w1.cell? ⟨w.heap.size + 1, 2, none⟩ = some (.string (s.extract (i + 2) (i + 2 + m))) := cell_later hb1 (by go_simp)))
  refine bodyPost_ret (v := .tuple #[.agg #[.int .i64 0, .int .i64 0, .string ⟨#[]⟩], .int .i64 (-1)]) (by simp [results, Tryz.results71, go_sem, *]) rfl ⟨rfl, ?_⟩
  exact bela
set_option maxHeartbeats 2000000 in
set_option maxRecDepth 100000 in
theorem sget_1n (s : ByteArray) (i : Nat) (m : Nat) (w : World) (hi : i < s.size) (hs : s.size ≤ 1048576) (hc : bAt s i = 1) (h9 : s.size < i + 9) :
    Calls Tryz.prog 71 #[.string s, .int .i64 i] w fun e w' => e = .returned (.tuple #[.agg #[.int .i64 0, .int .i64 0, .string ⟨#[]⟩], .int .i64 (-1)]) ∧ Below w.heap.size w w' := by
  have hl1 : (i : Int) < s.size := by omega
  have hin : inB (i : Int) 0 ((s.size : Int) - 1) = true := by simp [inB]; omega
  have hc' : wrap64 (s[i].toNat : Int) = 1 := by rw [wrap64_byte, bAt_eq s i hi, hc]; rfl
  clear hc
  have hr : decide ((9 : Int) ≤ (s.size : Int) - i) = false := by simp; omega
  go_enter Tryz.func71, Tryz.ntmps71
  go_wp2_with (first | (go_at_call 51; refine (l01InN_any _ _ _ _).mono ?_; rintro e w' ⟨rfl, rfl⟩))
  refine bodyPost_ret (v := .tuple #[.agg #[.int .i64 0, .int .i64 0, .string ⟨#[]⟩], .int .i64 (-1)]) (by simp [results, Tryz.results71, go_sem, *]) rfl ⟨rfl, ?_⟩
  exact bela
set_option maxHeartbeats 2000000 in
set_option maxRecDepth 100000 in
theorem sget_2n (s : ByteArray) (i : Nat) (m : Nat) (w : World) (hi : i < s.size) (hs : s.size ≤ 1048576) (hc : bAt s i = 2) (h2 : s.size < i + 2) :
    Calls Tryz.prog 71 #[.string s, .int .i64 i] w fun e w' => e = .returned (.tuple #[.agg #[.int .i64 0, .int .i64 0, .string ⟨#[]⟩], .int .i64 (-1)]) ∧ Below w.heap.size w w' := by
  have hl1 : (i : Int) < s.size := by omega
  have hin : inB (i : Int) 0 ((s.size : Int) - 1) = true := by simp [inB]; omega
  have hc' : wrap64 (s[i].toNat : Int) = 2 := by rw [wrap64_byte, bAt_eq s i hi, hc]; rfl
  clear hc
  have hr : decide ((2 : Int) ≤ (s.size : Int) - i) = false := by simp; omega
  go_enter Tryz.func71, Tryz.ntmps71
  go_wp2_with (first | (go_at_call 51; refine (l01InN_any _ _ _ _).mono ?_; rintro e w' ⟨rfl, rfl⟩))
  refine bodyPost_ret (v := .tuple #[.agg #[.int .i64 0, .int .i64 0, .string ⟨#[]⟩], .int .i64 (-1)]) (by simp [results, Tryz.results71, go_sem, *]) rfl ⟨rfl, ?_⟩
  exact bela
set_option maxHeartbeats 2000000 in
set_option maxRecDepth 100000 in
theorem sget_3n (s : ByteArray) (i : Nat) (m : Nat) (w : World) (hi : i < s.size) (hs : s.size ≤ 1048576) (hc : bAt s i = 3) (h2 : s.size < i + 2) :
    Calls Tryz.prog 71 #[.string s, .int .i64 i] w fun e w' => e = .returned (.tuple #[.agg #[.int .i64 0, .int .i64 0, .string ⟨#[]⟩], .int .i64 (-1)]) ∧ Below w.heap.size w w' := by
  have hl1 : (i : Int) < s.size := by omega
  have hin : inB (i : Int) 0 ((s.size : Int) - 1) = true := by simp [inB]; omega
  have hc' : wrap64 (s[i].toNat : Int) = 3 := by rw [wrap64_byte, bAt_eq s i hi, hc]; rfl
  clear hc
  have hr : decide ((2 : Int) ≤ (s.size : Int) - i) = false := by simp; omega
  go_enter Tryz.func71, Tryz.ntmps71
  go_wp2_with (first | (go_at_call 51; refine (l01InN_any _ _ _ _).mono ?_; rintro e w' ⟨rfl, rfl⟩))
  refine bodyPost_ret (v := .tuple #[.agg #[.int .i64 0, .int .i64 0, .string ⟨#[]⟩], .int .i64 (-1)]) (by simp [results, Tryz.results71, go_sem, *]) rfl ⟨rfl, ?_⟩
  exact bela
set_option maxHeartbeats 2000000 in
set_option maxRecDepth 100000 in
theorem sget_3m (s : ByteArray) (i : Nat) (m : Nat) (w : World) (hi : i < s.size) (hs : s.size ≤ 1048576) (hc : bAt s i = 3) (h2 : i + 2 ≤ s.size) (hm : bAt s (i + 1) = m) (hn : s.size < i + 2 + m) :
    Calls Tryz.prog 71 #[.string s, .int .i64 i] w fun e w' => e = .returned (.tuple #[.agg #[.int .i64 0, .int .i64 0, .string ⟨#[]⟩], .int .i64 (-1)]) ∧ Below w.heap.size w w' := by
  have hl1 : (i : Int) < s.size := by omega
  have hin : inB (i : Int) 0 ((s.size : Int) - 1) = true := by simp [inB]; omega
  have hc' : wrap64 (s[i].toNat : Int) = 3 := by rw [wrap64_byte, bAt_eq s i hi, hc]; rfl
  clear hc
  have hm' : wrap64 ((s[i + 1]'(by omega)).toNat : Int) = m := by rw [wrap64_byte, bAt_eq s (i + 1) (by omega), hm]
  have hx : i + 1 < s.size := by omega
  have hm256 : m < 256 := by have := bAt_lt s (i + 1); omega
  clear hm
  have hr : (2 : Int) ≤ (s.size : Int) - i := by omega
  have hr2 : decide ((m : Int) ≤ (s.size : Int) - i - 2) = false := by simp; omega
  go_enter Tryz.func71, Tryz.ntmps71
  go_wp2_with (first | (go_at_call 51; refine (l01InN_any _ _ _ _).mono ?_; rintro e w' ⟨rfl, rfl⟩))
  refine bodyPost_ret (v := .tuple #[.agg #[.int .i64 0, .int .i64 0, .string ⟨#[]⟩], .int .i64 (-1)]) (by simp [results, Tryz.results71, go_sem, *]) rfl ⟨rfl, ?_⟩
  exact bela
set_option maxHeartbeats 2000000 in
set_option maxRecDepth 100000 in
theorem sget_4 (s : ByteArray) (i : Nat) (m : Nat) (w : World) (hi : i < s.size) (hs : s.size ≤ 1048576) (hc : 4 ≤ bAt s i) :
    Calls Tryz.prog 71 #[.string s, .int .i64 i] w fun e w' => e = .returned (.tuple #[.agg #[.int .i64 0, .int .i64 0, .string ⟨#[]⟩], .int .i64 (-1)]) ∧ Below w.heap.size w w' := by
  have hl1 : (i : Int) < s.size := by omega
  have hin : inB (i : Int) 0 ((s.size : Int) - 1) = true := by simp [inB]; omega
  have hd1 : (wrap64 (s[i].toNat : Int) == 1) = false := by rw [wrap64_byte, bAt_eq s i hi]; simp; omega
  have hd2 : (wrap64 (s[i].toNat : Int) == 2) = false := by rw [wrap64_byte, bAt_eq s i hi]; simp; omega
  have hd3 : (wrap64 (s[i].toNat : Int) == 3) = false := by rw [wrap64_byte, bAt_eq s i hi]; simp; omega
  have hd0 : (wrap64 (s[i].toNat : Int) != 0) = true := by rw [wrap64_byte, bAt_eq s i hi]; simp; omega
  go_enter Tryz.func71, Tryz.ntmps71
  go_wp2_with (first | (go_at_call 51; refine (l01InN_any _ _ _ _).mono ?_; rintro e w' ⟨rfl, rfl⟩))
  refine bodyPost_ret (v := .tuple #[.agg #[.int .i64 0, .int .i64 0, .string ⟨#[]⟩], .int .i64 (-1)]) (by simp [results, Tryz.results71, go_sem, *]) rfl ⟨rfl, ?_⟩
  exact bela
end Go.Proofs.YtbmoimfimeiglaaGreat
namespace Go.Proofs.YtbmoimfimeiglaaGreat
open Go.RowKit
set_option linter.unusedVariables false
set_option maxHeartbeats 1000000 in
set_option maxRecDepth 100000 in
theorem implGet_out (s : ByteArray) (i : Int) (w : World) (hs : s.size ≤ 1048576) (h : ¬ (0 ≤ i ∧ i < s.size)) :
    Calls Tryz.prog 125 #[.string s, .int .i64 i] w fun e w' => e = .returned (.tuple #[.agg #[.int .i64 0, .int .i64 0, .string ⟨#[]⟩], .int .i64 (-1)]) ∧ Below w.heap.size w w' := by
  by_cases h0 : i < 0
  · clear h
    go_enter Tryz.func125, Tryz.ntmps125
    go_wp2
    go_returns
    exact ⟨rfl, by go_grown⟩
  · have hd : decide (i < 0) = false := by simp; omega
    have hg : (s.size : Int) ≤ i := by omega
    clear h h0
    go_enter Tryz.func125, Tryz.ntmps125
    go_wp2
    go_returns
    exact ⟨rfl, by go_grown⟩
theorem implGet_any (s : ByteArray) (i : Int) (w : World) (hs : s.size ≤ 1048576) :
    Calls Tryz.prog 125 #[.string s, .int .i64 i] w fun e w' => e = .returned (.tuple #[.agg #[.int .i64 (getT s i).1, .int .i64 (getT s i).2.1, .string (getT s i).2.2.1], .int .i64 (getT s i).2.2.2]) ∧ Below w.heap.size w w' := by
  by_cases h : 0 ≤ i ∧ i < s.size
  · obtain ⟨j, rfl⟩ := Int.eq_ofNat_of_zero_le h.1
    have hj : j < s.size := by omega
    rw [getT_in s j hj]
    by_cases h0 : bAt s j = 0
    · rw [getN_0 s j h0]; exact get_0 s j 0 w hj hs h0
    by_cases h1 : bAt s j = 1
    · by_cases h9 : j + 9 ≤ s.size
      · rw [getN_1 s j h1 h9]
        have := get_1 s j 0 w hj hs h1 h9
        rw [numAt_extract s j h9] at this; exact this
      · rw [getN_x s j h0 (by omega) (by omega) (by omega)]; exact get_1n s j 0 w hj hs h1 (by omega)
    by_cases h2 : bAt s j = 2
    · by_cases hr : j + 2 ≤ s.size
      · by_cases hm : bAt s (j + 1) ≤ 1
        · rw [getN_2 s j h2 hr hm]; exact get_2 s j _ w hj hs h2 hr rfl (by omega)
        · rw [getN_x s j h0 (by omega) (by omega) (by omega)]; exact get_2x s j _ w hj hs h2 hr rfl (by omega)
      · rw [getN_x s j h0 (by omega) (by omega) (by omega)]; exact get_2n s j 0 w hj hs h2 (by omega)
    by_cases h3 : bAt s j = 3
    · by_cases hr : j + 2 ≤ s.size
      · by_cases hn : j + 2 + bAt s (j + 1) ≤ s.size
        · by_cases hm : bAt s (j + 1) ≤ 100
          · rw [getN_3 s j h3 hr hn hm]
            have := get_3 s j _ w hj hs h3 hr rfl hn hm
            rw [extract_extract' s j s.size 2 (2 + bAt s (j + 1)) (by omega), show j + (2 + bAt s (j + 1)) = j + 2 + bAt s (j + 1) from by omega] at this; exact this
          · rw [getN_x s j h0 (by omega) (by omega) (by omega)]; exact get_3x s j _ w hj hs h3 hr rfl hn (by omega)
        · rw [getN_x s j h0 (by omega) (by omega) (by omega)]; exact get_3m s j _ w hj hs h3 hr rfl (by omega)
      · rw [getN_x s j h0 (by omega) (by omega) (by omega)]; exact get_3n s j 0 w hj hs h3 (by omega)
    · rw [getN_x s j h0 (by omega) (by omega) (by omega)]; exact get_4 s j 0 w hj hs (by omega)
  · rw [getT_out s i h]; exact implGet_out s i w hs h
set_option maxHeartbeats 1000000 in
set_option maxRecDepth 100000 in
theorem specGet_out (s : ByteArray) (i : Int) (w : World) (hs : s.size ≤ 1048576) (h : ¬ (0 ≤ i ∧ i < s.size)) :
    Calls Tryz.prog 71 #[.string s, .int .i64 i] w fun e w' => e = .returned (.tuple #[.agg #[.int .i64 0, .int .i64 0, .string ⟨#[]⟩], .int .i64 (-1)]) ∧ Below w.heap.size w w' := by
  have hin : inB i 0 ((s.size : Int) - 1) = false := by simp [inB]; omega
  clear h
  go_enter Tryz.func71, Tryz.ntmps71
  go_wp2_with (first | (go_at_call 51; refine (l01InN_any _ _ _ _).mono ?_; rintro e w' ⟨rfl, rfl⟩))
  go_returns
  exact ⟨rfl, by go_grown⟩
theorem specGet_any (s : ByteArray) (i : Int) (w : World) (hs : s.size ≤ 1048576) :
    Calls Tryz.prog 71 #[.string s, .int .i64 i] w fun e w' => e = .returned (.tuple #[.agg #[.int .i64 (getT s i).1, .int .i64 (getT s i).2.1, .string (getT s i).2.2.1], .int .i64 (getT s i).2.2.2]) ∧ Below w.heap.size w w' := by
  by_cases h : 0 ≤ i ∧ i < s.size
  · obtain ⟨j, rfl⟩ := Int.eq_ofNat_of_zero_le h.1
    have hj : j < s.size := by omega
    rw [getT_in s j hj]
    by_cases h0 : bAt s j = 0
    · rw [getN_0 s j h0]; exact sget_0 s j 0 w hj hs h0
    by_cases h1 : bAt s j = 1
    · by_cases h9 : j + 9 ≤ s.size
      · rw [getN_1 s j h1 h9]
        have := sget_1 s j 0 w hj hs h1 h9
        exact this
      · rw [getN_x s j h0 (by omega) (by omega) (by omega)]; exact sget_1n s j 0 w hj hs h1 (by omega)
    by_cases h2 : bAt s j = 2
    · by_cases hr : j + 2 ≤ s.size
      · by_cases hm : bAt s (j + 1) ≤ 1
        · rw [getN_2 s j h2 hr hm]; exact sget_2 s j _ w hj hs h2 hr rfl (by omega)
        · rw [getN_x s j h0 (by omega) (by omega) (by omega)]; exact sget_2x s j _ w hj hs h2 hr rfl (by omega)
      · rw [getN_x s j h0 (by omega) (by omega) (by omega)]; exact sget_2n s j 0 w hj hs h2 (by omega)
    by_cases h3 : bAt s j = 3
    · by_cases hr : j + 2 ≤ s.size
      · by_cases hn : j + 2 + bAt s (j + 1) ≤ s.size
        · by_cases hm : bAt s (j + 1) ≤ 100
          · rw [getN_3 s j h3 hr hn hm]
            have := sget_3 s j _ w hj hs h3 hr rfl hn hm
            exact this
          · rw [getN_x s j h0 (by omega) (by omega) (by omega)]; exact sget_3x s j _ w hj hs h3 hr rfl hn (by omega)
        · rw [getN_x s j h0 (by omega) (by omega) (by omega)]; exact sget_3m s j _ w hj hs h3 hr rfl (by omega)
      · rw [getN_x s j h0 (by omega) (by omega) (by omega)]; exact sget_3n s j 0 w hj hs h3 (by omega)
    · rw [getN_x s j h0 (by omega) (by omega) (by omega)]; exact sget_4 s j 0 w hj hs (by omega)
  · rw [getT_out s i h]; exact specGet_out s i w hs h
end Go.Proofs.YtbmoimfimeiglaaGreat
