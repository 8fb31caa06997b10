/- Own text. What GetValue answers (getT), and the contract of the program's GetValue. -/
import Derived.Test.YtiaafgmjigbjlaaGreatDoorFirst
import Derived.Test.YtiaafgmjigbjlaaGreatDoorVForm
namespace Go.Proofs.YtiaafgmjigbjlaaGreatDoor
open Go.RowKit
set_option linter.unusedVariables false
/-- what GetValue answers at a place inside a text. -/
def getN (s : ByteArray) (i : Nat) : Int × Int × ByteArray × Int :=
  if bAt s i = 0 then (0, 0, ⟨#[]⟩, (i : Int) + 1)
  else if bAt s i = 1 ∧ i + 9 ≤ s.size then (1, numAt s (i + 1), ⟨#[]⟩, (i : Int) + 9)
  else if bAt s i = 2 ∧ i + 2 ≤ s.size ∧ bAt s (i + 1) ≤ 1 then (2, (bAt s (i + 1) : Int), ⟨#[]⟩, (i : Int) + 2)
  else if bAt s i = 3 ∧ i + 2 ≤ s.size ∧ i + 2 + bAt s (i + 1) ≤ s.size ∧ bAt s (i + 1) ≤ 100 then (3, 0, s.extract (i + 2) (i + 2 + bAt s (i + 1)), (i : Int) + (2 + (bAt s (i + 1) : Int)))
  else (0, 0, ⟨#[]⟩, -1)
/-- what GetValue answers. -/
def getT (s : ByteArray) (i : Int) : Int × Int × ByteArray × Int := if 0 ≤ i ∧ i < s.size then getN s i.toNat else (0, 0, ⟨#[]⟩, -1)
theorem getT_out (s : ByteArray) (i : Int) (h : ¬ (0 ≤ i ∧ i < s.size)) : getT s i = (0, 0, ⟨#[]⟩, -1) := if_neg h
theorem getT_in (s : ByteArray) (i : Nat) (h : i < s.size) : getT s i = getN s i := by rw [getT, if_pos (by omega), Int.toNat_natCast]
theorem getN_0 (s : ByteArray) (i : Nat) (h : bAt s i = 0) : getN s i = (0, 0, ⟨#[]⟩, (i : Int) + 1) := if_pos h
theorem getN_1 (s : ByteArray) (i : Nat) (h : bAt s i = 1) (h9 : i + 9 ≤ s.size) : getN s i = (1, numAt s (i + 1), ⟨#[]⟩, (i : Int) + 9) := by rw [getN, if_neg (by omega), if_pos ⟨h, h9⟩]
theorem getN_2 (s : ByteArray) (i : Nat) (h : bAt s i = 2) (h2 : i + 2 ≤ s.size) (hm : bAt s (i + 1) ≤ 1) : getN s i = (2, (bAt s (i + 1) : Int), ⟨#[]⟩, (i : Int) + 2) := by rw [getN, if_neg (by omega), if_neg (by omega), if_pos ⟨h, h2, hm⟩]
theorem getN_3 (s : ByteArray) (i : Nat) (h : bAt s i = 3) (h2 : i + 2 ≤ s.size) (hn : i + 2 + bAt s (i + 1) ≤ s.size) (hm : bAt s (i + 1) ≤ 100) : getN s i = (3, 0, s.extract (i + 2) (i + 2 + bAt s (i + 1)), (i : Int) + (2 + (bAt s (i + 1) : Int))) := by
  rw [getN, if_neg (by omega), if_neg (by omega), if_neg (by omega), if_pos ⟨h, h2, hn, hm⟩]
theorem getN_x (s : ByteArray) (i : Nat) (h0 : bAt s i ≠ 0) (h1 : ¬ (bAt s i = 1 ∧ i + 9 ≤ s.size)) (h2 : ¬ (bAt s i = 2 ∧ i + 2 ≤ s.size ∧ bAt s (i + 1) ≤ 1)) (h3 : ¬ (bAt s i = 3 ∧ i + 2 ≤ s.size ∧ i + 2 + bAt s (i + 1) ≤ s.size ∧ bAt s (i + 1) ≤ 100)) : getN s i = (0, 0, ⟨#[]⟩, -1) := by
  rw [getN, if_neg h0, if_neg h1, if_neg h2, if_neg h3]
theorem numAt_extract (s : ByteArray) (i : Nat) (h : i + 9 ≤ s.size) : numAt (s.extract i s.size) 1 = numAt s (i + 1) := by
  rw [numAt, numAt, extract_list, List.drop_take, List.drop_drop, List.take_take, show min 8 (s.size - i - 1) = 8 from by omega]
theorem ret_get {k n : Int} {x : ByteArray} {j : Int} {T : Int × Int × ByteArray × Int} (h : T = (k, n, x, j)) :
    Ending.returned (.tuple #[.agg #[.int .i64 k, .int .i64 n, .string x], .int .i64 j]) = .returned (.tuple #[.agg #[.int .i64 T.1, .int .i64 T.2.1, .string T.2.2.1], .int .i64 T.2.2.2]) := by rw [h]
set_option maxHeartbeats 2000000 in
set_option maxRecDepth 100000 in
theorem get_0 (s : ByteArray) (i : Nat) (m : Nat) (w : World) (hi : i < s.size) (hs : s.size ≤ 1048576) (hc : bAt s i = 0) :
    Calls Tryz.prog 44 #[.string s, .int .i64 i] w fun e w' => e = .returned (.tuple #[.agg #[.int .i64 0, .int .i64 0, .string ⟨#[]⟩], .int .i64 ((i : Int) + 1)]) ∧ Below w.heap.size w w' := by
  have hl1 : (i : Int) < s.size := by omega
  have hl2 : (i : Int) ≤ s.size := by omega
  have hz : Hid ((s.extract i s.size).size = s.size - i) := extract_size s i s.size (by omega) (by omega)
  have ha0 : Hid (bAt (s.extract i s.size) 0 = bAt s i) := bAt_extract s i s.size 0 (by omega)
  go_enter Tryz.func44, Tryz.ntmps44
  go_wp2_with (first | (go_at_call 60; refine (ff_0 _ _ (by rw [hz.out]; omega) (by rw [hz.out]; omega) (by rw [ha0.out, hc])).mono ?_; rintro e w1 ⟨rfl, hb1⟩; have hf1 := (bcell hb1).2; have hz1 := hb1.size; (try simp at hz1); have hy1 : w.heap.size < w1.heap.size := (by omega); have qa1 : w1.cell? ⟨w.heap.size, 0, none⟩ = some (.int .i64 0) := cell_later hb1 (by go_simp); have qb1 : w1.cell? ⟨w.heap.size, 1, none⟩ = some (.int .i64 0) := cell_later hb1 (by go_simp); have qc1 : w1.cell? ⟨w.heap.size, 2, none⟩ = some (.string ⟨#[]⟩) := cell_later hb1 (by go_simp)) | (go_at_call 61; refine (valueOf_0 _).mono ?_; rintro e w3 ⟨rfl, hb3⟩; have hf3 := (bcell hb3).2; have hz3 := hb3.size; (try simp at hz3); have hy3 : w.heap.size < w3.heap.size := (by omega); have qa3 : w3.cell? ⟨w.heap.size, 0, none⟩ = some (.int .i64 0) := cell_later hb3 (by go_simp); have qb3 : w3.cell? ⟨w.heap.size, 1, none⟩ = some (.int .i64 0) := cell_later hb3 (by go_simp); have qc3 : w3.cell? ⟨w.heap.size, 2, none⟩ = some (.string ⟨#[]⟩) := cell_later hb3 (by go_simp)) | go_in)
  refine bodyPost_ret (v := .tuple #[.agg #[.int .i64 0, .int .i64 0, .string ⟨#[]⟩], .int .i64 ((i : Int) + 1)]) (by simp [results, Tryz.results44, go_sem, *]) rfl ⟨rfl, ?_⟩
  repeat (first | exact Below.refl _ _ | refine Below.drew ?_ | refine Below.alloc ?_ (by first | (simp; done) | (simp; omega) | omega) _ | refine Below.setCell ?_ (by first | (simp; done) | (simp; omega) | omega) _ | refine bstep (by assumption) (by first | (simp; done) | (simp; omega) | omega) ?_)
set_option maxHeartbeats 2000000 in
set_option maxRecDepth 100000 in
theorem get_1 (s : ByteArray) (i : Nat) (m : Nat) (w : World) (hi : i < s.size) (hs : s.size ≤ 1048576) (hc : bAt s i = 1) (h9 : i + 9 ≤ s.size) :
    Calls Tryz.prog 44 #[.string s, .int .i64 i] w fun e w' => e = .returned (.tuple #[.agg #[.int .i64 1, .int .i64 (numAt (s.extract i s.size) 1), .string ⟨#[]⟩], .int .i64 ((i : Int) + 9)]) ∧ Below w.heap.size w w' := by
  have hl1 : (i : Int) < s.size := by omega
  have hl2 : (i : Int) ≤ s.size := by omega
  have hz : Hid ((s.extract i s.size).size = s.size - i) := extract_size s i s.size (by omega) (by omega)
  have ha0 : Hid (bAt (s.extract i s.size) 0 = bAt s i) := bAt_extract s i s.size 0 (by omega)
  go_enter Tryz.func44, Tryz.ntmps44
  go_wp2_with (first | (go_at_call 60; refine (ff_1 _ _ (by rw [hz.out]; omega) (by rw [hz.out]; omega) (by rw [ha0.out, hc]) (by rw [hz.out]; omega)).mono ?_; rintro e w1 ⟨rfl, hb1⟩; have hf1 := (bcell hb1).2; have hz1 := hb1.size; (try simp at hz1); have hy1 : w.heap.size < w1.heap.size := (by omega); have qa1 : w1.cell? ⟨w.heap.size, 0, none⟩ = some (.int .i64 0) := cell_later hb1 (by go_simp); have qb1 : w1.cell? ⟨w.heap.size, 1, none⟩ = some (.int .i64 0) := cell_later hb1 (by go_simp); have qc1 : w1.cell? ⟨w.heap.size, 2, none⟩ = some (.string ⟨#[]⟩) := cell_later hb1 (by go_simp)) | (go_at_call 61; refine (valueOf_1 _ _).mono ?_; rintro e w3 ⟨rfl, hb3⟩; have hf3 := (bcell hb3).2; have hz3 := hb3.size; (try simp at hz3); have hy3 : w.heap.size < w3.heap.size := (by omega); have qa3 : w3.cell? ⟨w.heap.size, 0, none⟩ = some (.int .i64 0) := cell_later hb3 (by go_simp); have qb3 : w3.cell? ⟨w.heap.size, 1, none⟩ = some (.int .i64 0) := cell_later hb3 (by go_simp); have qc3 : w3.cell? ⟨w.heap.size, 2, none⟩ = some (.string ⟨#[]⟩) := cell_later hb3 (by go_simp)) | go_in)
  refine bodyPost_ret (v := .tuple #[.agg #[.int .i64 1, .int .i64 (numAt (s.extract i s.size) 1), .string ⟨#[]⟩], .int .i64 ((i : Int) + 9)]) (by simp [results, Tryz.results44, go_sem, *]) rfl ⟨rfl, ?_⟩
  repeat (first | exact Below.refl _ _ | refine Below.drew ?_ | refine Below.alloc ?_ (by first | (simp; done) | (simp; omega) | omega) _ | refine Below.setCell ?_ (by first | (simp; done) | (simp; omega) | omega) _ | refine bstep (by assumption) (by first | (simp; done) | (simp; omega) | omega) ?_)
set_option maxHeartbeats 2000000 in
set_option maxRecDepth 100000 in
theorem get_2 (s : ByteArray) (i : Nat) (m : Nat) (w : World) (hi : i < s.size) (hs : s.size ≤ 1048576) (hc : bAt s i = 2) (h2 : i + 2 ≤ s.size) (hm : bAt s (i + 1) = m) (hg : m = 0 ∨ m = 1) :
    Calls Tryz.prog 44 #[.string s, .int .i64 i] w fun e w' => e = .returned (.tuple #[.agg #[.int .i64 2, .int .i64 (m : Int), .string ⟨#[]⟩], .int .i64 ((i : Int) + 2)]) ∧ Below w.heap.size w w' := by
  have hl1 : (i : Int) < s.size := by omega
  have hl2 : (i : Int) ≤ s.size := by omega
  have hz : Hid ((s.extract i s.size).size = s.size - i) := extract_size s i s.size (by omega) (by omega)
  have ha0 : Hid (bAt (s.extract i s.size) 0 = bAt s i) := bAt_extract s i s.size 0 (by omega)
  go_enter Tryz.func44, Tryz.ntmps44
  go_wp2_with (first | (go_at_call 60; refine (ff_2 _ m _ (by rw [hz.out]; omega) (by rw [hz.out]; omega) (by rw [ha0.out, hc]) (by rw [hz.out]; omega) (by rw [bAt_extract s i s.size 1 (by omega)]; exact hm)).mono ?_; rintro e w1 ⟨rfl, hb1⟩; have hf1 := (bcell hb1).2; have hz1 := hb1.size; (try simp at hz1); have hy1 : w.heap.size < w1.heap.size := (by omega); have qa1 : w1.cell? ⟨w.heap.size, 0, none⟩ = some (.int .i64 0) := cell_later hb1 (by go_simp); have qb1 : w1.cell? ⟨w.heap.size, 1, none⟩ = some (.int .i64 0) := cell_later hb1 (by go_simp); have qc1 : w1.cell? ⟨w.heap.size, 2, none⟩ = some (.string ⟨#[]⟩) := cell_later hb1 (by go_simp)) | (go_at_call 124; refine (inRange_2 _ _ (by omega)).mono ?_; rintro e w2 ⟨rfl, hb2⟩; have hf2 := (bcell hb2).2; have hz2 := hb2.size; (try simp at hz2); have hy2 : w.heap.size < w2.heap.size := (by omega); have qa2 : w2.cell? ⟨w.heap.size, 0, none⟩ = some (.int .i64 0) := cell_later hb2 (by go_simp); have qb2 : w2.cell? ⟨w.heap.size, 1, none⟩ = some (.int .i64 0) := cell_later hb2 (by go_simp); have qc2 : w2.cell? ⟨w.heap.size, 2, none⟩ = some (.string ⟨#[]⟩) := cell_later hb2 (by go_simp)) | (go_at_call 61; refine (valueOf_2 _ _).mono ?_; rintro e w3 ⟨rfl, hb3⟩; have hf3 := (bcell hb3).2; have hz3 := hb3.size; (try simp at hz3); have hy3 : w.heap.size < w3.heap.size := (by omega); have qa3 : w3.cell? ⟨w.heap.size, 0, none⟩ = some (.int .i64 0) := cell_later hb3 (by go_simp); have qb3 : w3.cell? ⟨w.heap.size, 1, none⟩ = some (.int .i64 0) := cell_later hb3 (by go_simp); have qc3 : w3.cell? ⟨w.heap.size, 2, none⟩ = some (.string ⟨#[]⟩) := cell_later hb3 (by go_simp)) | go_in)
  refine bodyPost_ret (v := .tuple #[.agg #[.int .i64 2, .int .i64 (m : Int), .string ⟨#[]⟩], .int .i64 ((i : Int) + 2)]) (by simp [results, Tryz.results44, go_sem, *]) rfl ⟨rfl, ?_⟩
  repeat (first | exact Below.refl _ _ | refine Below.drew ?_ | refine Below.alloc ?_ (by first | (simp; done) | (simp; omega) | omega) _ | refine Below.setCell ?_ (by first | (simp; done) | (simp; omega) | omega) _ | refine bstep (by assumption) (by first | (simp; done) | (simp; omega) | omega) ?_)
set_option maxHeartbeats 2000000 in
set_option maxRecDepth 100000 in
theorem get_2x (s : ByteArray) (i : Nat) (m : Nat) (w : World) (hi : i < s.size) (hs : s.size ≤ 1048576) (hc : bAt s i = 2) (h2 : i + 2 ≤ s.size) (hm : bAt s (i + 1) = m) (hg : 2 ≤ m) :
    Calls Tryz.prog 44 #[.string s, .int .i64 i] w fun e w' => e = .returned (.tuple #[.agg #[.int .i64 0, .int .i64 0, .string ⟨#[]⟩], .int .i64 (-1)]) ∧ Below w.heap.size w w' := by
  have hl1 : (i : Int) < s.size := by omega
  have hl2 : (i : Int) ≤ s.size := by omega
  have hz : Hid ((s.extract i s.size).size = s.size - i) := extract_size s i s.size (by omega) (by omega)
  have ha0 : Hid (bAt (s.extract i s.size) 0 = bAt s i) := bAt_extract s i s.size 0 (by omega)
  go_enter Tryz.func44, Tryz.ntmps44
  go_wp2_with (first | (go_at_call 60; refine (ff_2 _ m _ (by rw [hz.out]; omega) (by rw [hz.out]; omega) (by rw [ha0.out, hc]) (by rw [hz.out]; omega) (by rw [bAt_extract s i s.size 1 (by omega)]; exact hm)).mono ?_; rintro e w1 ⟨rfl, hb1⟩; have hf1 := (bcell hb1).2; have hz1 := hb1.size; (try simp at hz1); have hy1 : w.heap.size < w1.heap.size := (by omega); have qa1 : w1.cell? ⟨w.heap.size, 0, none⟩ = some (.int .i64 0) := cell_later hb1 (by go_simp); have qb1 : w1.cell? ⟨w.heap.size, 1, none⟩ = some (.int .i64 0) := cell_later hb1 (by go_simp); have qc1 : w1.cell? ⟨w.heap.size, 2, none⟩ = some (.string ⟨#[]⟩) := cell_later hb1 (by go_simp)) | (go_at_call 124; refine (inRange_2x _ _ (by simp; omega) (by simp; omega)).mono ?_; rintro e w2 ⟨rfl, hb2⟩; have hf2 := (bcell hb2).2; have hz2 := hb2.size; (try simp at hz2); have hy2 : w.heap.size < w2.heap.size := (by omega); have qa2 : w2.cell? ⟨w.heap.size, 0, none⟩ = some (.int .i64 0) := cell_later hb2 (by go_simp); have qb2 : w2.cell? ⟨w.heap.size, 1, none⟩ = some (.int .i64 0) := cell_later hb2 (by go_simp); have qc2 : w2.cell? ⟨w.heap.size, 2, none⟩ = some (.string ⟨#[]⟩) := cell_later hb2 (by go_simp)) | go_in)
  refine bodyPost_ret (v := .tuple #[.agg #[.int .i64 0, .int .i64 0, .string ⟨#[]⟩], .int .i64 (-1)]) (by simp [results, Tryz.results44, go_sem, *]) rfl ⟨rfl, ?_⟩
  repeat (first | exact Below.refl _ _ | refine Below.drew ?_ | refine Below.alloc ?_ (by first | (simp; done) | (simp; omega) | omega) _ | refine Below.setCell ?_ (by first | (simp; done) | (simp; omega) | omega) _ | refine bstep (by assumption) (by first | (simp; done) | (simp; omega) | omega) ?_)
set_option maxHeartbeats 2000000 in
set_option maxRecDepth 100000 in
theorem get_3 (s : ByteArray) (i : Nat) (m : Nat) (w : World) (hi : i < s.size) (hs : s.size ≤ 1048576) (hc : bAt s i = 3) (h2 : i + 2 ≤ s.size) (hm : bAt s (i + 1) = m) (hn : i + 2 + m ≤ s.size) (hg : m ≤ 100) :
    Calls Tryz.prog 44 #[.string s, .int .i64 i] w fun e w' => e = .returned (.tuple #[.agg #[.int .i64 3, .int .i64 0, .string ((s.extract i s.size).extract 2 (2 + m))], .int .i64 ((i : Int) + (2 + (m : Int)))]) ∧ Below w.heap.size w w' := by
  have hl1 : (i : Int) < s.size := by omega
  have hl2 : (i : Int) ≤ s.size := by omega
  have hz : Hid ((s.extract i s.size).size = s.size - i) := extract_size s i s.size (by omega) (by omega)
  have ha0 : Hid (bAt (s.extract i s.size) 0 = bAt s i) := bAt_extract s i s.size 0 (by omega)
  go_enter Tryz.func44, Tryz.ntmps44
  go_wp2_with (first | (go_at_call 60; refine (ff_3 _ m _ (by rw [hz.out]; omega) (by rw [hz.out]; omega) (by rw [ha0.out, hc]) (by rw [hz.out]; omega) (by rw [bAt_extract s i s.size 1 (by omega)]; exact hm) (by rw [hz.out]; omega)).mono ?_; rintro e w1 ⟨rfl, hb1⟩; have hf1 := (bcell hb1).2; have hz1 := hb1.size; (try simp at hz1); have hy1 : w.heap.size < w1.heap.size := (by omega); have qa1 : w1.cell? ⟨w.heap.size, 0, none⟩ = some (.int .i64 0) := cell_later hb1 (by go_simp); have qb1 : w1.cell? ⟨w.heap.size, 1, none⟩ = some (.int .i64 0) := cell_later hb1 (by go_simp); have qc1 : w1.cell? ⟨w.heap.size, 2, none⟩ = some (.string ⟨#[]⟩) := cell_later hb1 (by go_simp)) | (go_at_call 125; refine (inRange_3 _ _ (by unfold maxLen; rw [extract_size _ 2 (2 + m) (by omega) (by rw [hz.out]; omega)]; omega) (by rw [extract_size _ 2 (2 + m) (by omega) (by rw [hz.out]; omega)]; omega)).mono ?_; rintro e w2 ⟨rfl, hb2⟩; have hf2 := (bcell hb2).2; have hz2 := hb2.size; (try simp at hz2); have hy2 : w.heap.size < w2.heap.size := (by omega); have qa2 : w2.cell? ⟨w.heap.size, 0, none⟩ = some (.int .i64 0) := cell_later hb2 (by go_simp); have qb2 : w2.cell? ⟨w.heap.size, 1, none⟩ = some (.int .i64 0) := cell_later hb2 (by go_simp); have qc2 : w2.cell? ⟨w.heap.size, 2, none⟩ = some (.string ⟨#[]⟩) := cell_later hb2 (by go_simp)) | (go_at_call 61; refine (valueOf_3 _ _).mono ?_; rintro e w3 ⟨rfl, hb3⟩; have hf3 := (bcell hb3).2; have hz3 := hb3.size; (try simp at hz3); have hy3 : w.heap.size < w3.heap.size := (by omega); have qa3 : w3.cell? ⟨w.heap.size, 0, none⟩ = some (.int .i64 0) := cell_later hb3 (by go_simp); have qb3 : w3.cell? ⟨w.heap.size, 1, none⟩ = some (.int .i64 0) := cell_later hb3 (by go_simp); have qc3 : w3.cell? ⟨w.heap.size, 2, none⟩ = some (.string ⟨#[]⟩) := cell_later hb3 (by go_simp)) | go_in)
  refine bodyPost_ret (v := .tuple #[.agg #[.int .i64 3, .int .i64 0, .string ((s.extract i s.size).extract 2 (2 + m))], .int .i64 ((i : Int) + (2 + (m : Int)))]) (by simp [results, Tryz.results44, go_sem, *]) rfl ⟨rfl, ?_⟩
  repeat (first | exact Below.refl _ _ | refine Below.drew ?_ | refine Below.alloc ?_ (by first | (simp; done) | (simp; omega) | omega) _ | refine Below.setCell ?_ (by first | (simp; done) | (simp; omega) | omega) _ | refine bstep (by assumption) (by first | (simp; done) | (simp; omega) | omega) ?_)
set_option maxHeartbeats 2000000 in
set_option maxRecDepth 100000 in
theorem get_3x (s : ByteArray) (i : Nat) (m : Nat) (w : World) (hi : i < s.size) (hs : s.size ≤ 1048576) (hc : bAt s i = 3) (h2 : i + 2 ≤ s.size) (hm : bAt s (i + 1) = m) (hn : i + 2 + m ≤ s.size) (hg : 101 ≤ m) :
    Calls Tryz.prog 44 #[.string s, .int .i64 i] w fun e w' => e = .returned (.tuple #[.agg #[.int .i64 0, .int .i64 0, .string ⟨#[]⟩], .int .i64 (-1)]) ∧ Below w.heap.size w w' := by
  have hl1 : (i : Int) < s.size := by omega
  have hl2 : (i : Int) ≤ s.size := by omega
  have hz : Hid ((s.extract i s.size).size = s.size - i) := extract_size s i s.size (by omega) (by omega)
  have ha0 : Hid (bAt (s.extract i s.size) 0 = bAt s i) := bAt_extract s i s.size 0 (by omega)
  go_enter Tryz.func44, Tryz.ntmps44
  go_wp2_with (first | (go_at_call 60; refine (ff_3 _ m _ (by rw [hz.out]; omega) (by rw [hz.out]; omega) (by rw [ha0.out, hc]) (by rw [hz.out]; omega) (by rw [bAt_extract s i s.size 1 (by omega)]; exact hm) (by rw [hz.out]; omega)).mono ?_; rintro e w1 ⟨rfl, hb1⟩; have hf1 := (bcell hb1).2; have hz1 := hb1.size; (try simp at hz1); have hy1 : w.heap.size < w1.heap.size := (by omega); have qa1 : w1.cell? ⟨w.heap.size, 0, none⟩ = some (.int .i64 0) := cell_later hb1 (by go_simp); have qb1 : w1.cell? ⟨w.heap.size, 1, none⟩ = some (.int .i64 0) := cell_later hb1 (by go_simp); have qc1 : w1.cell? ⟨w.heap.size, 2, none⟩ = some (.string ⟨#[]⟩) := cell_later hb1 (by go_simp)) | (go_at_call 125; refine (inRange_3x _ _ (by unfold maxLen; rw [extract_size _ 2 (2 + m) (by omega) (by rw [hz.out]; omega)]; omega) (by rw [extract_size _ 2 (2 + m) (by omega) (by rw [hz.out]; omega)]; omega)).mono ?_; rintro e w2 ⟨rfl, hb2⟩; have hf2 := (bcell hb2).2; have hz2 := hb2.size; (try simp at hz2); have hy2 : w.heap.size < w2.heap.size := (by omega); have qa2 : w2.cell? ⟨w.heap.size, 0, none⟩ = some (.int .i64 0) := cell_later hb2 (by go_simp); have qb2 : w2.cell? ⟨w.heap.size, 1, none⟩ = some (.int .i64 0) := cell_later hb2 (by go_simp); have qc2 : w2.cell? ⟨w.heap.size, 2, none⟩ = some (.string ⟨#[]⟩) := cell_later hb2 (by go_simp)) | go_in)
  refine bodyPost_ret (v := .tuple #[.agg #[.int .i64 0, .int .i64 0, .string ⟨#[]⟩], .int .i64 (-1)]) (by simp [results, Tryz.results44, go_sem, *]) rfl ⟨rfl, ?_⟩
  repeat (first | exact Below.refl _ _ | refine Below.drew ?_ | refine Below.alloc ?_ (by first | (simp; done) | (simp; omega) | omega) _ | refine Below.setCell ?_ (by first | (simp; done) | (simp; omega) | omega) _ | refine bstep (by assumption) (by first | (simp; done) | (simp; omega) | omega) ?_)
set_option maxHeartbeats 2000000 in
set_option maxRecDepth 100000 in
theorem get_1n (s : ByteArray) (i : Nat) (m : Nat) (w : World) (hi : i < s.size) (hs : s.size ≤ 1048576) (hc : bAt s i = 1) (h9 : s.size < i + 9) :
    Calls Tryz.prog 44 #[.string s, .int .i64 i] w fun e w' => e = .returned (.tuple #[.agg #[.int .i64 0, .int .i64 0, .string ⟨#[]⟩], .int .i64 (-1)]) ∧ Below w.heap.size w w' := by
  have hl1 : (i : Int) < s.size := by omega
  have hl2 : (i : Int) ≤ s.size := by omega
  have hz : Hid ((s.extract i s.size).size = s.size - i) := extract_size s i s.size (by omega) (by omega)
  have ha0 : Hid (bAt (s.extract i s.size) 0 = bAt s i) := bAt_extract s i s.size 0 (by omega)
  go_enter Tryz.func44, Tryz.ntmps44
  go_wp2_with (first | (go_at_call 60; refine (ff_1x _ _ (by rw [hz.out]; omega) (by rw [hz.out]; omega) (by rw [ha0.out, hc]) (by rw [hz.out]; omega)).mono ?_; rintro e w1 ⟨rfl, hb1⟩; have hf1 := (bcell hb1).2; have hz1 := hb1.size; (try simp at hz1); have hy1 : w.heap.size < w1.heap.size := (by omega); have qa1 : w1.cell? ⟨w.heap.size, 0, none⟩ = some (.int .i64 0) := cell_later hb1 (by go_simp); have qb1 : w1.cell? ⟨w.heap.size, 1, none⟩ = some (.int .i64 0) := cell_later hb1 (by go_simp); have qc1 : w1.cell? ⟨w.heap.size, 2, none⟩ = some (.string ⟨#[]⟩) := cell_later hb1 (by go_simp)) | go_in)
  refine bodyPost_ret (v := .tuple #[.agg #[.int .i64 0, .int .i64 0, .string ⟨#[]⟩], .int .i64 (-1)]) (by simp [results, Tryz.results44, go_sem, *]) rfl ⟨rfl, ?_⟩
  repeat (first | exact Below.refl _ _ | refine Below.drew ?_ | refine Below.alloc ?_ (by first | (simp; done) | (simp; omega) | omega) _ | refine Below.setCell ?_ (by first | (simp; done) | (simp; omega) | omega) _ | refine bstep (by assumption) (by first | (simp; done) | (simp; omega) | omega) ?_)
set_option maxHeartbeats 2000000 in
set_option maxRecDepth 100000 in
theorem get_2n (s : ByteArray) (i : Nat) (m : Nat) (w : World) (hi : i < s.size) (hs : s.size ≤ 1048576) (hc : bAt s i = 2) (h2 : s.size < i + 2) :
    Calls Tryz.prog 44 #[.string s, .int .i64 i] w fun e w' => e = .returned (.tuple #[.agg #[.int .i64 0, .int .i64 0, .string ⟨#[]⟩], .int .i64 (-1)]) ∧ Below w.heap.size w w' := by
  have hl1 : (i : Int) < s.size := by omega
  have hl2 : (i : Int) ≤ s.size := by omega
  have hz : Hid ((s.extract i s.size).size = s.size - i) := extract_size s i s.size (by omega) (by omega)
  have ha0 : Hid (bAt (s.extract i s.size) 0 = bAt s i) := bAt_extract s i s.size 0 (by omega)
  go_enter Tryz.func44, Tryz.ntmps44
  go_wp2_with (first | (go_at_call 60; refine (ff_2x _ _ (by rw [hz.out]; omega) (by rw [hz.out]; omega) (by rw [ha0.out, hc]) (by rw [hz.out]; omega)).mono ?_; rintro e w1 ⟨rfl, hb1⟩; have hf1 := (bcell hb1).2; have hz1 := hb1.size; (try simp at hz1); have hy1 : w.heap.size < w1.heap.size := (by omega); have qa1 : w1.cell? ⟨w.heap.size, 0, none⟩ = some (.int .i64 0) := cell_later hb1 (by go_simp); have qb1 : w1.cell? ⟨w.heap.size, 1, none⟩ = some (.int .i64 0) := cell_later hb1 (by go_simp); have qc1 : w1.cell? ⟨w.heap.size, 2, none⟩ = some (.string ⟨#[]⟩) := cell_later hb1 (by go_simp)) | go_in)
  refine bodyPost_ret (v := .tuple #[.agg #[.int .i64 0, .int .i64 0, .string ⟨#[]⟩], .int .i64 (-1)]) (by simp [results, Tryz.results44, go_sem, *]) rfl ⟨rfl, ?_⟩
  repeat (first | exact Below.refl _ _ | refine Below.drew ?_ | refine Below.alloc ?_ (by first | (simp; done) | (simp; omega) | omega) _ | refine Below.setCell ?_ (by first | (simp; done) | (simp; omega) | omega) _ | refine bstep (by assumption) (by first | (simp; done) | (simp; omega) | omega) ?_)
set_option maxHeartbeats 2000000 in
set_option maxRecDepth 100000 in
theorem get_3n (s : ByteArray) (i : Nat) (m : Nat) (w : World) (hi : i < s.size) (hs : s.size ≤ 1048576) (hc : bAt s i = 3) (h2 : s.size < i + 2) :
    Calls Tryz.prog 44 #[.string s, .int .i64 i] w fun e w' => e = .returned (.tuple #[.agg #[.int .i64 0, .int .i64 0, .string ⟨#[]⟩], .int .i64 (-1)]) ∧ Below w.heap.size w w' := by
  have hl1 : (i : Int) < s.size := by omega
  have hl2 : (i : Int) ≤ s.size := by omega
  have hz : Hid ((s.extract i s.size).size = s.size - i) := extract_size s i s.size (by omega) (by omega)
  have ha0 : Hid (bAt (s.extract i s.size) 0 = bAt s i) := bAt_extract s i s.size 0 (by omega)
  go_enter Tryz.func44, Tryz.ntmps44
  go_wp2_with (first | (go_at_call 60; refine (ff_3x _ _ (by rw [hz.out]; omega) (by rw [hz.out]; omega) (by rw [ha0.out, hc]) (by rw [hz.out]; omega)).mono ?_; rintro e w1 ⟨rfl, hb1⟩; have hf1 := (bcell hb1).2; have hz1 := hb1.size; (try simp at hz1); have hy1 : w.heap.size < w1.heap.size := (by omega); have qa1 : w1.cell? ⟨w.heap.size, 0, none⟩ = some (.int .i64 0) := cell_later hb1 (by go_simp); have qb1 : w1.cell? ⟨w.heap.size, 1, none⟩ = some (.int .i64 0) := cell_later hb1 (by go_simp); have qc1 : w1.cell? ⟨w.heap.size, 2, none⟩ = some (.string ⟨#[]⟩) := cell_later hb1 (by go_simp)) | go_in)
  refine bodyPost_ret (v := .tuple #[.agg #[.int .i64 0, .int .i64 0, .string ⟨#[]⟩], .int .i64 (-1)]) (by simp [results, Tryz.results44, go_sem, *]) rfl ⟨rfl, ?_⟩
  repeat (first | exact Below.refl _ _ | refine Below.drew ?_ | refine Below.alloc ?_ (by first | (simp; done) | (simp; omega) | omega) _ | refine Below.setCell ?_ (by first | (simp; done) | (simp; omega) | omega) _ | refine bstep (by assumption) (by first | (simp; done) | (simp; omega) | omega) ?_)
set_option maxHeartbeats 2000000 in
set_option maxRecDepth 100000 in
theorem get_3m (s : ByteArray) (i : Nat) (m : Nat) (w : World) (hi : i < s.size) (hs : s.size ≤ 1048576) (hc : bAt s i = 3) (h2 : i + 2 ≤ s.size) (hm : bAt s (i + 1) = m) (hn : s.size < i + 2 + m) :
    Calls Tryz.prog 44 #[.string s, .int .i64 i] w fun e w' => e = .returned (.tuple #[.agg #[.int .i64 0, .int .i64 0, .string ⟨#[]⟩], .int .i64 (-1)]) ∧ Below w.heap.size w w' := by
  have hl1 : (i : Int) < s.size := by omega
  have hl2 : (i : Int) ≤ s.size := by omega
  have hz : Hid ((s.extract i s.size).size = s.size - i) := extract_size s i s.size (by omega) (by omega)
  have ha0 : Hid (bAt (s.extract i s.size) 0 = bAt s i) := bAt_extract s i s.size 0 (by omega)
  go_enter Tryz.func44, Tryz.ntmps44
  go_wp2_with (first | (go_at_call 60; refine (ff_3y _ m _ (by rw [hz.out]; omega) (by rw [hz.out]; omega) (by rw [ha0.out, hc]) (by rw [hz.out]; omega) (by rw [bAt_extract s i s.size 1 (by omega)]; exact hm) (by rw [hz.out]; omega)).mono ?_; rintro e w1 ⟨rfl, hb1⟩; have hf1 := (bcell hb1).2; have hz1 := hb1.size; (try simp at hz1); have hy1 : w.heap.size < w1.heap.size := (by omega); have qa1 : w1.cell? ⟨w.heap.size, 0, none⟩ = some (.int .i64 0) := cell_later hb1 (by go_simp); have qb1 : w1.cell? ⟨w.heap.size, 1, none⟩ = some (.int .i64 0) := cell_later hb1 (by go_simp); have qc1 : w1.cell? ⟨w.heap.size, 2, none⟩ = some (.string ⟨#[]⟩) := cell_later hb1 (by go_simp)) | go_in)
  refine bodyPost_ret (v := .tuple #[.agg #[.int .i64 0, .int .i64 0, .string ⟨#[]⟩], .int .i64 (-1)]) (by simp [results, Tryz.results44, go_sem, *]) rfl ⟨rfl, ?_⟩
  repeat (first | exact Below.refl _ _ | refine Below.drew ?_ | refine Below.alloc ?_ (by first | (simp; done) | (simp; omega) | omega) _ | refine Below.setCell ?_ (by first | (simp; done) | (simp; omega) | omega) _ | refine bstep (by assumption) (by first | (simp; done) | (simp; omega) | omega) ?_)
set_option maxHeartbeats 2000000 in
set_option maxRecDepth 100000 in
theorem get_4 (s : ByteArray) (i : Nat) (m : Nat) (w : World) (hi : i < s.size) (hs : s.size ≤ 1048576) (hc : 4 ≤ bAt s i) :
    Calls Tryz.prog 44 #[.string s, .int .i64 i] w fun e w' => e = .returned (.tuple #[.agg #[.int .i64 0, .int .i64 0, .string ⟨#[]⟩], .int .i64 (-1)]) ∧ Below w.heap.size w w' := by
  have hl1 : (i : Int) < s.size := by omega
  have hl2 : (i : Int) ≤ s.size := by omega
  have hz : Hid ((s.extract i s.size).size = s.size - i) := extract_size s i s.size (by omega) (by omega)
  have ha0 : Hid (bAt (s.extract i s.size) 0 = bAt s i) := bAt_extract s i s.size 0 (by omega)
  go_enter Tryz.func44, Tryz.ntmps44
  go_wp2_with (first | (go_at_call 60; refine (ff_z _ _ (by rw [hz.out]; omega) (by rw [hz.out]; omega) (by rw [ha0.out]; exact hc)).mono ?_; rintro e w1 ⟨rfl, hb1⟩; have hf1 := (bcell hb1).2; have hz1 := hb1.size; (try simp at hz1); have hy1 : w.heap.size < w1.heap.size := (by omega); have qa1 : w1.cell? ⟨w.heap.size, 0, none⟩ = some (.int .i64 0) := cell_later hb1 (by go_simp); have qb1 : w1.cell? ⟨w.heap.size, 1, none⟩ = some (.int .i64 0) := cell_later hb1 (by go_simp); have qc1 : w1.cell? ⟨w.heap.size, 2, none⟩ = some (.string ⟨#[]⟩) := cell_later hb1 (by go_simp)) | go_in)
  refine bodyPost_ret (v := .tuple #[.agg #[.int .i64 0, .int .i64 0, .string ⟨#[]⟩], .int .i64 (-1)]) (by simp [results, Tryz.results44, go_sem, *]) rfl ⟨rfl, ?_⟩
  repeat (first | exact Below.refl _ _ | refine Below.drew ?_ | refine Below.alloc ?_ (by first | (simp; done) | (simp; omega) | omega) _ | refine Below.setCell ?_ (by first | (simp; done) | (simp; omega) | omega) _ | refine bstep (by assumption) (by first | (simp; done) | (simp; omega) | omega) ?_)
end Go.Proofs.YtiaafgmjigbjlaaGreatDoor
