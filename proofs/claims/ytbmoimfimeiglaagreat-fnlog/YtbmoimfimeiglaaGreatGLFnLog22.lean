/- Own texts, joined: contracts that the law's proof goes by. -/
import Derived.Test.YtbmoimfimeiglaaGreatGLFnLog21
import Derived.Test.YtbmoimfimeiglaaGreatGLFnLog7
import Derived.Test.YtbmoimfimeiglaaGreatGLFnLog8
import Derived.Test.YtbmoimfimeiglaaGreatGLFnLog20
import Derived.Test.YtbmoimfimeiglaaGreatGLFnLog10
namespace Go.Proofs.YtbmoimfimeiglaaGreat
open Go.RowKit
set_option linter.unusedVariables false
def getN (s : ByteArray) (i : Nat) : Int × Int × ByteArray × Int :=
  if bAt s i = 0 then (0, 0, ⟨#[]⟩, (i : Int) + 1)
  else if bAt s i = 1 ∧ i + 9 ≤ s.size then (1, numAt s (i + 1), ⟨#[]⟩, (i : Int) + 9)
  else if bAt s i = 2 ∧ i + 2 ≤ s.size ∧ bAt s (i + 1) ≤ 1 then (2, (bAt s (i + 1) : Int), ⟨#[]⟩, (i : Int) + 2)
  else if bAt s i = 3 ∧ i + 2 ≤ s.size ∧ i + 2 + bAt s (i + 1) ≤ s.size ∧ bAt s (i + 1) ≤ 100 then (3, 0, s.extract (i + 2) (i + 2 + bAt s (i + 1)), (i : Int) + (2 + (bAt s (i + 1) : Int)))
  else (0, 0, ⟨#[]⟩, -1)
def getT (s : ByteArray) (i : Int) : Int × Int × ByteArray × Int := if 0 ≤ i ∧ i < s.size then getN s i.toNat else (0, 0, ⟨#[]⟩, -1)
theorem getT_out (s : ByteArray) (i : Int) (h : ¬ (0 ≤ i ∧ i < s.size)) : getT s i = (0, 0, ⟨#[]⟩, -1) := if_neg h
theorem getT_in (s : ByteArray) (i : Nat) (h : i < s.size) : getT s i = getN s i := by rw [getT, if_pos (by omega), Int.toNat_natCast]
theorem getN_0 (s : ByteArray) (i : Nat) (h : bAt s i = 0) : getN s i = (0, 0, ⟨#[]⟩, (i : Int) + 1) := if_pos h
theorem getN_1 (s : ByteArray) (i : Nat) (h : bAt s i = 1) (h9 : i + 9 ≤ s.size) : getN s i = (1, numAt s (i + 1), ⟨#[]⟩, (i : Int) + 9) := by rw [getN, if_neg (by omega), if_pos ⟨h, h9⟩]
theorem getN_2 (s : ByteArray) (i : Nat) (h : bAt s i = 2) (h2 : i + 2 ≤ s.size) (hm : bAt s (i + 1) ≤ 1) : getN s i = (2, (bAt s (i + 1) : Int), ⟨#[]⟩, (i : Int) + 2) := by rw [getN, if_neg (by omega), if_neg (by omega), if_pos ⟨h, h2, hm⟩]
theorem getN_3 (s : ByteArray) (i : Nat) (h : bAt s i = 3) (h2 : i + 2 ≤ s.size) (hn : i + 2 + bAt s (i + 1) ≤ s.size) (hm : bAt s (i + 1) ≤ 100) : getN s i = (3, 0, s.extract (i + 2) (i + 2 + bAt s (i + 1)), (i : Int) + (2 + (bAt s (i + 1) : Int))) := by
  rw [getN, if_neg (by omega), if_neg (by omega), if_neg (by omega), if_pos ⟨h, h2, hn, hm⟩]
theorem getN_x (s : ByteArray) (i : Nat) (h0 : bAt s i ≠ 0) (h1 : ¬ (bAt s i = 1 ∧ i + 9 ≤ s.size)) (h2 : ¬ (bAt s i = 2 ∧ i + 2 ≤ s.size ∧ bAt s (i + 1) ≤ 1)) (h3 : ¬ (bAt s i = 3 ∧ i + 2 ≤ s.size ∧ i + 2 + bAt s (i + 1) ≤ s.size ∧ bAt s (i + 1) ≤ 100)) : getN s i = (0, 0, ⟨#[]⟩, -1) := by
  rw [getN, if_neg h0, if_neg h1, if_neg h2, if_neg h3]
theorem numAt_extract (s : ByteArray) (i : Nat) (h : i + 9 ≤ s.size) : numAt (s.extract i s.size) 1 = numAt s (i + 1) := by
  rw [numAt, numAt, extract_list, List.drop_take, List.drop_drop, List.take_take, show min 8 (s.size - i - 1) = 8 from by omega]
set_option maxHeartbeats 2000000 in
set_option maxRecDepth 100000 in
theorem get_0 (s : ByteArray) (i : Nat) (m : Nat) (w : World) (hi : i < s.size) (hs : s.size ≤ 1048576) (hc : bAt s i = 0) :
    Calls Tryz.prog 125 #[.string s, .int .i64 i] w fun e w' => e = .returned (.tuple #[.agg #[.int .i64 0, .int .i64 0, .string ⟨#[]⟩], .int .i64 ((i : Int) + 1)]) ∧ Below w.heap.size w w' := by
  have hl1 : (i : Int) < s.size := by omega
  have hl2 : (i : Int) ≤ s.size := by omega
  have hz : Hid ((s.extract i s.size).size = s.size - i) := extract_size s i s.size (by omega) (by omega)
  have ha0 : Hid (bAt (s.extract i s.size) 0 = bAt s i) := bAt_extract s i s.size 0 (by omega)
  go_enter Tryz.func125, Tryz.ntmps125
  go_wp2_with (first | (go_at_call 128; refine (ff_0 _ _ (by rw [hz.out]; omega) (by rw [hz.out]; omega) (by rw [ha0.out, hc])).mono ?_; rintro e w1 ⟨rfl, hb1⟩; have hf1 := (bcell hb1).2; have hz1 := hb1.size; (try simp at hz1); have hy1 : w.heap.size < w1.heap.size := (by omega); have qa1 : w1.cell? ⟨w.heap.size, 0, none⟩ = some (.int .i64 0) := cell_later hb1 (by go_simp); have qb1 : w1.cell? ⟨w.heap.size, 1, none⟩ = some (.int .i64 0) := cell_later hb1 (by go_simp); have qc1 : w1.cell? ⟨w.heap.size, 2, none⟩ = some (.string ⟨#[]⟩) := cell_later hb1 (by go_simp)) | (go_at_call 120; refine (valueOf_0 _).mono ?_; rintro e w3 ⟨rfl, hb3⟩; have hf3 := (bcell hb3).2; have hz3 := hb3.size; (try simp at hz3); have hy3 : w.heap.size < w3.heap.size := (by omega); have qa3 : w3.cell? ⟨w.heap.size, 0, none⟩ = some (.int .i64 0) := cell_later hb3 (by go_simp); have qb3 : w3.cell? ⟨w.heap.size, 1, none⟩ = some (.int .i64 0) := cell_later hb3 (by go_simp); have qc3 : w3.cell? ⟨w.heap.size, 2, none⟩ = some (.string ⟨#[]⟩) := cell_later hb3 (by go_simp)) | go_in)
  refine bodyPost_ret (v := .tuple #[.agg #[.int .i64 0, .int .i64 0, .string ⟨#[]⟩], .int .i64 ((i : Int) + 1)]) (by simp [results, Tryz.results125, go_sem, *]) rfl ⟨rfl, ?_⟩
  exact bela
set_option maxHeartbeats 2000000 in
set_option maxRecDepth 100000 in
theorem get_1 (s : ByteArray) (i : Nat) (m : Nat) (w : World) (hi : i < s.size) (hs : s.size ≤ 1048576) (hc : bAt s i = 1) (h9 : i + 9 ≤ s.size) :
    Calls Tryz.prog 125 #[.string s, .int .i64 i] w fun e w' => e = .returned (.tuple #[.agg #[.int .i64 1, .int .i64 (numAt (s.extract i s.size) 1), .string ⟨#[]⟩], .int .i64 ((i : Int) + 9)]) ∧ Below w.heap.size w w' := by
  have hl1 : (i : Int) < s.size := by omega
  have hl2 : (i : Int) ≤ s.size := by omega
  have hz : Hid ((s.extract i s.size).size = s.size - i) := extract_size s i s.size (by omega) (by omega)
  have ha0 : Hid (bAt (s.extract i s.size) 0 = bAt s i) := bAt_extract s i s.size 0 (by omega)
  go_enter Tryz.func125, Tryz.ntmps125
  go_wp2_with (first | (go_at_call 128; refine (ff_1 _ _ (by rw [hz.out]; omega) (by rw [hz.out]; omega) (by rw [ha0.out, hc]) (by rw [hz.out]; omega)).mono ?_; rintro e w1 ⟨rfl, hb1⟩; have hf1 := (bcell hb1).2; have hz1 := hb1.size; (try simp at hz1); have hy1 : w.heap.size < w1.heap.size := (by omega); have qa1 : w1.cell? ⟨w.heap.size, 0, none⟩ = some (.int .i64 0) := cell_later hb1 (by go_simp); have qb1 : w1.cell? ⟨w.heap.size, 1, none⟩ = some (.int .i64 0) := cell_later hb1 (by go_simp); have qc1 : w1.cell? ⟨w.heap.size, 2, none⟩ = some (.string ⟨#[]⟩) := cell_later hb1 (by go_simp)) | (go_at_call 120; refine (valueOf_1 _ _).mono ?_; rintro e w3 ⟨rfl, hb3⟩; have hf3 := (bcell hb3).2; have hz3 := hb3.size; (try simp at hz3); have hy3 : w.heap.size < w3.heap.size := (by omega); have qa3 : w3.cell? ⟨w.heap.size, 0, none⟩ = some (.int .i64 0) := cell_later hb3 (by go_simp); have qb3 : w3.cell? ⟨w.heap.size, 1, none⟩ = some (.int .i64 0) := cell_later hb3 (by go_simp); have qc3 : w3.cell? ⟨w.heap.size, 2, none⟩ = some (.string ⟨#[]⟩) := cell_later hb3 (by go_simp)) | go_in)
  refine bodyPost_ret (v := .tuple #[.agg #[.int .i64 1, .int .i64 (numAt (s.extract i s.size) 1), .string ⟨#[]⟩], .int .i64 ((i : Int) + 9)]) (by simp [results, Tryz.results125, go_sem, *]) rfl ⟨rfl, ?_⟩
  exact bela
set_option maxHeartbeats 2000000 in
set_option maxRecDepth 100000 in
theorem get_2 (s : ByteArray) (i : Nat) (m : Nat) (w : World) (hi : i < s.size) (hs : s.size ≤ 1048576) (hc : bAt s i = 2) (h2 : i + 2 ≤ s.size) (hm : bAt s (i + 1) = m) (hg : m = 0 ∨ m = 1) :
    Calls Tryz.prog 125 #[.string s, .int .i64 i] w fun e w' => e = .returned (.tuple #[.agg #[.int .i64 2, .int .i64 (m : Int), .string ⟨#[]⟩], .int .i64 ((i : Int) + 2)]) ∧ Below w.heap.size w w' := by
  have hl1 : (i : Int) < s.size := by omega
  have hl2 : (i : Int) ≤ s.size := by omega
  have hz : Hid ((s.extract i s.size).size = s.size - i) := extract_size s i s.size (by omega) (by omega)
  have ha0 : Hid (bAt (s.extract i s.size) 0 = bAt s i) := bAt_extract s i s.size 0 (by omega)
  go_enter Tryz.func125, Tryz.ntmps125
  go_wp2_with (first | (go_at_call 128; refine (ff_2 _ m _ (by rw [hz.out]; omega) (by rw [hz.out]; omega) (by rw [ha0.out, hc]) (by rw [hz.out]; omega) (by rw [bAt_extract s i s.size 1 (by omega)]; exact hm)).mono ?_; rintro e w1 ⟨rfl, hb1⟩; have hf1 := (bcell hb1).2; have hz1 := hb1.size; (try simp at hz1); have hy1 : w.heap.size < w1.heap.size := (by omega); have qa1 : w1.cell? ⟨w.heap.size, 0, none⟩ = some (.int .i64 0) := cell_later hb1 (by go_simp); have qb1 : w1.cell? ⟨w.heap.size, 1, none⟩ = some (.int .i64 0) := cell_later hb1 (by go_simp); have qc1 : w1.cell? ⟨w.heap.size, 2, none⟩ = some (.string ⟨#[]⟩) := cell_later hb1 (by go_simp)) | (go_at_call 147; refine (inRange_2 _ _ (by omega)).mono ?_; rintro e w2 ⟨rfl, hb2⟩; have hf2 := (bcell hb2).2; have hz2 := hb2.size; (try simp at hz2); have hy2 : w.heap.size < w2.heap.size := (by omega); have qa2 : w2.cell? ⟨w.heap.size, 0, none⟩ = some (.int .i64 0) := cell_later hb2 (by go_simp); have qb2 : w2.cell? ⟨w.heap.size, 1, none⟩ = some (.int .i64 0) := cell_later hb2 (by go_simp); have qc2 : w2.cell? ⟨w.heap.size, 2, none⟩ = some (.string ⟨#[]⟩) := cell_later hb2 (by go_simp)) | (go_at_call 120; refine (valueOf_2 _ _).mono ?_; rintro e w3 ⟨rfl, hb3⟩; have hf3 := (bcell hb3).2; have hz3 := hb3.size; (try simp at hz3); have hy3 : w.heap.size < w3.heap.size := (by omega); have qa3 : w3.cell? ⟨w.heap.size, 0, none⟩ = some (.int .i64 0) := cell_later hb3 (by go_simp); have qb3 : w3.cell? ⟨w.heap.size, 1, none⟩ = some (.int .i64 0) := cell_later hb3 (by go_simp); have qc3 : w3.cell? ⟨w.heap.size, 2, none⟩ = some (.string ⟨#[]⟩) := cell_later hb3 (by go_simp)) | go_in)
  refine bodyPost_ret (v := .tuple #[.agg #[.int .i64 2, .int .i64 (m : Int), .string ⟨#[]⟩], .int .i64 ((i : Int) + 2)]) (by simp [results, Tryz.results125, go_sem, *]) rfl ⟨rfl, ?_⟩
  exact bela
set_option maxHeartbeats 2000000 in
set_option maxRecDepth 100000 in
theorem get_2x (s : ByteArray) (i : Nat) (m : Nat) (w : World) (hi : i < s.size) (hs : s.size ≤ 1048576) (hc : bAt s i = 2) (h2 : i + 2 ≤ s.size) (hm : bAt s (i + 1) = m) (hg : 2 ≤ m) :
    Calls Tryz.prog 125 #[.string s, .int .i64 i] w fun e w' => e = .returned (.tuple #[.agg #[.int .i64 0, .int .i64 0, .string ⟨#[]⟩], .int .i64 (-1)]) ∧ Below w.heap.size w w' := by
  have hl1 : (i : Int) < s.size := by omega
  have hl2 : (i : Int) ≤ s.size := by omega
  have hz : Hid ((s.extract i s.size).size = s.size - i) := extract_size s i s.size (by omega) (by omega)
  have ha0 : Hid (bAt (s.extract i s.size) 0 = bAt s i) := bAt_extract s i s.size 0 (by omega)
  go_enter Tryz.func125, Tryz.ntmps125
  go_wp2_with (first | (go_at_call 128; refine (ff_2 _ m _ (by rw [hz.out]; omega) (by rw [hz.out]; omega) (by rw [ha0.out, hc]) (by rw [hz.out]; omega) (by rw [bAt_extract s i s.size 1 (by omega)]; exact hm)).mono ?_; rintro e w1 ⟨rfl, hb1⟩; have hf1 := (bcell hb1).2; have hz1 := hb1.size; (try simp at hz1); have hy1 : w.heap.size < w1.heap.size := (by omega); have qa1 : w1.cell? ⟨w.heap.size, 0, none⟩ = some (.int .i64 0) := cell_later hb1 (by go_simp); have qb1 : w1.cell? ⟨w.heap.size, 1, none⟩ = some (.int .i64 0) := cell_later hb1 (by go_simp); have qc1 : w1.cell? ⟨w.heap.size, 2, none⟩ = some (.string ⟨#[]⟩) := cell_later hb1 (by go_simp)) | (go_at_call 147; refine (inRange_2x _ _ (by simp; omega) (by simp; omega)).mono ?_; rintro e w2 ⟨rfl, hb2⟩; have hf2 := (bcell hb2).2; have hz2 := hb2.size; (try simp at hz2); have hy2 : w.heap.size < w2.heap.size := (by omega); have qa2 : w2.cell? ⟨w.heap.size, 0, none⟩ = some (.int .i64 0) := cell_later hb2 (by go_simp); have qb2 : w2.cell? ⟨w.heap.size, 1, none⟩ = some (.int .i64 0) := cell_later hb2 (by go_simp); have qc2 : w2.cell? ⟨w.heap.size, 2, none⟩ = some (.string ⟨#[]⟩) := cell_later hb2 (by go_simp)) | go_in)
  refine bodyPost_ret (v := .tuple #[.agg #[.int .i64 0, .int .i64 0, .string ⟨#[]⟩], .int .i64 (-1)]) (by simp [results, Tryz.results125, go_sem, *]) rfl ⟨rfl, ?_⟩
  exact bela
set_option maxHeartbeats 2000000 in
set_option maxRecDepth 100000 in
theorem get_3 (s : ByteArray) (i : Nat) (m : Nat) (w : World) (hi : i < s.size) (hs : s.size ≤ 1048576) (hc : bAt s i = 3) (h2 : i + 2 ≤ s.size) (hm : bAt s (i + 1) = m) (hn : i + 2 + m ≤ s.size) (hg : m ≤ 100) :
    Calls Tryz.prog 125 #[.string s, .int .i64 i] w fun e w' => e = .returned (.tuple #[.agg #[.int .i64 3, .int .i64 0, .string ((s.extract i s.size).extract 2 (2 + m))], .int .i64 ((i : Int) + (2 + (m : Int)))]) ∧ Below w.heap.size w w' := by
  have hl1 : (i : Int) < s.size := by omega
  have hl2 : (i : Int) ≤ s.size := by omega
  have hz : Hid ((s.extract i s.size).size = s.size - i) := extract_size s i s.size (by omega) (by omega)
  have ha0 : Hid (bAt (s.extract i s.size) 0 = bAt s i) := bAt_extract s i s.size 0 (by omega)
  go_enter Tryz.func125, Tryz.ntmps125
  go_wp2_with (first | (go_at_call 128; refine (ff_3 _ m _ (by rw [hz.out]; omega) (by rw [hz.out]; omega) (by rw [ha0.out, hc]) (by rw [hz.out]; omega) (by rw [bAt_extract s i s.size 1 (by omega)]; exact hm) (by rw [hz.out]; omega)).mono ?_; rintro e w1 ⟨rfl, hb1⟩; have hf1 := (bcell hb1).2; have hz1 := hb1.size; (try simp at hz1); have hy1 : w.heap.size < w1.heap.size := (by omega); have qa1 : w1.cell? ⟨w.heap.size, 0, none⟩ = some (.int .i64 0) := cell_later hb1 (by go_simp); have qb1 : w1.cell? ⟨w.heap.size, 1, none⟩ = some (.int .i64 0) := cell_later hb1 (by go_simp); have qc1 : w1.cell? ⟨w.heap.size, 2, none⟩ = some (.string ⟨#[]⟩) := cell_later hb1 (by go_simp)) | (go_at_call 148; refine (inRange_3 _ _ (by unfold maxLen; rw [extract_size _ 2 (2 + m) (by omega) (by rw [hz.out]; omega)]; omega) (by rw [extract_size _ 2 (2 + m) (by omega) (by rw [hz.out]; omega)]; omega)).mono ?_; rintro e w2 ⟨rfl, hb2⟩; have hf2 := (bcell hb2).2; have hz2 := hb2.size; (try simp at hz2); have hy2 : w.heap.size < w2.heap.size := (by omega); have qa2 : w2.cell? ⟨w.heap.size, 0, none⟩ = some (.int .i64 0) := cell_later hb2 (by go_simp); have qb2 : w2.cell? ⟨w.heap.size, 1, none⟩ = some (.int .i64 0) := cell_later hb2 (by go_simp); have qc2 : w2.cell? ⟨w.heap.size, 2, none⟩ = some (.string ⟨#[]⟩) := cell_later hb2 (by go_simp)) | (go_at_call 120; refine (valueOf_3 _ _).mono ?_; rintro e w3 ⟨rfl, hb3⟩; have hf3 := (bcell hb3).2; have hz3 := hb3.size; (try simp at hz3); have hy3 : w.heap.size < w3.heap.size := (by omega); have qa3 : w3.cell? ⟨w.heap.size, 0, none⟩ = some (.int .i64 0) := cell_later hb3 (by go_simp); have qb3 : w3.cell? ⟨w.heap.size, 1, none⟩ = some (.int .i64 0) := cell_later hb3 (by go_simp); have qc3 : w3.cell? ⟨w.heap.size, 2, none⟩ = some (.string ⟨#[]⟩) := cell_later hb3 (by go_simp)) | go_in)
  refine bodyPost_ret (v := .tuple #[.agg #[.int .i64 3, .int .i64 0, .string ((s.extract i s.size).extract 2 (2 + m))], .int .i64 ((i : Int) + (2 + (m : Int)))]) (by simp [results, Tryz.results125, go_sem, *]) rfl ⟨rfl, ?_⟩
  exact bela
set_option maxHeartbeats 2000000 in
set_option maxRecDepth 100000 in
theorem get_3x (s : ByteArray) (i : Nat) (m : Nat) (w : World) (hi : i < s.size) (hs : s.size ≤ 1048576) (hc : bAt s i = 3) (h2 : i + 2 ≤ s.size) (hm : bAt s (i + 1) = m) (hn : i + 2 + m ≤ s.size) (hg : 101 ≤ m) :
    Calls Tryz.prog 125 #[.string s, .int .i64 i] w fun e w' => e = .returned (.tuple #[.agg #[.int .i64 0, .int .i64 0, .string ⟨#[]⟩], .int .i64 (-1)]) ∧ Below w.heap.size w w' := by
  have hl1 : (i : Int) < s.size := by omega
  have hl2 : (i : Int) ≤ s.size := by omega
  have hz : Hid ((s.extract i s.size).size = s.size - i) := extract_size s i s.size (by omega) (by omega)
  have ha0 : Hid (bAt (s.extract i s.size) 0 = bAt s i) := bAt_extract s i s.size 0 (by omega)
  go_enter Tryz.func125, Tryz.ntmps125
  go_wp2_with (first | (go_at_call 128; refine (ff_3 _ m _ (by rw [hz.out]; omega) (by rw [hz.out]; omega) (by rw [ha0.out, hc]) (by rw [hz.out]; omega) (by rw [bAt_extract s i s.size 1 (by omega)]; exact hm) (by rw [hz.out]; omega)).mono ?_; rintro e w1 ⟨rfl, hb1⟩; have hf1 := (bcell hb1).2; have hz1 := hb1.size; (try simp at hz1); have hy1 : w.heap.size < w1.heap.size := (by omega); have qa1 : w1.cell? ⟨w.heap.size, 0, none⟩ = some (.int .i64 0) := cell_later hb1 (by go_simp); have qb1 : w1.cell? ⟨w.heap.size, 1, none⟩ = some (.int .i64 0) := cell_later hb1 (by go_simp); have qc1 : w1.cell? ⟨w.heap.size, 2, none⟩ = some (.string ⟨#[]⟩) := cell_later hb1 (by go_simp)) | (go_at_call 148; refine (inRange_3x _ _ (by unfold maxLen; rw [extract_size _ 2 (2 + m) (by omega) (by rw [hz.out]; omega)]; omega) (by rw [extract_size _ 2 (2 + m) (by omega) (by rw [hz.out]; omega)]; omega)).mono ?_; rintro e w2 ⟨rfl, hb2⟩; have hf2 := (bcell hb2).2; have hz2 := hb2.size; (try simp at hz2); have hy2 : w.heap.size < w2.heap.size := (by omega); have qa2 : w2.cell? ⟨w.heap.size, 0, none⟩ = some (.int .i64 0) := cell_later hb2 (by go_simp); have qb2 : w2.cell? ⟨w.heap.size, 1, none⟩ = some (.int .i64 0) := cell_later hb2 (by go_simp); have qc2 : w2.cell? ⟨w.heap.size, 2, none⟩ = some (.string ⟨#[]⟩) := cell_later hb2 (by go_simp)) | go_in)
  refine bodyPost_ret (v := .tuple #[.agg #[.int .i64 0, .int .i64 0, .string ⟨#[]⟩], .int .i64 (-1)]) (by simp [results, Tryz.results125, go_sem, *]) rfl ⟨rfl, ?_⟩
  exact bela
set_option maxHeartbeats 2000000 in
set_option maxRecDepth 100000 in
theorem get_1n (s : ByteArray) (i : Nat) (m : Nat) (w : World) (hi : i < s.size) (hs : s.size ≤ 1048576) (hc : bAt s i = 1) (h9 : s.size < i + 9) :
    Calls Tryz.prog 125 #[.string s, .int .i64 i] w fun e w' => e = .returned (.tuple #[.agg #[.int .i64 0, .int .i64 0, .string ⟨#[]⟩], .int .i64 (-1)]) ∧ Below w.heap.size w w' := by
  have hl1 : (i : Int) < s.size := by omega
  have hl2 : (i : Int) ≤ s.size := by omega
  have hz : Hid ((s.extract i s.size).size = s.size - i) := extract_size s i s.size (by omega) (by omega)
  have ha0 : Hid (bAt (s.extract i s.size) 0 = bAt s i) := bAt_extract s i s.size 0 (by omega)
  go_enter Tryz.func125, Tryz.ntmps125
  go_wp2_with (first | (go_at_call 128; refine (ff_1x _ _ (by rw [hz.out]; omega) (by rw [hz.out]; omega) (by rw [ha0.out, hc]) (by rw [hz.out]; omega)).mono ?_; rintro e w1 ⟨rfl, hb1⟩; have hf1 := (bcell hb1).2; have hz1 := hb1.size; (try simp at hz1); have hy1 : w.heap.size < w1.heap.size := (by omega); have qa1 : w1.cell? ⟨w.heap.size, 0, none⟩ = some (.int .i64 0) := cell_later hb1 (by go_simp); have qb1 : w1.cell? ⟨w.heap.size, 1, none⟩ = some (.int .i64 0) := cell_later hb1 (by go_simp); have qc1 : w1.cell? ⟨w.heap.size, 2, none⟩ = some (.string ⟨#[]⟩) := cell_later hb1 (by go_simp)) | go_in)
  refine bodyPost_ret (v := .tuple #[.agg #[.int .i64 0, .int .i64 0, .string ⟨#[]⟩], .int .i64 (-1)]) (by simp [results, Tryz.results125, go_sem, *]) rfl ⟨rfl, ?_⟩
  exact bela
set_option maxHeartbeats 2000000 in
set_option maxRecDepth 100000 in
theorem get_2n (s : ByteArray) (i : Nat) (m : Nat) (w : World) (hi : i < s.size) (hs : s.size ≤ 1048576) (hc : bAt s i = 2) (h2 : s.size < i + 2) :
    Calls Tryz.prog 125 #[.string s, .int .i64 i] w fun e w' => e = .returned (.tuple #[.agg #[.int .i64 0, .int .i64 0, .string ⟨#[]⟩], .int .i64 (-1)]) ∧ Below w.heap.size w w' := by
  have hl1 : (i : Int) < s.size := by omega
  have hl2 : (i : Int) ≤ s.size := by omega
  have hz : Hid ((s.extract i s.size).size = s.size - i) := extract_size s i s.size (by omega) (by omega)
  have ha0 : Hid (bAt (s.extract i s.size) 0 = bAt s i) := bAt_extract s i s.size 0 (by omega)
  go_enter Tryz.func125, Tryz.ntmps125
  go_wp2_with (first | (go_at_call 128; refine (ff_2x _ _ (by rw [hz.out]; omega) (by rw [hz.out]; omega) (by rw [ha0.out, hc]) (by rw [hz.out]; omega)).mono ?_; rintro e w1 ⟨rfl, hb1⟩; have hf1 := (bcell hb1).2; have hz1 := hb1.size; (try simp at hz1); have hy1 : w.heap.size < w1.heap.size := (by omega); have qa1 : w1.cell? ⟨w.heap.size, 0, none⟩ = some (.int .i64 0) := cell_later hb1 (by go_simp); have qb1 : w1.cell? ⟨w.heap.size, 1, none⟩ = some (.int .i64 0) := cell_later hb1 (by go_simp); have qc1 : w1.cell? ⟨w.heap.size, 2, none⟩ = some (.string ⟨#[]⟩) := cell_later hb1 (by go_simp)) | go_in)
  refine bodyPost_ret (v := .tuple #[.agg #[.int .i64 0, .int .i64 0, .string ⟨#[]⟩], .int .i64 (-1)]) (by simp [results, Tryz.results125, go_sem, *]) rfl ⟨rfl, ?_⟩
  exact bela
set_option maxHeartbeats 2000000 in
set_option maxRecDepth 100000 in
theorem get_3n (s : ByteArray) (i : Nat) (m : Nat) (w : World) (hi : i < s.size) (hs : s.size ≤ 1048576) (hc : bAt s i = 3) (h2 : s.size < i + 2) :
    Calls Tryz.prog 125 #[.string s, .int .i64 i] w fun e w' => e = .returned (.tuple #[.agg #[.int .i64 0, .int .i64 0, .string ⟨#[]⟩], .int .i64 (-1)]) ∧ Below w.heap.size w w' := by
  have hl1 : (i : Int) < s.size := by omega
  have hl2 : (i : Int) ≤ s.size := by omega
  have hz : Hid ((s.extract i s.size).size = s.size - i) := extract_size s i s.size (by omega) (by omega)
  have ha0 : Hid (bAt (s.extract i s.size) 0 = bAt s i) := bAt_extract s i s.size 0 (by omega)
  go_enter Tryz.func125, Tryz.ntmps125
  go_wp2_with (first | (go_at_call 128; refine (ff_3x _ _ (by rw [hz.out]; omega) (by rw [hz.out]; omega) (by rw [ha0.out, hc]) (by rw [hz.out]; omega)).mono ?_; rintro e w1 ⟨rfl, hb1⟩; have hf1 := (bcell hb1).2; have hz1 := hb1.size; (try simp at hz1); have hy1 : w.heap.size < w1.heap.size := (by omega); have qa1 : w1.cell? ⟨w.heap.size, 0, none⟩ = some (.int .i64 0) := cell_later hb1 (by go_simp); have qb1 : w1.cell? ⟨w.heap.size, 1, none⟩ = some (.int .i64 0) := cell_later hb1 (by go_simp); have qc1 : w1.cell? ⟨w.heap.size, 2, none⟩ = some (.string ⟨#[]⟩) := cell_later hb1 (by go_simp)) | go_in)
  refine bodyPost_ret (v := .tuple #[.agg #[.int .i64 0, .int .i64 0, .string ⟨#[]⟩], .int .i64 (-1)]) (by simp [results, Tryz.results125, go_sem, *]) rfl ⟨rfl, ?_⟩
  exact bela
set_option maxHeartbeats 2000000 in
set_option maxRecDepth 100000 in
theorem get_3m (s : ByteArray) (i : Nat) (m : Nat) (w : World) (hi : i < s.size) (hs : s.size ≤ 1048576) (hc : bAt s i = 3) (h2 : i + 2 ≤ s.size) (hm : bAt s (i + 1) = m) (hn : s.size < i + 2 + m) :
    Calls Tryz.prog 125 #[.string s, .int .i64 i] w fun e w' => e = .returned (.tuple #[.agg #[.int .i64 0, .int .i64 0, .string ⟨#[]⟩], .int .i64 (-1)]) ∧ Below w.heap.size w w' := by
  have hl1 : (i : Int) < s.size := by omega
  have hl2 : (i : Int) ≤ s.size := by omega
  have hz : Hid ((s.extract i s.size).size = s.size - i) := extract_size s i s.size (by omega) (by omega)
  have ha0 : Hid (bAt (s.extract i s.size) 0 = bAt s i) := bAt_extract s i s.size 0 (by omega)
  go_enter Tryz.func125, Tryz.ntmps125
  go_wp2_with (first | (go_at_call 128; refine (ff_3y _ m _ (by rw [hz.out]; omega) (by rw [hz.out]; omega) (by rw [ha0.out, hc]) (by rw [hz.out]; omega) (by rw [bAt_extract s i s.size 1 (by omega)]; exact hm) (by rw [hz.out]; omega)).mono ?_; rintro e w1 ⟨rfl, hb1⟩; have hf1 := (bcell hb1).2; have hz1 := hb1.size; (try simp at hz1); have hy1 : w.heap.size < w1.heap.size := (by omega); have qa1 : w1.cell? ⟨w.heap.size, 0, none⟩ = some (.int .i64 0) := cell_later hb1 (by go_simp); have qb1 : w1.cell? ⟨w.heap.size, 1, none⟩ = some (.int .i64 0) := cell_later hb1 (by go_simp); have qc1 : w1.cell? ⟨w.heap.size, 2, none⟩ = some (.string ⟨#[]⟩) := cell_later hb1 (by go_simp)) | go_in)
  refine bodyPost_ret (v := .tuple #[.agg #[.int .i64 0, .int .i64 0, .string ⟨#[]⟩], .int .i64 (-1)]) (by simp [results, Tryz.results125, go_sem, *]) rfl ⟨rfl, ?_⟩
  exact bela
set_option maxHeartbeats 2000000 in
set_option maxRecDepth 100000 in
theorem get_4 (s : ByteArray) (i : Nat) (m : Nat) (w : World) (hi : i < s.size) (hs : s.size ≤ 1048576) (hc : 4 ≤ bAt s i) :
    Calls Tryz.prog 125 #[.string s, .int .i64 i] w fun e w' => e = .returned (.tuple #[.agg #[.int .i64 0, .int .i64 0, .string ⟨#[]⟩], .int .i64 (-1)]) ∧ Below w.heap.size w w' := by
  have hl1 : (i : Int) < s.size := by omega
  have hl2 : (i : Int) ≤ s.size := by omega
  have hz : Hid ((s.extract i s.size).size = s.size - i) := extract_size s i s.size (by omega) (by omega)
  have ha0 : Hid (bAt (s.extract i s.size) 0 = bAt s i) := bAt_extract s i s.size 0 (by omega)
  go_enter Tryz.func125, Tryz.ntmps125
  go_wp2_with (first | (go_at_call 128; refine (ff_z _ _ (by rw [hz.out]; omega) (by rw [hz.out]; omega) (by rw [ha0.out]; exact hc)).mono ?_; rintro e w1 ⟨rfl, hb1⟩; have hf1 := (bcell hb1).2; have hz1 := hb1.size; (try simp at hz1); have hy1 : w.heap.size < w1.heap.size := (by omega); have qa1 : w1.cell? ⟨w.heap.size, 0, none⟩ = some (.int .i64 0) := cell_later hb1 (by go_simp); have qb1 : w1.cell? ⟨w.heap.size, 1, none⟩ = some (.int .i64 0) := cell_later hb1 (by go_simp); have qc1 : w1.cell? ⟨w.heap.size, 2, none⟩ = some (.string ⟨#[]⟩) := cell_later hb1 (by go_simp)) | go_in)
  refine bodyPost_ret (v := .tuple #[.agg #[.int .i64 0, .int .i64 0, .string ⟨#[]⟩], .int .i64 (-1)]) (by simp [results, Tryz.results125, go_sem, *]) rfl ⟨rfl, ?_⟩
  exact bela
end Go.Proofs.YtbmoimfimeiglaaGreat
namespace Go.Proofs.YtbmoimfimeiglaaGreat
open Go.RowKit
set_option linter.unusedVariables false
theorem step_u64 (b : Int) (c : UInt8) (h0 : 0 ≤ b) (h1 : b < 72057594037927936) : IntKind.u64.wrap (IntKind.u64.wrap (256 * b) + IntKind.u64.wrap c.toNat) = 256 * b + c.toNat := by
  have hc := c.toNat_lt
  rw [IntKind.wrap_u64, IntKind.wrap_u64, IntKind.wrap_u64]
  omega
theorem take_drop_snoc (s : ByteArray) (a k : Nat) (h : a + k < s.size) : (s.data.toList.drop a).take (k + 1) = (s.data.toList.drop a).take k ++ [s[a + k]] := by
  rw [List.take_succ_eq_append_getElem (by simp; omega)]
  congr 2
  rw [List.getElem_drop]
  rfl
theorem nilList : (⟨#[]⟩ : ByteArray).toList = [] := by rw [ByteArray.toList_eq]
theorem okB_lit_0 : okB 0 0 ⟨#[]⟩ = true := by rw [okB_0, nilList]; rfl
theorem okB_lit_1 (n : Int) : okB 1 n ⟨#[]⟩ = true := by rw [okB_1, nilList]; rfl
theorem okB_lit_2 (m : Nat) (h : m = 0 ∨ m = 1) : okB 2 (m : Int) ⟨#[]⟩ = true := by rw [okB_2, nilList]; rcases h with rfl | rfl <;> rfl
theorem okB_lit_2x (m : Nat) (h : 2 ≤ m) : okB 2 (m : Int) ⟨#[]⟩ = false := by rw [okB_2, nilList]; simp; omega
theorem okB_lit_3 (x : ByteArray) (h : x.size ≤ 100) : okB 3 0 x = true := by rw [okB_3]; simp [h]
theorem okB_lit_3x (x : ByteArray) (h : 101 ≤ x.size) : okB 3 0 x = false := by rw [okB_3]; simp; omega
set_option maxHeartbeats 2000000 in
set_option maxRecDepth 100000 in
theorem sget_0 (s : ByteArray) (i : Nat) (m : Nat) (w : World) (hi : i < s.size) (hs : s.size ≤ 1048576) (hc : bAt s i = 0) :
    Calls Tryz.prog 71 #[.string s, .int .i64 i] w fun e w' => e = .returned (.tuple #[.agg #[.int .i64 0, .int .i64 0, .string ⟨#[]⟩], .int .i64 ((i : Int) + 1)]) ∧ Below w.heap.size w w' := by
  have hl1 : (i : Int) < s.size := by omega
  have hin : inB (i : Int) 0 ((s.size : Int) - 1) = true := by simp [inB]; omega
  have hc' : wrap64 (s[i].toNat : Int) = 0 := by rw [wrap64_byte, bAt_eq s i hi, hc]; rfl
  clear hc
  have hok := okB_lit_0
  go_enter Tryz.func71, Tryz.ntmps71
  go_wp2_with (first | (go_at_call 51; refine (l01InN_any _ _ _ _).mono ?_; rintro e w' ⟨rfl, rfl⟩) | (go_at_call 103; refine (specValueOk_any _ _ _ _ (by unfold maxLen; decide)).mono ?_; rintro e w1 ⟨rfl, hb1⟩; have hf1 := (bcell hb1).2; have hz1 := hb1.size; (try simp at hz1); have hy1 : w.heap.size < w1.heap.size := (by omega); have hx1 : w.heap.size + 1 < w1.heap.size := (by omega); have qa1 : w1.cell? ⟨w.heap.size, 0, none⟩ = some (.int .i64 0) := cell_later hb1 (by go_simp); have qb1 : w1.cell? ⟨w.heap.size, 1, none⟩ = some (.int .i64 0) := cell_later hb1 (by go_simp); have qc1 : w1.cell? ⟨w.heap.size, 2, none⟩ = some (.string ⟨#[]⟩) := cell_later hb1 (by go_simp); have ra1 : w1.cell? ⟨w.heap.size + 1, 0, none⟩ = some (.int .i64 0) := cell_later hb1 (by go_simp); have rb1 : w1.cell? ⟨w.heap.size + 1, 1, none⟩ = some (.int .i64 0) := cell_later hb1 (by go_simp); have rc1 : w1.cell? ⟨w.heap.size + 1, 2, none⟩ = some (.string ⟨#[]⟩) := cell_later hb1 (by go_simp)))
  refine bodyPost_ret (v := .tuple #[.agg #[.int .i64 0, .int .i64 0, .string ⟨#[]⟩], .int .i64 ((i : Int) + 1)]) (by simp [results, Tryz.results71, go_sem, *]) rfl ⟨rfl, ?_⟩
  exact bela
set_option maxHeartbeats 2000000 in
set_option maxRecDepth 100000 in
theorem sget_1 (s : ByteArray) (i : Nat) (m : Nat) (w : World) (hi : i < s.size) (hs : s.size ≤ 1048576) (hc : bAt s i = 1) (h9 : i + 9 ≤ s.size) :
    Calls Tryz.prog 71 #[.string s, .int .i64 i] w fun e w' => e = .returned (.tuple #[.agg #[.int .i64 1, .int .i64 (numAt s (i + 1)), .string ⟨#[]⟩], .int .i64 ((i : Int) + 9)]) ∧ Below w.heap.size w w' := by
  have hl1 : (i : Int) < s.size := by omega
  have hin : inB (i : Int) 0 ((s.size : Int) - 1) = true := by simp [inB]; omega
  have hc' : wrap64 (s[i].toNat : Int) = 1 := by rw [wrap64_byte, bAt_eq s i hi, hc]; rfl
  clear hc
  have hr : (9 : Int) ≤ (s.size : Int) - i := by omega
  have hok := okB_lit_1 (numAt s (i + 1))
  go_enter Tryz.func71, Tryz.ntmps71
  go_wp2_with (first | (go_at_call 51; refine (l01InN_any _ _ _ _).mono ?_; rintro e w' ⟨rfl, rfl⟩))
  clear hc'
  go_loop [8, 9] (fun u j => ∃ k : Nat, k ≤ 8 ∧ j = .int .i64 ((k : Int) + 1) ∧ u = .int .u64 (be ((s.data.toList.drop (i + 1)).take k))) (fun _ j => 9 - (intOf j).toNat)
  case atStart => exact ⟨0, by omega, rfl, rfl⟩
  case round =>
    obtain ⟨k, hk, rfl, rfl⟩ := hrel
    by_cases hlt : k < 8
    · have hxx : i + (k + 1) < s.size := by omega
      have hxi : (i : Int) + ((k : Int) + 1) < s.size := by omega
      have hst : Hid (IntKind.u64.wrap (IntKind.u64.wrap (256 * be ((s.data.toList.drop (i + 1)).take k)) + IntKind.u64.wrap (s[i + (k + 1)].toNat)) = be ((s.data.toList.drop (i + 1)).take (k + 1))) := by
        show _ = _
        have hb := be_bd7 ((s.data.toList.drop (i + 1)).take k) (by rw [List.length_take]; omega)
        rw [step_u64 _ _ hb.1 hb.2, take_drop_snoc s (i + 1) k (by omega), be_snoc]
        simp only [show i + (k + 1) = i + 1 + k from by omega]
      go_wp2
      go_round
      case rel => exact ⟨k + 1, by omega, by go_num, by rw [← hst.out]⟩
      case measure => simp [intOf]; omega
    · have hk8 : k = 8 := by omega
      subst hk8
      have hnum : wrap64 (be ((s.data.toList.drop (i + 1)).take 8)) = numAt s (i + 1) := rfl
      go_wp2_with (first | (go_at_call 103; refine (specValueOk_any _ _ _ _ (by unfold maxLen; decide)).mono ?_; rintro e w1 ⟨rfl, hb1⟩; have hf1 := (bcell hb1).2; have hz1 := hb1.size; (try simp at hz1); have hy1 : w.heap.size < w1.heap.size := (by omega); have hx1 : w.heap.size + 1 < w1.heap.size := (by omega); have qa1 : w1.cell? ⟨w.heap.size, 0, none⟩ = some (.int .i64 0) := cell_later hb1 (by go_simp); have qb1 : w1.cell? ⟨w.heap.size, 1, none⟩ = some (.int .i64 0) := cell_later hb1 (by go_simp); have qc1 : w1.cell? ⟨w.heap.size, 2, none⟩ = some (.string ⟨#[]⟩) := cell_later hb1 (by go_simp); have ra1 : w1.cell? ⟨w.heap.size + 1, 0, none⟩ = some (.int .i64 1) := cell_later hb1 (by go_simp); have rb1 : w1.cell? ⟨w.heap.size + 1, 1, none⟩ = some (.int .i64 (numAt s (i + 1))) := cell_later hb1 (by go_simp); have rc1 : w1.cell? ⟨w.heap.size + 1, 2, none⟩ = some (.string ⟨#[]⟩) := cell_later hb1 (by go_simp)))
      refine bodyPost_ret (v := .tuple #[.agg #[.int .i64 1, .int .i64 (numAt s (i + 1)), .string ⟨#[]⟩], .int .i64 ((i : Int) + 9)]) (by simp [results, Tryz.results71, go_sem, *]) rfl ⟨rfl, ?_⟩
      exact bela
set_option maxHeartbeats 2000000 in
set_option maxRecDepth 100000 in
theorem sget_2 (s : ByteArray) (i : Nat) (m : Nat) (w : World) (hi : i < s.size) (hs : s.size ≤ 1048576) (hc : bAt s i = 2) (h2 : i + 2 ≤ s.size) (hm : bAt s (i + 1) = m) (hg : m = 0 ∨ m = 1) :
    Calls Tryz.prog 71 #[.string s, .int .i64 i] w fun e w' => e = .returned (.tuple #[.agg #[.int .i64 2, .int .i64 (m : Int), .string ⟨#[]⟩], .int .i64 ((i : Int) + 2)]) ∧ Below w.heap.size w w' := by
  have hl1 : (i : Int) < s.size := by omega
  have hin : inB (i : Int) 0 ((s.size : Int) - 1) = true := by simp [inB]; omega
  have hc' : wrap64 (s[i].toNat : Int) = 2 := by rw [wrap64_byte, bAt_eq s i hi, hc]; rfl
  clear hc
  have hm' : wrap64 ((s[i + 1]'(by omega)).toNat : Int) = m := by rw [wrap64_byte, bAt_eq s (i + 1) (by omega), hm]
  have hx : i + 1 < s.size := by omega
  have hm256 : m < 256 := by have := bAt_lt s (i + 1); omega
  clear hm
  have hr : (2 : Int) ≤ (s.size : Int) - i := by omega
  have hok := okB_lit_2 m hg
  clear hg
  go_enter Tryz.func71, Tryz.ntmps71
  go_wp2_with (first | (go_at_call 51; refine (l01InN_any _ _ _ _).mono ?_; rintro e w' ⟨rfl, rfl⟩) | (go_at_call 103; refine (specValueOk_any _ _ _ _ (by unfold maxLen; decide)).mono ?_; rintro e w1 ⟨rfl, hb1⟩; have hf1 := (bcell hb1).2; have hz1 := hb1.size; (try simp at hz1); have hy1 : w.heap.size < w1.heap.size := (by omega); have hx1 : w.heap.size + 1 < w1.heap.size := (by omega); have qa1 : w1.cell? ⟨w.heap.size, 0, none⟩ = some (.int .i64 0) := cell_later hb1 (by go_simp); have qb1 : w1.cell? ⟨w.heap.size, 1, none⟩ = some (.int .i64 0) := cell_later hb1 (by go_simp); have qc1 : w1.cell? ⟨w.heap.size, 2, none⟩ = some (.string ⟨#[]⟩) := cell_later hb1 (by go_simp); have ra1 : w1.cell? ⟨w.heap.size + 1, 0, none⟩ = some (.int .i64 2) := cell_later hb1 (by go_simp); have rb1 : w1.cell? ⟨w.heap.size + 1, 1, none⟩ = some (.int .i64 m) := cell_later hb1 (by go_simp); have rc1 : w1.cell? ⟨w.heap.size + 1, 2, none⟩ = some (.string ⟨#[]⟩) := cell_later hb1 (by go_simp)))
  refine bodyPost_ret (v := .tuple #[.agg #[.int .i64 2, .int .i64 (m : Int), .string ⟨#[]⟩], .int .i64 ((i : Int) + 2)]) (by simp [results, Tryz.results71, go_sem, *]) rfl ⟨rfl, ?_⟩
  exact bela
set_option maxHeartbeats 2000000 in
set_option maxRecDepth 100000 in
theorem sget_2x (s : ByteArray) (i : Nat) (m : Nat) (w : World) (hi : i < s.size) (hs : s.size ≤ 1048576) (hc : bAt s i = 2) (h2 : i + 2 ≤ s.size) (hm : bAt s (i + 1) = m) (hg : 2 ≤ m) :
    Calls Tryz.prog 71 #[.string s, .int .i64 i] w fun e w' => e = .returned (.tuple #[.agg #[.int .i64 0, .int .i64 0, .string ⟨#[]⟩], .int .i64 (-1)]) ∧ Below w.heap.size w w' := by
  have hl1 : (i : Int) < s.size := by omega
  have hin : inB (i : Int) 0 ((s.size : Int) - 1) = true := by simp [inB]; omega
  have hc' : wrap64 (s[i].toNat : Int) = 2 := by rw [wrap64_byte, bAt_eq s i hi, hc]; rfl
  clear hc
  have hm' : wrap64 ((s[i + 1]'(by omega)).toNat : Int) = m := by rw [wrap64_byte, bAt_eq s (i + 1) (by omega), hm]
  have hx : i + 1 < s.size := by omega
  have hm256 : m < 256 := by have := bAt_lt s (i + 1); omega
  clear hm
  have hr : (2 : Int) ≤ (s.size : Int) - i := by omega
  have hok := okB_lit_2x m hg
  go_enter Tryz.func71, Tryz.ntmps71
  go_wp2_with (first | (go_at_call 51; refine (l01InN_any _ _ _ _).mono ?_; rintro e w' ⟨rfl, rfl⟩) | (go_at_call 103; refine (specValueOk_any _ _ _ _ (by unfold maxLen; decide)).mono ?_; rintro e w1 ⟨rfl, hb1⟩; have hf1 := (bcell hb1).2; have hz1 := hb1.size; (try simp at hz1); have hy1 : w.heap.size < w1.heap.size := (by omega); have hx1 : w.heap.size + 1 < w1.heap.size := (by omega); have qa1 : w1.cell? ⟨w.heap.size, 0, none⟩ = some (.int .i64 0) := cell_later hb1 (by go_simp); have qb1 : w1.cell? ⟨w.heap.size, 1, none⟩ = some (.int .i64 0) := cell_later hb1 (by go_simp); have qc1 : w1.cell? ⟨w.heap.size, 2, none⟩ = some (.string ⟨#[]⟩) := cell_later hb1 (by go_simp); have ra1 : w1.cell? ⟨w.heap.size + 1, 0, none⟩ = some (.int .i64 2) := cell_later hb1 (by go_simp); have rb1 : w1.cell? ⟨w.heap.size + 1, 1, none⟩ = some (.int .i64 m) := cell_later hb1 (by go_simp); have rc1 : w1.cell? ⟨w.heap.size + 1, 2, none⟩ = some (.string ⟨#[]⟩) := cell_later hb1 (by go_simp)))
  refine bodyPost_ret (v := .tuple #[.agg #[.int .i64 0, .int .i64 0, .string ⟨#[]⟩], .int .i64 (-1)]) (by simp [results, Tryz.results71, go_sem, *]) rfl ⟨rfl, ?_⟩
  exact bela
set_option maxHeartbeats 2000000 in
set_option maxRecDepth 100000 in
theorem sget_3 (s : ByteArray) (i : Nat) (m : Nat) (w : World) (hi : i < s.size) (hs : s.size ≤ 1048576) (hc : bAt s i = 3) (h2 : i + 2 ≤ s.size) (hm : bAt s (i + 1) = m) (hn : i + 2 + m ≤ s.size) (hg : m ≤ 100) :
    Calls Tryz.prog 71 #[.string s, .int .i64 i] w fun e w' => e = .returned (.tuple #[.agg #[.int .i64 3, .int .i64 0, .string (s.extract (i + 2) (i + 2 + m))], .int .i64 ((i : Int) + (2 + (m : Int)))]) ∧ Below w.heap.size w w' := by
  have hl1 : (i : Int) < s.size := by omega
  have hin : inB (i : Int) 0 ((s.size : Int) - 1) = true := by simp [inB]; omega
  have hc' : wrap64 (s[i].toNat : Int) = 3 := by rw [wrap64_byte, bAt_eq s i hi, hc]; rfl
  clear hc
  have hm' : wrap64 ((s[i + 1]'(by omega)).toNat : Int) = m := by rw [wrap64_byte, bAt_eq s (i + 1) (by omega), hm]
  have hx : i + 1 < s.size := by omega
  have hm256 : m < 256 := by have := bAt_lt s (i + 1); omega
  clear hm
  have hr : (2 : Int) ≤ (s.size : Int) - i := by omega
  have hr2 : (m : Int) ≤ (s.size : Int) - i - 2 := by omega
  have hes : Hid ((s.extract (i + 2) (i + 2 + m)).size = m) := by show _ = _; rw [extract_size s (i + 2) (i + 2 + m) (by omega) (by omega)]; omega
  have hen : ((i : Int) + (2 + (m : Int))).toNat = i + 2 + m := by omega
  have hen2 : ((i : Int) + 2).toNat = i + 2 := by omega
  have hok := okB_lit_3 (s.extract (i + 2) (i + 2 + m)) (by rw [hes.out]; omega)
  go_enter Tryz.func71, Tryz.ntmps71
  go_wp2_with (first | (go_at_call 51; refine (l01InN_any _ _ _ _).mono ?_; rintro e w' ⟨rfl, rfl⟩) | (go_at_call 103; refine (specValueOk_any _ _ _ _ (by unfold maxLen; rw [hes.out]; omega)).mono ?_; rintro e w1 ⟨rfl, hb1⟩; have hf1 := (bcell hb1).2; have hz1 := hb1.size; (try simp at hz1); have hy1 : w.heap.size < w1.heap.size := (by omega); have hx1 : w.heap.size + 1 < w1.heap.size := (by omega); have qa1 : w1.cell? ⟨w.heap.size, 0, none⟩ = some (.int .i64 0) := cell_later hb1 (by go_simp); have qb1 : w1.cell? ⟨w.heap.size, 1, none⟩ = some (.int .i64 0) := cell_later hb1 (by go_simp); have qc1 : w1.cell? ⟨w.heap.size, 2, none⟩ = some (.string ⟨#[]⟩) := cell_later hb1 (by go_simp); have ra1 : w1.cell? ⟨w.heap.size + 1, 0, none⟩ = some (.int .i64 3) := cell_later hb1 (by go_simp); have rb1 : w1.cell? ⟨w.heap.size + 1, 1, none⟩ = some (.int .i64 0) := cell_later hb1 (by go_simp); have rc1 : w1.cell? ⟨w.heap.size + 1, 2, none⟩ = some (.string (s.extract (i + 2) (i + 2 + m))) := cell_later hb1 (by go_simp)))
  refine bodyPost_ret (v := .tuple #[.agg #[.int .i64 3, .int .i64 0, .string (s.extract (i + 2) (i + 2 + m))], .int .i64 ((i : Int) + (2 + (m : Int)))]) (by simp [results, Tryz.results71, go_sem, *]) rfl ⟨rfl, ?_⟩
  exact bela
set_option maxHeartbeats 2000000 in
set_option maxRecDepth 100000 in
theorem sget_3x (s : ByteArray) (i : Nat) (m : Nat) (w : World) (hi : i < s.size) (hs : s.size ≤ 1048576) (hc : bAt s i = 3) (h2 : i + 2 ≤ s.size) (hm : bAt s (i + 1) = m) (hn : i + 2 + m ≤ s.size) (hg : 101 ≤ m) :
    Calls Tryz.prog 71 #[.string s, .int .i64 i] w fun e w' => e = .returned (.tuple #[.agg #[.int .i64 0, .int .i64 0, .string ⟨#[]⟩], .int .i64 (-1)]) ∧ Below w.heap.size w w' := by
  have hl1 : (i : Int) < s.size := by omega
  have hin : inB (i : Int) 0 ((s.size : Int) - 1) = true := by simp [inB]; omega
  have hc' : wrap64 (s[i].toNat : Int) = 3 := by rw [wrap64_byte, bAt_eq s i hi, hc]; rfl
  clear hc
  have hm' : wrap64 ((s[i + 1]'(by omega)).toNat : Int) = m := by rw [wrap64_byte, bAt_eq s (i + 1) (by omega), hm]
  have hx : i + 1 < s.size := by omega
  have hm256 : m < 256 := by have := bAt_lt s (i + 1); omega
  clear hm
  have hr : (2 : Int) ≤ (s.size : Int) - i := by omega
  have hr2 : (m : Int) ≤ (s.size : Int) - i - 2 := by omega
  have hes : Hid ((s.extract (i + 2) (i + 2 + m)).size = m) := by show _ = _; rw [extract_size s (i + 2) (i + 2 + m) (by omega) (by omega)]; omega
  have hen : ((i : Int) + (2 + (m : Int))).toNat = i + 2 + m := by omega
  have hen2 : ((i : Int) + 2).toNat = i + 2 := by omega
  have hok := okB_lit_3x (s.extract (i + 2) (i + 2 + m)) (by rw [hes.out]; omega)
  go_enter Tryz.func71, Tryz.ntmps71
  go_wp2_with (first | (go_at_call 51; refine (l01InN_any _ _ _ _).mono ?_; rintro e w' ⟨rfl, rfl⟩) | (go_at_call 103; refine (specValueOk_any _ _ _ _ (by unfold maxLen; rw [hes.out]; omega)).mono ?_; rintro e w1 ⟨rfl, hb1⟩; have hf1 := (bcell hb1).2; have hz1 := hb1.size; (try simp at hz1); have hy1 : w.heap.size < w1.heap.size := (by omega); have hx1 : w.heap.size + 1 < w1.heap.size := (by omega); have qa1 : w1.cell? ⟨w.heap.size, 0, none⟩ = some (.int .i64 0) := cell_later hb1 (by go_simp); have qb1 : w1.cell? ⟨w.heap.size, 1, none⟩ = some (.int .i64 0) := cell_later hb1 (by go_simp); have qc1 : w1.cell? ⟨w.heap.size, 2, none⟩ = some (.string ⟨#[]⟩) := cell_later hb1 (by go_simp); have ra1 : w1.cell? ⟨w.heap.size + 1, 0, none⟩ = some (.int .i64 3) := cell_later hb1 (by go_simp); have rb1 : w1.cell? ⟨w.heap.size + 1, 1, none⟩ = some (.int .i64 0) := cell_later hb1 (by go_simp); have rc1 : w1.cell? ⟨w.heap.size + 1, 2, none⟩ = some (.string (s.extract (i + 2) (i + 2 + m))) := cell_later hb1 (by go_simp)))
  refine bodyPost_ret (v := .tuple #[.agg #[.int .i64 0, .int .i64 0, .string ⟨#[]⟩], .int .i64 (-1)]) (by simp [results, Tryz.results71, go_sem, *]) rfl ⟨rfl, ?_⟩
  exact bela
set_option maxHeartbeats 2000000 in
set_option maxRecDepth 100000 in
theorem sget_1n (s : ByteArray) (i : Nat) (m : Nat) (w : World) (hi : i < s.size) (hs : s.size ≤ 1048576) (hc : bAt s i = 1) (h9 : s.size < i + 9) :
    Calls Tryz.prog 71 #[.string s, .int .i64 i] w fun e w' => e = .returned (.tuple #[.agg #[.int .i64 0, .int .i64 0, .string ⟨#[]⟩], .int .i64 (-1)]) ∧ Below w.heap.size w w' := by
  have hl1 : (i : Int) < s.size := by omega
  have hin : inB (i : Int) 0 ((s.size : Int) - 1) = true := by simp [inB]; omega
  have hc' : wrap64 (s[i].toNat : Int) = 1 := by rw [wrap64_byte, bAt_eq s i hi, hc]; rfl
  clear hc
  have hr : decide ((9 : Int) ≤ (s.size : Int) - i) = false := by simp; omega
  go_enter Tryz.func71, Tryz.ntmps71
  go_wp2_with (first | (go_at_call 51; refine (l01InN_any _ _ _ _).mono ?_; rintro e w' ⟨rfl, rfl⟩))
  refine bodyPost_ret (v := .tuple #[.agg #[.int .i64 0, .int .i64 0, .string ⟨#[]⟩], .int .i64 (-1)]) (by simp [results, Tryz.results71, go_sem, *]) rfl ⟨rfl, ?_⟩
  exact bela
set_option maxHeartbeats 2000000 in
set_option maxRecDepth 100000 in
theorem sget_2n (s : ByteArray) (i : Nat) (m : Nat) (w : World) (hi : i < s.size) (hs : s.size ≤ 1048576) (hc : bAt s i = 2) (h2 : s.size < i + 2) :
    Calls Tryz.prog 71 #[.string s, .int .i64 i] w fun e w' => e = .returned (.tuple #[.agg #[.int .i64 0, .int .i64 0, .string ⟨#[]⟩], .int .i64 (-1)]) ∧ Below w.heap.size w w' := by
  have hl1 : (i : Int) < s.size := by omega
  have hin : inB (i : Int) 0 ((s.size : Int) - 1) = true := by simp [inB]; omega
  have hc' : wrap64 (s[i].toNat : Int) = 2 := by rw [wrap64_byte, bAt_eq s i hi, hc]; rfl
  clear hc
  have hr : decide ((2 : Int) ≤ (s.size : Int) - i) = false := by simp; omega
  go_enter Tryz.func71, Tryz.ntmps71
  go_wp2_with (first | (go_at_call 51; refine (l01InN_any _ _ _ _).mono ?_; rintro e w' ⟨rfl, rfl⟩))
  refine bodyPost_ret (v := .tuple #[.agg #[.int .i64 0, .int .i64 0, .string ⟨#[]⟩], .int .i64 (-1)]) (by simp [results, Tryz.results71, go_sem, *]) rfl ⟨rfl, ?_⟩
  exact bela
set_option maxHeartbeats 2000000 in
set_option maxRecDepth 100000 in
theorem sget_3n (s : ByteArray) (i : Nat) (m : Nat) (w : World) (hi : i < s.size) (hs : s.size ≤ 1048576) (hc : bAt s i = 3) (h2 : s.size < i + 2) :
    Calls Tryz.prog 71 #[.string s, .int .i64 i] w fun e w' => e = .returned (.tuple #[.agg #[.int .i64 0, .int .i64 0, .string ⟨#[]⟩], .int .i64 (-1)]) ∧ Below w.heap.size w w' := by
  have hl1 : (i : Int) < s.size := by omega
  have hin : inB (i : Int) 0 ((s.size : Int) - 1) = true := by simp [inB]; omega
  have hc' : wrap64 (s[i].toNat : Int) = 3 := by rw [wrap64_byte, bAt_eq s i hi, hc]; rfl
  clear hc
  have hr : decide ((2 : Int) ≤ (s.size : Int) - i) = false := by simp; omega
  go_enter Tryz.func71, Tryz.ntmps71
  go_wp2_with (first | (go_at_call 51; refine (l01InN_any _ _ _ _).mono ?_; rintro e w' ⟨rfl, rfl⟩))
  refine bodyPost_ret (v := .tuple #[.agg #[.int .i64 0, .int .i64 0, .string ⟨#[]⟩], .int .i64 (-1)]) (by simp [results, Tryz.results71, go_sem, *]) rfl ⟨rfl, ?_⟩
  exact bela
set_option maxHeartbeats 2000000 in
set_option maxRecDepth 100000 in
theorem sget_3m (s : ByteArray) (i : Nat) (m : Nat) (w : World) (hi : i < s.size) (hs : s.size ≤ 1048576) (hc : bAt s i = 3) (h2 : i + 2 ≤ s.size) (hm : bAt s (i + 1) = m) (hn : s.size < i + 2 + m) :
    Calls Tryz.prog 71 #[.string s, .int .i64 i] w fun e w' => e = .returned (.tuple #[.agg #[.int .i64 0, .int .i64 0, .string ⟨#[]⟩], .int .i64 (-1)]) ∧ Below w.heap.size w w' := by
  have hl1 : (i : Int) < s.size := by omega
  have hin : inB (i : Int) 0 ((s.size : Int) - 1) = true := by simp [inB]; omega
  have hc' : wrap64 (s[i].toNat : Int) = 3 := by rw [wrap64_byte, bAt_eq s i hi, hc]; rfl
  clear hc
  have hm' : wrap64 ((s[i + 1]'(by omega)).toNat : Int) = m := by rw [wrap64_byte, bAt_eq s (i + 1) (by omega), hm]
  have hx : i + 1 < s.size := by omega
  have hm256 : m < 256 := by have := bAt_lt s (i + 1); omega
  clear hm
  have hr : (2 : Int) ≤ (s.size : Int) - i := by omega
  have hr2 : decide ((m : Int) ≤ (s.size : Int) - i - 2) = false := by simp; omega
  go_enter Tryz.func71, Tryz.ntmps71
  go_wp2_with (first | (go_at_call 51; refine (l01InN_any _ _ _ _).mono ?_; rintro e w' ⟨rfl, rfl⟩))
  refine bodyPost_ret (v := .tuple #[.agg #[.int .i64 0, .int .i64 0, .string ⟨#[]⟩], .int .i64 (-1)]) (by simp [results, Tryz.results71, go_sem, *]) rfl ⟨rfl, ?_⟩
  exact bela
set_option maxHeartbeats 2000000 in
set_option maxRecDepth 100000 in
theorem sget_4 (s : ByteArray) (i : Nat) (m : Nat) (w : World) (hi : i < s.size) (hs : s.size ≤ 1048576) (hc : 4 ≤ bAt s i) :
    Calls Tryz.prog 71 #[.string s, .int .i64 i] w fun e w' => e = .returned (.tuple #[.agg #[.int .i64 0, .int .i64 0, .string ⟨#[]⟩], .int .i64 (-1)]) ∧ Below w.heap.size w w' := by
  have hl1 : (i : Int) < s.size := by omega
  have hin : inB (i : Int) 0 ((s.size : Int) - 1) = true := by simp [inB]; omega
  have hd1 : (wrap64 (s[i].toNat : Int) == 1) = false := by rw [wrap64_byte, bAt_eq s i hi]; simp; omega
  have hd2 : (wrap64 (s[i].toNat : Int) == 2) = false := by rw [wrap64_byte, bAt_eq s i hi]; simp; omega
  have hd3 : (wrap64 (s[i].toNat : Int) == 3) = false := by rw [wrap64_byte, bAt_eq s i hi]; simp; omega
  have hd0 : (wrap64 (s[i].toNat : Int) != 0) = true := by rw [wrap64_byte, bAt_eq s i hi]; simp; omega
  go_enter Tryz.func71, Tryz.ntmps71
  go_wp2_with (first | (go_at_call 51; refine (l01InN_any _ _ _ _).mono ?_; rintro e w' ⟨rfl, rfl⟩))
  refine bodyPost_ret (v := .tuple #[.agg #[.int .i64 0, .int .i64 0, .string ⟨#[]⟩], .int .i64 (-1)]) (by simp [results, Tryz.results71, go_sem, *]) rfl ⟨rfl, ?_⟩
  exact bela
end Go.Proofs.YtbmoimfimeiglaaGreat
