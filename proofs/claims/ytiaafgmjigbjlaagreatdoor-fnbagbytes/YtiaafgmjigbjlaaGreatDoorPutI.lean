/- Own text. The bytes of a value as a text (putS), and the contract of the program's PutValue. -/
import Derived.Test.YtiaafgmjigbjlaaGreatDoorPutF
namespace Go.Proofs.YtiaafgmjigbjlaaGreatDoor
open Go.RowKit
set_option linter.unusedVariables false
/-- the bytes of a value; the empty text where it is none. -/
def putS (k n : Int) (s : ByteArray) : ByteArray :=
  if okB k n s = true then (if k = 0 then strOfNums [0] else if k = 1 then strOfNums (numL n 8) else if k = 2 then strOfNums [2, n] else strOfNums [3, (s.size : Int)] ++ s) else ⟨#[]⟩
theorem putS_no (k n : Int) (s : ByteArray) (h : okB k n s = false) : putS k n s = ⟨#[]⟩ := by rw [putS, h]; rfl
theorem putS_0 (n : Int) (s : ByteArray) (h : okB 0 n s = true) : putS 0 n s = strOfNums [0] := by rw [putS, if_pos h]; rfl
theorem putS_1 (n : Int) (s : ByteArray) (h : okB 1 n s = true) : putS 1 n s = strOfNums (numL n 8) := by rw [putS, if_pos h]; rfl
theorem putS_2 (n : Int) (s : ByteArray) (h : okB 2 n s = true) : putS 2 n s = strOfNums [2, n] := by rw [putS, if_pos h]; rfl
theorem putS_3 (n : Int) (s : ByteArray) (h : okB 3 n s = true) : putS 3 n s = strOfNums [3, (s.size : Int)] ++ s := by rw [putS, if_pos h]; rfl
theorem nums_append (xs : List Int) (s : ByteArray) : strOfNums (xs ++ s.data.toList.map (fun b => (b.toNat : Int))) = strOfNums xs ++ s := by
  apply ByteArray.ext
  apply Array.toList_inj.1
  rw [ByteArray.data_append, Array.toList_append]
  have e : ((fun n : Int => UInt8.ofNat n.toNat) ∘ fun b : UInt8 => (b.toNat : Int)) = id := by funext b; simp
  simp only [strOfNums, List.map_append, List.map_map, e, List.map_id]
theorem nums_size (xs : List Int) : (strOfNums xs).size = xs.length := by
  show (xs.map fun n => UInt8.ofNat n.toNat).toArray.size = _
  simp
theorem ret_str {a b : ByteArray} (h : a = b) : Ending.returned (.string a) = .returned (.string b) := by rw [h]
theorem okB_3s (n : Int) (s : ByteArray) (h : okB 3 n s = true) : s.size ≤ 100 := by rw [okB_3] at h; simp at h; exact h.2
theorem okB_2n (n : Int) (s : ByteArray) (h : okB 2 n s = true) : n = 0 ∨ n = 1 := by rw [okB_2] at h; simp at h; exact h.1
set_option maxHeartbeats 1000000 in
set_option maxRecDepth 100000 in
theorem implPut_no (k n : Int) (s : ByteArray) (w : World) (hs : s.size ≤ maxLen) (hok : okB k n s = false) :
    Calls Tryz.prog 42 #[(.agg #[.int .i64 k, .int .i64 n, .string s])] w fun e w' => e = .returned (.string (putS k n s)) ∧ Below w.heap.size w w' := by
  have hp : Hid (putS k n s = ⟨#[]⟩) := putS_no k n s hok
  go_enter Tryz.func42, Tryz.ntmps42
  go_wp2_with fail
  refine (implValueOk_any _ _ _ _ hs).mono ?_
  rintro e w1 ⟨rfl, hb1⟩
  rw [hok]
  go_wp2_with fail
  go_returns
  refine ⟨ret_str hp.out.symm, ?_⟩
  repeat (first | exact Below.refl _ _ | refine Below.drew ?_ | refine Below.alloc ?_ (by first | (simp; done) | (simp; omega) | omega) _ | refine Below.setCell ?_ (by first | (simp; done) | (simp; omega) | omega) _ | refine bstep (by assumption) (by first | (simp; done) | (simp; omega) | omega) ?_)
set_option maxHeartbeats 1000000 in
set_option maxRecDepth 100000 in
theorem implPut_0 (n : Int) (s : ByteArray) (w : World) (hs : s.size ≤ maxLen) (hok : okB 0 n s = true) :
    Calls Tryz.prog 42 #[(.agg #[.int .i64 0, .int .i64 n, .string s])] w fun e w' => e = .returned (.string (putS 0 n s)) ∧ Below w.heap.size w w' := by
  have hp : Hid (putS 0 n s = _) := putS_0 n s hok
  have hok0 : Hid (okB 0 n s = true) := hok
  go_enter Tryz.func42, Tryz.ntmps42
  go_wp2_with fail
  refine (implValueOk_any _ _ _ _ hs).mono ?_
  rintro e w1 ⟨rfl, hb1⟩
  rw [hok]
  clear hok
  have hz1 := hb1.size
  simp only [World.size_alloc] at hz1
  have hy1 : w.heap.size < w1.heap.size := by omega
  have qa : w1.cell? ⟨w.heap.size, 0, none⟩ = some (.int .i64 0) := cell_later hb1 (by go_simp)
  have qb : w1.cell? ⟨w.heap.size, 1, none⟩ = some (.int .i64 n) := cell_later hb1 (by go_simp)
  have qc : w1.cell? ⟨w.heap.size, 2, none⟩ = some (.string s) := cell_later hb1 (by go_simp)
  go_wp2_with fail
  refine (formOf_0 _ _ _).mono ?_
  rintro e w2 ⟨rfl, rfl⟩
  go_wp2_with fail
  refine (fb_0 _).mono ?_
  rintro e w3 ⟨v, rfl, hown, hb3⟩
  have hz3 := hb3.size
  simp only [World.size_alloc] at hz3
  have hcv := conv_own _ hown (by omega)
  clear hown
  go_wp2_with fail
  go_returns
  refine ⟨ret_str (hp.out.symm), ?_⟩
  repeat (first | exact Below.refl _ _ | refine Below.drew ?_ | refine Below.alloc ?_ (by first | (simp; done) | (simp; omega) | omega) _ | refine Below.setCell ?_ (by first | (simp; done) | (simp; omega) | omega) _ | refine bstep (by assumption) (by first | (simp; done) | (simp; omega) | omega) ?_)
set_option maxHeartbeats 1000000 in
set_option maxRecDepth 100000 in
theorem implPut_1 (n : Int) (s : ByteArray) (w : World) (hs : s.size ≤ maxLen) (hok : okB 1 n s = true) :
    Calls Tryz.prog 42 #[(.agg #[.int .i64 1, .int .i64 n, .string s])] w fun e w' => e = .returned (.string (putS 1 n s)) ∧ Below w.heap.size w w' := by
  have hp : Hid (putS 1 n s = _) := putS_1 n s hok
  have hok0 : Hid (okB 1 n s = true) := hok
  go_enter Tryz.func42, Tryz.ntmps42
  go_wp2_with fail
  refine (implValueOk_any _ _ _ _ hs).mono ?_
  rintro e w1 ⟨rfl, hb1⟩
  rw [hok]
  clear hok
  have hz1 := hb1.size
  simp only [World.size_alloc] at hz1
  have hy1 : w.heap.size < w1.heap.size := by omega
  have qa : w1.cell? ⟨w.heap.size, 0, none⟩ = some (.int .i64 1) := cell_later hb1 (by go_simp)
  have qb : w1.cell? ⟨w.heap.size, 1, none⟩ = some (.int .i64 n) := cell_later hb1 (by go_simp)
  have qc : w1.cell? ⟨w.heap.size, 2, none⟩ = some (.string s) := cell_later hb1 (by go_simp)
  go_wp2_with fail
  refine (formOf_1 _ _ _).mono ?_
  rintro e w2 ⟨rfl, rfl⟩
  go_wp2_with fail
  refine (fb_1 _ _).mono ?_
  rintro e w3 ⟨v, rfl, hown, hb3⟩
  have hz3 := hb3.size
  simp only [World.size_alloc] at hz3
  have hcv := conv_own _ hown (by omega)
  clear hown
  go_wp2_with fail
  go_returns
  refine ⟨ret_str (hp.out.symm), ?_⟩
  repeat (first | exact Below.refl _ _ | refine Below.drew ?_ | refine Below.alloc ?_ (by first | (simp; done) | (simp; omega) | omega) _ | refine Below.setCell ?_ (by first | (simp; done) | (simp; omega) | omega) _ | refine bstep (by assumption) (by first | (simp; done) | (simp; omega) | omega) ?_)
set_option maxHeartbeats 1000000 in
set_option maxRecDepth 100000 in
theorem implPut_2 (n : Int) (s : ByteArray) (w : World) (hs : s.size ≤ maxLen) (hok : okB 2 n s = true) :
    Calls Tryz.prog 42 #[(.agg #[.int .i64 2, .int .i64 n, .string s])] w fun e w' => e = .returned (.string (putS 2 n s)) ∧ Below w.heap.size w w' := by
  have hp : Hid (putS 2 n s = _) := putS_2 n s hok
  have hok0 : Hid (okB 2 n s = true) := hok
  go_enter Tryz.func42, Tryz.ntmps42
  go_wp2_with fail
  refine (implValueOk_any _ _ _ _ hs).mono ?_
  rintro e w1 ⟨rfl, hb1⟩
  rw [hok]
  clear hok
  have hz1 := hb1.size
  simp only [World.size_alloc] at hz1
  have hy1 : w.heap.size < w1.heap.size := by omega
  have qa : w1.cell? ⟨w.heap.size, 0, none⟩ = some (.int .i64 2) := cell_later hb1 (by go_simp)
  have qb : w1.cell? ⟨w.heap.size, 1, none⟩ = some (.int .i64 n) := cell_later hb1 (by go_simp)
  have qc : w1.cell? ⟨w.heap.size, 2, none⟩ = some (.string s) := cell_later hb1 (by go_simp)
  go_wp2_with fail
  refine (formOf_2 _ _ _).mono ?_
  rintro e w2 ⟨rfl, rfl⟩
  go_wp2_with fail
  refine (fb_2 _ _ (okB_2n n s hok0.out)).mono ?_
  rintro e w3 ⟨v, rfl, hown, hb3⟩
  have hz3 := hb3.size
  simp only [World.size_alloc] at hz3
  have hcv := conv_own _ hown (by omega)
  clear hown
  go_wp2_with fail
  go_returns
  refine ⟨ret_str (hp.out.symm), ?_⟩
  repeat (first | exact Below.refl _ _ | refine Below.drew ?_ | refine Below.alloc ?_ (by first | (simp; done) | (simp; omega) | omega) _ | refine Below.setCell ?_ (by first | (simp; done) | (simp; omega) | omega) _ | refine bstep (by assumption) (by first | (simp; done) | (simp; omega) | omega) ?_)
set_option maxHeartbeats 1000000 in
set_option maxRecDepth 100000 in
theorem implPut_3 (n : Int) (s : ByteArray) (w : World) (hs : s.size ≤ maxLen) (hok : okB 3 n s = true) :
    Calls Tryz.prog 42 #[(.agg #[.int .i64 3, .int .i64 n, .string s])] w fun e w' => e = .returned (.string (putS 3 n s)) ∧ Below w.heap.size w w' := by
  have hp : Hid (putS 3 n s = _) := putS_3 n s hok
  have hok0 : Hid (okB 3 n s = true) := hok
  go_enter Tryz.func42, Tryz.ntmps42
  go_wp2_with fail
  refine (implValueOk_any _ _ _ _ hs).mono ?_
  rintro e w1 ⟨rfl, hb1⟩
  rw [hok]
  clear hok
  have hz1 := hb1.size
  simp only [World.size_alloc] at hz1
  have hy1 : w.heap.size < w1.heap.size := by omega
  have qa : w1.cell? ⟨w.heap.size, 0, none⟩ = some (.int .i64 3) := cell_later hb1 (by go_simp)
  have qb : w1.cell? ⟨w.heap.size, 1, none⟩ = some (.int .i64 n) := cell_later hb1 (by go_simp)
  have qc : w1.cell? ⟨w.heap.size, 2, none⟩ = some (.string s) := cell_later hb1 (by go_simp)
  go_wp2_with fail
  refine (formOf_3 _ _ _).mono ?_
  rintro e w2 ⟨rfl, rfl⟩
  go_wp2_with fail
  refine (fb_3 _ _ (okB_3s n s hok0.out)).mono ?_
  rintro e w3 ⟨v, rfl, hown, hb3⟩
  have hz3 := hb3.size
  simp only [World.size_alloc] at hz3
  have hcv := conv_own _ hown (by omega)
  clear hown
  go_wp2_with fail
  go_returns
  refine ⟨ret_str ((nums_append [3, (s.size : Int)] s).trans hp.out.symm), ?_⟩
  repeat (first | exact Below.refl _ _ | refine Below.drew ?_ | refine Below.alloc ?_ (by first | (simp; done) | (simp; omega) | omega) _ | refine Below.setCell ?_ (by first | (simp; done) | (simp; omega) | omega) _ | refine bstep (by assumption) (by first | (simp; done) | (simp; omega) | omega) ?_)
theorem implPut_any (k n : Int) (s : ByteArray) (w : World) (hs : s.size ≤ maxLen) :
    Calls Tryz.prog 42 #[(.agg #[.int .i64 k, .int .i64 n, .string s])] w fun e w' => e = .returned (.string (putS k n s)) ∧ Below w.heap.size w w' := by
  by_cases hok : okB k n s = true
  · by_cases h0 : k = 0
    · subst h0; exact implPut_0 n s w hs hok
    by_cases h1 : k = 1
    · subst h1; exact implPut_1 n s w hs hok
    by_cases h2 : k = 2
    · subst h2; exact implPut_2 n s w hs hok
    by_cases h3 : k = 3
    · subst h3; exact implPut_3 n s w hs hok
    · rw [okB_x k n s h0 h1 h2 h3] at hok; cases hok
  · exact implPut_no k n s w hs (by simpa using hok)
end Go.Proofs.YtiaafgmjigbjlaaGreatDoor
