/- Own texts, joined: contracts that the law's proof goes by. -/
import Derived.Test.YtbmoimfimeiglaaGreatGLFnLog6
import Derived.Test.YtbmoimfimeiglaaGreatGLFnLog7
import Derived.Test.YtbmoimfimeiglaaGreatGLFnLog10
import Derived.Deep.AppendLies
namespace Go.Proofs.YtbmoimfimeiglaaGreat
open Go.RowKit
set_option linter.unusedVariables false
def putS (k n : Int) (s : ByteArray) : ByteArray :=
  if okB k n s = true then (if k = 0 then strOfNums [0] else if k = 1 then strOfNums (numL n 8) else if k = 2 then strOfNums [2, n] else strOfNums [3, (s.size : Int)] ++ s) else ⟨#[]⟩
theorem putS_no (k n : Int) (s : ByteArray) (h : okB k n s = false) : putS k n s = ⟨#[]⟩ := by rw [putS, h]; rfl
theorem putS_0 (n : Int) (s : ByteArray) (h : okB 0 n s = true) : putS 0 n s = strOfNums [0] := by rw [putS, if_pos h]; rfl
theorem putS_1 (n : Int) (s : ByteArray) (h : okB 1 n s = true) : putS 1 n s = strOfNums (numL n 8) := by rw [putS, if_pos h]; rfl
theorem putS_2 (n : Int) (s : ByteArray) (h : okB 2 n s = true) : putS 2 n s = strOfNums [2, n] := by rw [putS, if_pos h]; rfl
theorem putS_3 (n : Int) (s : ByteArray) (h : okB 3 n s = true) : putS 3 n s = strOfNums [3, (s.size : Int)] ++ s := by rw [putS, if_pos h]; rfl
theorem nums_append (xs : List Int) (s : ByteArray) : strOfNums (xs ++ s.data.toList.map (fun b => (b.toNat : Int))) = strOfNums xs ++ s := by
  apply ByteArray.ext
  apply Array.toList_inj.1
  rw [ByteArray.data_append, Array.toList_append]
  have e : ((fun n : Int => UInt8.ofNat n.toNat) ∘ fun b : UInt8 => (b.toNat : Int)) = id := by funext b; simp
  simp only [strOfNums, List.map_append, List.map_map, e, List.map_id]
theorem nums_size (xs : List Int) : (strOfNums xs).size = xs.length := by
  show (xs.map fun n => UInt8.ofNat n.toNat).toArray.size = _
  simp
theorem ret_str {a b : ByteArray} (h : a = b) : Ending.returned (.string a) = .returned (.string b) := by rw [h]
theorem okB_3s (n : Int) (s : ByteArray) (h : okB 3 n s = true) : s.size ≤ 100 := by rw [okB_3] at h; simp at h; exact h.2
theorem okB_2n (n : Int) (s : ByteArray) (h : okB 2 n s = true) : n = 0 ∨ n = 1 := by rw [okB_2] at h; simp at h; exact h.1
set_option maxHeartbeats 1000000 in
set_option maxRecDepth 100000 in
theorem implPut_no (k n : Int) (s : ByteArray) (w : World) (hs : s.size ≤ maxLen) (hok : okB k n s = false) :
    Calls Tryz.prog 94 #[(.agg #[.int .i64 k, .int .i64 n, .string s])] w fun e w' => e = .returned (.string (putS k n s)) ∧ Below w.heap.size w w' := by
  have hp : Hid (putS k n s = ⟨#[]⟩) := putS_no k n s hok
  go_enter Tryz.func94, Tryz.ntmps94
  go_wp2_with fail
  refine (implValueOk_any _ _ _ _ hs).mono ?_
  rintro e w1 ⟨rfl, hb1⟩
  rw [hok]
  go_wp2_with fail
  go_returns
  refine ⟨ret_str hp.out.symm, ?_⟩
  exact bela
set_option maxHeartbeats 1000000 in
set_option maxRecDepth 100000 in
theorem implPut_0 (n : Int) (s : ByteArray) (w : World) (hs : s.size ≤ maxLen) (hok : okB 0 n s = true) :
    Calls Tryz.prog 94 #[(.agg #[.int .i64 0, .int .i64 n, .string s])] w fun e w' => e = .returned (.string (putS 0 n s)) ∧ Below w.heap.size w w' := by
  have hp : Hid (putS 0 n s = _) := putS_0 n s hok
  have hok0 : Hid (okB 0 n s = true) := hok
  go_enter Tryz.func94, Tryz.ntmps94
  go_wp2_with fail
  refine (implValueOk_any _ _ _ _ hs).mono ?_
  rintro e w1 ⟨rfl, hb1⟩
  rw [hok]
  clear hok
  have hz1 := hb1.size
  simp only [World.size_alloc] at hz1
  have hy1 : w.heap.size < w1.heap.size := by omega
  have qa : w1.cell? ⟨w.heap.size, 0, none⟩ = some (.int .i64 0) := cell_later hb1 (by go_simp)
  have qb : w1.cell? ⟨w.heap.size, 1, none⟩ = some (.int .i64 n) := cell_later hb1 (by go_simp)
  have qc : w1.cell? ⟨w.heap.size, 2, none⟩ = some (.string s) := cell_later hb1 (by go_simp)
  go_wp2_with fail
  refine (formOf_0 _ _ _).mono ?_
  rintro e w2 ⟨rfl, rfl⟩
  go_wp2_with fail
  refine (fb_0 _).mono ?_
  rintro e w3 ⟨v, rfl, hown, hb3⟩
  have hz3 := hb3.size
  simp only [World.size_alloc] at hz3
  have hcv := conv_own _ hown (by omega)
  clear hown
  go_wp2_with fail
  go_returns
  refine ⟨ret_str (hp.out.symm), ?_⟩
  exact bela
set_option maxHeartbeats 1000000 in
set_option maxRecDepth 100000 in
theorem implPut_1 (n : Int) (s : ByteArray) (w : World) (hs : s.size ≤ maxLen) (hok : okB 1 n s = true) :
    Calls Tryz.prog 94 #[(.agg #[.int .i64 1, .int .i64 n, .string s])] w fun e w' => e = .returned (.string (putS 1 n s)) ∧ Below w.heap.size w w' := by
  have hp : Hid (putS 1 n s = _) := putS_1 n s hok
  have hok0 : Hid (okB 1 n s = true) := hok
  go_enter Tryz.func94, Tryz.ntmps94
  go_wp2_with fail
  refine (implValueOk_any _ _ _ _ hs).mono ?_
  rintro e w1 ⟨rfl, hb1⟩
  rw [hok]
  clear hok
  have hz1 := hb1.size
  simp only [World.size_alloc] at hz1
  have hy1 : w.heap.size < w1.heap.size := by omega
  have qa : w1.cell? ⟨w.heap.size, 0, none⟩ = some (.int .i64 1) := cell_later hb1 (by go_simp)
  have qb : w1.cell? ⟨w.heap.size, 1, none⟩ = some (.int .i64 n) := cell_later hb1 (by go_simp)
  have qc : w1.cell? ⟨w.heap.size, 2, none⟩ = some (.string s) := cell_later hb1 (by go_simp)
  go_wp2_with fail
  refine (formOf_1 _ _ _).mono ?_
  rintro e w2 ⟨rfl, rfl⟩
  go_wp2_with fail
  refine (fb_1 _ _).mono ?_
  rintro e w3 ⟨v, rfl, hown, hb3⟩
  have hz3 := hb3.size
  simp only [World.size_alloc] at hz3
  have hcv := conv_own _ hown (by omega)
  clear hown
  go_wp2_with fail
  go_returns
  refine ⟨ret_str (hp.out.symm), ?_⟩
  exact bela
set_option maxHeartbeats 1000000 in
set_option maxRecDepth 100000 in
theorem implPut_2 (n : Int) (s : ByteArray) (w : World) (hs : s.size ≤ maxLen) (hok : okB 2 n s = true) :
    Calls Tryz.prog 94 #[(.agg #[.int .i64 2, .int .i64 n, .string s])] w fun e w' => e = .returned (.string (putS 2 n s)) ∧ Below w.heap.size w w' := by
  have hp : Hid (putS 2 n s = _) := putS_2 n s hok
  have hok0 : Hid (okB 2 n s = true) := hok
  go_enter Tryz.func94, Tryz.ntmps94
  go_wp2_with fail
  refine (implValueOk_any _ _ _ _ hs).mono ?_
  rintro e w1 ⟨rfl, hb1⟩
  rw [hok]
  clear hok
  have hz1 := hb1.size
  simp only [World.size_alloc] at hz1
  have hy1 : w.heap.size < w1.heap.size := by omega
  have qa : w1.cell? ⟨w.heap.size, 0, none⟩ = some (.int .i64 2) := cell_later hb1 (by go_simp)
  have qb : w1.cell? ⟨w.heap.size, 1, none⟩ = some (.int .i64 n) := cell_later hb1 (by go_simp)
  have qc : w1.cell? ⟨w.heap.size, 2, none⟩ = some (.string s) := cell_later hb1 (by go_simp)
  go_wp2_with fail
  refine (formOf_2 _ _ _).mono ?_
  rintro e w2 ⟨rfl, rfl⟩
  go_wp2_with fail
  refine (fb_2 _ _ (okB_2n n s hok0.out)).mono ?_
  rintro e w3 ⟨v, rfl, hown, hb3⟩
  have hz3 := hb3.size
  simp only [World.size_alloc] at hz3
  have hcv := conv_own _ hown (by omega)
  clear hown
  go_wp2_with fail
  go_returns
  refine ⟨ret_str (hp.out.symm), ?_⟩
  exact bela
set_option maxHeartbeats 1000000 in
set_option maxRecDepth 100000 in
theorem implPut_3 (n : Int) (s : ByteArray) (w : World) (hs : s.size ≤ maxLen) (hok : okB 3 n s = true) :
    Calls Tryz.prog 94 #[(.agg #[.int .i64 3, .int .i64 n, .string s])] w fun e w' => e = .returned (.string (putS 3 n s)) ∧ Below w.heap.size w w' := by
  have hp : Hid (putS 3 n s = _) := putS_3 n s hok
  have hok0 : Hid (okB 3 n s = true) := hok
  go_enter Tryz.func94, Tryz.ntmps94
  go_wp2_with fail
  refine (implValueOk_any _ _ _ _ hs).mono ?_
  rintro e w1 ⟨rfl, hb1⟩
  rw [hok]
  clear hok
  have hz1 := hb1.size
  simp only [World.size_alloc] at hz1
  have hy1 : w.heap.size < w1.heap.size := by omega
  have qa : w1.cell? ⟨w.heap.size, 0, none⟩ = some (.int .i64 3) := cell_later hb1 (by go_simp)
  have qb : w1.cell? ⟨w.heap.size, 1, none⟩ = some (.int .i64 n) := cell_later hb1 (by go_simp)
  have qc : w1.cell? ⟨w.heap.size, 2, none⟩ = some (.string s) := cell_later hb1 (by go_simp)
  go_wp2_with fail
  refine (formOf_3 _ _ _).mono ?_
  rintro e w2 ⟨rfl, rfl⟩
  go_wp2_with fail
  refine (fb_3 _ _ (okB_3s n s hok0.out)).mono ?_
  rintro e w3 ⟨v, rfl, hown, hb3⟩
  have hz3 := hb3.size
  simp only [World.size_alloc] at hz3
  have hcv := conv_own _ hown (by omega)
  clear hown
  go_wp2_with fail
  go_returns
  refine ⟨ret_str ((nums_append [3, (s.size : Int)] s).trans hp.out.symm), ?_⟩
  exact bela
theorem implPut_any (k n : Int) (s : ByteArray) (w : World) (hs : s.size ≤ maxLen) :
    Calls Tryz.prog 94 #[(.agg #[.int .i64 k, .int .i64 n, .string s])] w fun e w' => e = .returned (.string (putS k n s)) ∧ Below w.heap.size w w' := by
  by_cases hok : okB k n s = true
  · by_cases h0 : k = 0
    · subst h0; exact implPut_0 n s w hs hok
    by_cases h1 : k = 1
    · subst h1; exact implPut_1 n s w hs hok
    by_cases h2 : k = 2
    · subst h2; exact implPut_2 n s w hs hok
    by_cases h3 : k = 3
    · subst h3; exact implPut_3 n s w hs hok
    · rw [okB_x k n s h0 h1 h2 h3] at hok; cases hok
  · exact implPut_no k n s w hs (by simpa using hok)
end Go.Proofs.YtbmoimfimeiglaaGreat
namespace Go.Proofs.YtbmoimfimeiglaaGreat
open Go.RowKit
set_option linter.unusedVariables false
def pw (j : Nat) : Int := 72057594037927936 / 256 ^ j
theorem pw_facts : ∀ j : Nat, j < 8 → 0 < pw j ∧ pw j ≤ 72057594037927936 ∧ (2 : Int) ^ (8 * (7 - j)) = pw j ∧ pw j / 256 = pw (j + 1) := by
  intro j hj
  match j, hj with
  | 0, _ => decide +kernel
  | 1, _ => decide +kernel
  | 2, _ => decide +kernel
  | 3, _ => decide +kernel
  | 4, _ => decide +kernel
  | 5, _ => decide +kernel
  | 6, _ => decide +kernel
  | 7, _ => decide +kernel
theorem numB_eq (n : Int) (j : Nat) (hj : j < 8) : (IntKind.u64.wrap ((IntKind.u64.wrap n).tdiv (pw j))).tmod 256 % 256 = numB n j := by
  obtain ⟨h0, h1, h2, _⟩ := pw_facts j hj
  rw [numB, h2]
  have hu : 0 ≤ IntKind.u64.wrap n ∧ IntKind.u64.wrap n < 18446744073709551616 := by rw [IntKind.wrap_u64]; omega
  generalize IntKind.u64.wrap n = u at hu ⊢
  rw [Int.tdiv_eq_ediv_of_nonneg hu.1]
  have hq : 0 ≤ u / pw j := Int.ediv_nonneg hu.1 (by omega)
  have hq2 : u / pw j ≤ u := Int.ediv_le_self _ hu.1
  rw [IntKind.wrap_u64, Int.emod_eq_of_lt hq (by omega), Int.tmod_eq_emod_of_nonneg hq]
  omega
theorem far_cell {wr w1 : World} {v : Value} {o : Obj} {B n b f : Nat} {xs : List Value} {u : Value} (hown : wr.ownsRow B 5 1 v n xs) (hb : b < B) (hc : wr.cell? ⟨b, f, none⟩ = some u) (hg : (wr.alloc o).grownBy w1 v.ownBlock) : w1.cell? ⟨b, f, none⟩ = some u := by
  have hlt := World.block_lt_of_cell? wr ⟨b, f, none⟩ hc
  simp only at hlt
  rw [hg.cell_far ⟨b, f, none⟩ (by simp; omega) ?_, World.cell?_alloc_lt _ _ _ hlt]
  · exact hc
  · intro he
    rcases hown.2 with ⟨hv, _⟩ | ⟨g, cap, cur, hv, hb', _⟩
    · rw [hv] at he; simp [Value.ownBlock] at he
    · rw [hv] at he; simp [Value.ownBlock] at he; omega
theorem nil_of (s : ByteArray) (h : s.toList = []) : s = ⟨#[]⟩ := by
  rw [ByteArray.toList_eq] at h
  apply ByteArray.ext
  apply Array.toList_inj.1
  rw [h]
theorem append_nil' (a : ByteArray) : a ++ ⟨#[]⟩ = a := by
  apply ByteArray.ext
  rw [ByteArray.data_append]
  simp
set_option maxHeartbeats 1000000 in
theorem specPut_no (k n : Int) (s : ByteArray) (w : World) (hs : s.size ≤ maxLen) (hok : okB k n s = false) :
    Calls Tryz.prog 72 #[(.agg #[.int .i64 k, .int .i64 n, .string s])] w fun e w' => e = .returned (.string ⟨#[]⟩) ∧ Below w.heap.size w w' := by
  go_enter Tryz.func72, Tryz.ntmps72
  go_wp2_with fail
  refine (specValueOk_any _ _ _ _ hs).mono ?_
  rintro e w1 ⟨rfl, hb1⟩
  rw [hok]
  go_wp2_with fail
  go_returns
  refine ⟨rfl, ?_⟩
  exact bela
set_option maxHeartbeats 2000000 in
set_option maxRecDepth 100000 in
theorem specPut_0 (w : World) (hok : okB 0 0 ⟨#[]⟩ = true) :
    Calls Tryz.prog 72 #[(.agg #[.int .i64 0, .int .i64 0, .string ⟨#[]⟩])] w fun e w' => e = .returned (.string (strOfNums [0])) ∧ Below w.heap.size w w' := by
  go_enter Tryz.func72, Tryz.ntmps72
  go_wp2_with fail
  refine (specValueOk_any _ _ _ _ (by unfold maxLen; decide)).mono ?_
  rintro e w1 ⟨rfl, hb1⟩
  rw [hok]
  clear hok
  have hz1 := hb1.size
  simp only [World.size_alloc] at hz1
  have hy1 : w.heap.size < w1.heap.size := by omega
  have hB1 : w.heap.size + 1 ≤ w1.heap.size := by omega
  have bel1 : Below w.heap.size w w1 := bstep hb1 (by simp) ((Below.refl _ _).alloc (Nat.le_refl _) _)
  have qa : w1.cell? ⟨w.heap.size, 0, none⟩ = some (.int .i64 0) := cell_later hb1 (by go_simp)
  have qb : w1.cell? ⟨w.heap.size, 1, none⟩ = some (.int .i64 0) := cell_later hb1 (by go_simp)
  have qc : w1.cell? ⟨w.heap.size, 2, none⟩ = some (.string ⟨#[]⟩) := cell_later hb1 (by go_simp)
  have hcv := fun (o : World) (h : o.ownsRow (w.heap.size + 1) 5 1 (.slice (some ⟨w1.heap.size, 0, none⟩) 1 1) 1 ([(0 : Int)].map (Value.int .u8))) => conv_own [0] h (by omega)
  have hcv0 := hcv _ (own_litg w1 (w.heap.size + 1) w1.heap.size [0] rfl hB1 (by decide))
  clear hcv
  have hsz : ((strOfNums [0]).size : Int) ≤ 200 := by rw [nums_size]; simp
  simp only [List.map_cons, List.map_nil] at hcv0
  go_wp2_with fail
  go_returns
  refine ⟨ret_str (append_nil' _), ?_⟩
  exact bela
set_option maxHeartbeats 2000000 in
set_option maxRecDepth 100000 in
theorem specPut_1 (n : Int) (w : World) (hok : okB 1 n ⟨#[]⟩ = true) :
    Calls Tryz.prog 72 #[(.agg #[.int .i64 1, .int .i64 n, .string ⟨#[]⟩])] w fun e w' => e = .returned (.string (strOfNums (numL n 8))) ∧ Below w.heap.size w w' := by
  obtain ⟨i0, hi, hi0, hi1, hi2⟩ := info_parts info5
  go_enter Tryz.func72, Tryz.ntmps72
  go_wp2_with fail
  refine (specValueOk_any _ _ _ _ (by unfold maxLen; decide)).mono ?_
  rintro e w1 ⟨rfl, hb1⟩
  rw [hok]
  clear hok
  have hz1 := hb1.size
  simp only [World.size_alloc] at hz1
  have hy1 : w.heap.size < w1.heap.size := by omega
  have hB1 : w.heap.size + 1 ≤ w1.heap.size := by omega
  have bel1 : Below w.heap.size w w1 := bstep hb1 (by simp) ((Below.refl _ _).alloc (Nat.le_refl _) _)
  have qa : w1.cell? ⟨w.heap.size, 0, none⟩ = some (.int .i64 1) := cell_later hb1 (by go_simp)
  have qb : w1.cell? ⟨w.heap.size, 1, none⟩ = some (.int .i64 n) := cell_later hb1 (by go_simp)
  have qc : w1.cell? ⟨w.heap.size, 2, none⟩ = some (.string ⟨#[]⟩) := cell_later hb1 (by go_simp)
  go_wp2_with fail
  go_loopw [3, 5, 6] (fun v p i wr => ∃ j : Nat, j ≤ 8 ∧ i = .int .i64 j ∧ p = .int .u64 (pw j) ∧ wr.ownsRow (w.heap.size + 1) 5 1 v (1 + j) ((numL n j).map (Value.int .u8)) ∧ Below w.heap.size w wr ∧ w.heap.size + 1 ≤ wr.heap.size ∧ wr.cell? ⟨w.heap.size, 2, none⟩ = some (.string ⟨#[]⟩)) (fun _ _ i _ => 8 - (intOf i).toNat)
  case atStart => exact ⟨0, by omega, rfl, rfl, own_litg w1 _ _ [1] rfl hB1 (by decide), bel1.alloc (by omega) _, by simp; omega, by go_simp⟩
  case round =>
    obtain ⟨j, hj, rfl, rfl, hown, hbel, hB, hcs⟩ := hrel
    by_cases hlt : j < 8
    · obtain ⟨hpos, hup, _, hst0⟩ := pw_facts j hlt
      have hst : Hid (pw j / 256 = pw (j + 1)) := hst0
      have hnb : Hid ((IntKind.u64.wrap ((IntKind.u64.wrap n).tdiv (pw j))).tmod 256 % 256 = numB n j) := numB_eq n j hlt
      clear hst0
      go_wp2_with (at_builtin; refine wpList_append_own _ rfl _ _ 22 rfl (w.heap.size + 1) 5 i0 (.int .u8 0) 1 1 Tryz.underlying22 hi hi0 hi1 hi2 rfl (by decide) _ _ _ rfl (hown.alloc _) ⟨wr.heap.size, 0, none⟩ 1 1 [.int .u8 ((IntKind.u64.wrap ((IntKind.u64.wrap n).tdiv (pw j))).tmod 256 % 256)] rfl rfl ?c1 ?c2 ?c3 ?c4 ?c5 ?_)
      case c1 =>
        intro q u hq
        match q, hq with
        | 0, hq => simp at hq; subst hq; simp [Addr.add]
      case c2 => intro u hu; simp at hu; subst hu; rfl
      case c3 => unfold maxLen; omega
      case c4 => omega
      case c5 => simp; omega
      · intro v' w2 hown' hgrow _
        have R1 : w2.ownsRow (w.heap.size + 1) 5 1 v' (1 + (j + 1)) ((numL n (j + 1)).map (Value.int .u8)) := by
          rw [numL_succ, List.map_append, ← hnb.out]; exact hown'
        have R2 : Below w.heap.size w w2 := own_grow (own_base hown (by omega)) hbel (by omega) hgrow
        have R3 := hgrow.size
        simp only [World.size_alloc] at R3
        have R4 := far_cell hown (by omega) hcs hgrow
        clear hown' hgrow hown hcs
        go_wp2_with fail
        go_roundw
        case rel => exact ⟨j + 1, by omega, by go_num, by rw [hst.out], R1, R2, by omega, R4⟩
        case measure => simp [intOf]; omega
    · have hj8 : j = 8 := by omega
      subst hj8
      have hcv := conv_own (numL n 8) hown (by omega)
      have hsz : ((strOfNums (numL n 8)).size : Int) ≤ 200 := by rw [nums_size, numL_len]; simp
      clear hown
      go_wp2_with fail
      go_returns
      exact ⟨ret_str (append_nil' _), hbel⟩
set_option maxHeartbeats 2000000 in
set_option maxRecDepth 100000 in
theorem specPut_2 (n : Int) (hn : n = 0 ∨ n = 1) (w : World) (hok : okB 2 n ⟨#[]⟩ = true) :
    Calls Tryz.prog 72 #[(.agg #[.int .i64 2, .int .i64 n, .string ⟨#[]⟩])] w fun e w' => e = .returned (.string (strOfNums [2, n])) ∧ Below w.heap.size w w' := by
  have hm : n % 256 = n := by omega
  obtain ⟨i0, hi, hi0, hi1, hi2⟩ := info_parts info5
  go_enter Tryz.func72, Tryz.ntmps72
  go_wp2_with fail
  refine (specValueOk_any _ _ _ _ (by unfold maxLen; decide)).mono ?_
  rintro e w1 ⟨rfl, hb1⟩
  rw [hok]
  clear hok
  have hz1 := hb1.size
  simp only [World.size_alloc] at hz1
  have hy1 : w.heap.size < w1.heap.size := by omega
  have hB1 : w.heap.size + 1 ≤ w1.heap.size := by omega
  have bel1 : Below w.heap.size w w1 := bstep hb1 (by simp) ((Below.refl _ _).alloc (Nat.le_refl _) _)
  have qa : w1.cell? ⟨w.heap.size, 0, none⟩ = some (.int .i64 2) := cell_later hb1 (by go_simp)
  have qb : w1.cell? ⟨w.heap.size, 1, none⟩ = some (.int .i64 n) := cell_later hb1 (by go_simp)
  have qc : w1.cell? ⟨w.heap.size, 2, none⟩ = some (.string ⟨#[]⟩) := cell_later hb1 (by go_simp)
  go_wp2_with (at_builtin; refine wpList_append_own _ rfl _ _ 22 rfl (w.heap.size + 1) 5 i0 (.int .u8 0) 1 1 Tryz.underlying22 hi hi0 hi1 hi2 rfl (by decide) _ 1 ([(2 : Int)].map (Value.int .u8)) rfl ((own_litg w1 (w.heap.size + 1) w1.heap.size [2] rfl hB1 (by decide)).alloc _) ⟨w1.heap.size + 1, 0, none⟩ 1 1 [.int .u8 n] rfl rfl ?c1 ?c2 ?c3 ?c4 ?c5 ?_)
  case c1 =>
    intro q u hq
    match q, hq with
    | 0, hq => simp at hq; subst hq; simp [Addr.add]
  case c2 => intro u hu; simp at hu; subst hu; rfl
  case c3 => unfold maxLen; omega
  case c4 => omega
  case c5 => simp; omega
  intro v' w2 hown' hgrow _
  have hcv := conv_own [2, n] hown' (by omega)
  have hsz : ((strOfNums [2, n]).size : Int) ≤ 200 := by rw [nums_size]; simp
  have R2 : Below w.heap.size w w2 := own_grow (own_base (own_litg w1 (w.heap.size + 1) w1.heap.size [2] rfl hB1 (by decide)) (by omega)) (bel1.alloc (by omega) _) (by simp; omega) hgrow
  have R4 : w2.cell? ⟨w.heap.size, 2, none⟩ = some (.string ⟨#[]⟩) := far_cell (own_litg w1 (w.heap.size + 1) w1.heap.size [2] rfl hB1 (by decide)) (by omega) (by go_simp) hgrow
  clear hown' hgrow
  go_wp2_with fail
  go_returns
  exact ⟨ret_str (append_nil' _), R2⟩
set_option maxHeartbeats 2000000 in
set_option maxRecDepth 100000 in
theorem specPut_3 (s : ByteArray) (hs : s.size ≤ 100) (w : World) (hok : okB 3 0 s = true) :
    Calls Tryz.prog 72 #[(.agg #[.int .i64 3, .int .i64 0, .string s])] w fun e w' => e = .returned (.string (strOfNums [3, (s.size : Int)] ++ s)) ∧ Below w.heap.size w w' := by
  have hm : (s.size : Int) % 256 = s.size := by omega
  obtain ⟨i0, hi, hi0, hi1, hi2⟩ := info_parts info5
  go_enter Tryz.func72, Tryz.ntmps72
  go_wp2_with fail
  refine (specValueOk_any _ _ _ _ (by unfold maxLen; omega)).mono ?_
  rintro e w1 ⟨rfl, hb1⟩
  rw [hok]
  clear hok
  have hz1 := hb1.size
  simp only [World.size_alloc] at hz1
  have hy1 : w.heap.size < w1.heap.size := by omega
  have hB1 : w.heap.size + 1 ≤ w1.heap.size := by omega
  have bel1 : Below w.heap.size w w1 := bstep hb1 (by simp) ((Below.refl _ _).alloc (Nat.le_refl _) _)
  have qa : w1.cell? ⟨w.heap.size, 0, none⟩ = some (.int .i64 3) := cell_later hb1 (by go_simp)
  have qb : w1.cell? ⟨w.heap.size, 1, none⟩ = some (.int .i64 0) := cell_later hb1 (by go_simp)
  have qc : w1.cell? ⟨w.heap.size, 2, none⟩ = some (.string s) := cell_later hb1 (by go_simp)
  go_wp2_with (at_builtin; refine wpList_append_own _ rfl _ _ 22 rfl (w.heap.size + 1) 5 i0 (.int .u8 0) 1 1 Tryz.underlying22 hi hi0 hi1 hi2 rfl (by decide) _ 1 ([(3 : Int)].map (Value.int .u8)) rfl ((own_litg w1 (w.heap.size + 1) w1.heap.size [3] rfl hB1 (by decide)).alloc _) ⟨w1.heap.size + 1, 0, none⟩ 1 1 [.int .u8 (s.size : Int)] rfl rfl ?c1 ?c2 ?c3 ?c4 ?c5 ?_)
  case c1 =>
    intro q u hq
    match q, hq with
    | 0, hq => simp at hq; subst hq; simp [Addr.add]
  case c2 => intro u hu; simp at hu; subst hu; rfl
  case c3 => unfold maxLen; omega
  case c4 => omega
  case c5 => simp; omega
  intro v' w2 hown' hgrow _
  have hcv := conv_own [3, (s.size : Int)] hown' (by omega)
  have hsz : ((strOfNums [3, (s.size : Int)]).size : Int) ≤ 200 := by rw [nums_size]; simp
  have R2 : Below w.heap.size w w2 := own_grow (own_base (own_litg w1 (w.heap.size + 1) w1.heap.size [3] rfl hB1 (by decide)) (by omega)) (bel1.alloc (by omega) _) (by simp; omega) hgrow
  have R4 : w2.cell? ⟨w.heap.size, 2, none⟩ = some (.string s) := far_cell (own_litg w1 (w.heap.size + 1) w1.heap.size [3] rfl hB1 (by decide)) (by omega) (by go_simp) hgrow
  clear hown' hgrow
  go_wp2_with fail
  go_returns
  exact ⟨rfl, R2⟩
theorem specPut_any (k n : Int) (s : ByteArray) (w : World) (hs : s.size ≤ maxLen) :
    Calls Tryz.prog 72 #[(.agg #[.int .i64 k, .int .i64 n, .string s])] w fun e w' => e = .returned (.string (putS k n s)) ∧ Below w.heap.size w w' := by
  by_cases hok : okB k n s = true
  · by_cases h0 : k = 0
    · subst h0
      rw [putS_0 n s hok]
      have h := hok
      rw [okB_0] at h
      simp at h
      obtain ⟨rfl, h⟩ := h
      obtain rfl := nil_of s h
      exact specPut_0 w hok
    by_cases h1 : k = 1
    · subst h1
      rw [putS_1 n s hok]
      have h := hok
      rw [okB_1] at h
      simp at h
      obtain rfl := nil_of s h
      exact specPut_1 n w hok
    by_cases h2 : k = 2
    · subst h2
      rw [putS_2 n s hok]
      have h := hok
      rw [okB_2] at h
      simp at h
      obtain ⟨hn, h⟩ := h
      obtain rfl := nil_of s h
      exact specPut_2 n hn w hok
    by_cases h3 : k = 3
    · subst h3
      rw [putS_3 n s hok]
      have h := hok
      rw [okB_3] at h
      simp at h
      obtain ⟨rfl, h⟩ := h
      exact specPut_3 s h w hok
    · rw [okB_x k n s h0 h1 h2 h3] at hok; cases hok
  · rw [putS_no k n s (by simpa using hok)]; exact specPut_no k n s w hs (by simpa using hok)
end Go.Proofs.YtbmoimfimeiglaaGreat
