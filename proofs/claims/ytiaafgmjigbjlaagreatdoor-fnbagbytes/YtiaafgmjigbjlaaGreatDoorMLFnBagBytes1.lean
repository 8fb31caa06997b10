/- Own texts, joined: contracts that the law's proof goes by. -/
import Derived.Test.YtiaafgmjigbjlaaGreatDoorPutI
import Derived.Test.YtiaafgmjigbjlaaGreatDoorVOkSpec
import Derived.Deep.AppendLies
import Derived.Test.YtiaafgmjigbjlaaGreatDoorBagC
import Derived.Test.YtiaafgmjigbjlaaGreatDoorVOkImpl
import Derived.Handy
import Derived.Test.YtiaafgmjigbjlaaGreatDoorKit
import Derived.OwnWalk
import Derived.Lib.SmallJoins
import Derived.Shelf.Strings.Builder1
import Derived.Test.YtiaafgmjigbjlaaGreatDoorShelf
import Derived.Test.YtiaafgmjigbjlaaGreatDoorRowCmp
import Derived.Deep.RegionHeld3
import Derived.Test.YtiaafgmjigbjlaaGreatDoorTake
import Derived.Test.YtiaafgmjigbjlaaGreatDoorGetJB
import Derived.Laws.BytesArg
import Derived.Test.YtiaafgmjigbjlaaGreatDoorBagO
import Derived.Test.YtiaafgmjigbjlaaGreatDoorAsserts
import Derived.Maps.AppendAt
import Derived.Test.YtiaafgmjigbjlaaGreatDoorDrC
import Derived.Test.YtiaafgmjigbjlaaGreatDoorPutX
import Derived.Test.YtiaafgmjigbjlaaGreatDoorBagN
import Derived.Deep.DeepCutAuto
/- Own text. The contract of the specification's PutValue: it answers putS. -/
namespace Go.Proofs.YtiaafgmjigbjlaaGreatDoor
open Go.RowKit
set_option linter.unusedVariables false
/-- 256 to the power 7 - j. -/
def pw (j : Nat) : Int := 72057594037927936 / 256 ^ j
theorem pw_facts : ∀ j : Nat, j < 8 → 0 < pw j ∧ pw j ≤ 72057594037927936 ∧ (2 : Int) ^ (8 * (7 - j)) = pw j ∧ pw j / 256 = pw (j + 1) := by
  intro j hj
  match j, hj with
  | 0, _ => decide +kernel
  | 1, _ => decide +kernel
  | 2, _ => decide +kernel
  | 3, _ => decide +kernel
  | 4, _ => decide +kernel
  | 5, _ => decide +kernel
  | 6, _ => decide +kernel
  | 7, _ => decide +kernel
theorem numB_eq (n : Int) (j : Nat) (hj : j < 8) : (IntKind.u64.wrap ((IntKind.u64.wrap n).tdiv (pw j))).tmod 256 % 256 = numB n j := by
  obtain ⟨h0, h1, h2, _⟩ := pw_facts j hj
  rw [numB, h2]
  have hu : 0 ≤ IntKind.u64.wrap n ∧ IntKind.u64.wrap n < 18446744073709551616 := by rw [IntKind.wrap_u64]; omega
  generalize IntKind.u64.wrap n = u at hu ⊢
  rw [Int.tdiv_eq_ediv_of_nonneg hu.1]
  have hq : 0 ≤ u / pw j := Int.ediv_nonneg hu.1 (by omega)
  have hq2 : u / pw j ≤ u := Int.ediv_le_self _ hu.1
  rw [IntKind.wrap_u64, Int.emod_eq_of_lt hq (by omega), Int.tmod_eq_emod_of_nonneg hq]
  omega
theorem far_cell {wr w1 : World} {v : Value} {o : Obj} {B n b f : Nat} {xs : List Value} {u : Value} (hown : wr.ownsRow B 5 1 v n xs) (hb : b < B) (hc : wr.cell? ⟨b, f, none⟩ = some u) (hg : (wr.alloc o).grownBy w1 v.ownBlock) : w1.cell? ⟨b, f, none⟩ = some u := by
  have hlt := World.block_lt_of_cell? wr ⟨b, f, none⟩ hc
  simp only at hlt
  rw [hg.cell_far ⟨b, f, none⟩ (by simp; omega) ?_, World.cell?_alloc_lt _ _ _ hlt]
  · exact hc
  · intro he
    rcases hown.2 with ⟨hv, _⟩ | ⟨g, cap, cur, hv, hb', _⟩
    · rw [hv] at he; simp [Value.ownBlock] at he
    · rw [hv] at he; simp [Value.ownBlock] at he; omega
theorem nil_of (s : ByteArray) (h : s.toList = []) : s = ⟨#[]⟩ := by
  rw [ByteArray.toList_eq] at h
  apply ByteArray.ext
  apply Array.toList_inj.1
  rw [h]
theorem append_nil' (a : ByteArray) : a ++ ⟨#[]⟩ = a := by
  apply ByteArray.ext
  rw [ByteArray.data_append]
  simp
set_option maxHeartbeats 1000000 in
theorem specPut_no (k n : Int) (s : ByteArray) (w : World) (hs : s.size ≤ maxLen) (hok : okB k n s = false) :
    Calls Tryz.prog 24 #[(.agg #[.int .i64 k, .int .i64 n, .string s])] w fun e w' => e = .returned (.string ⟨#[]⟩) ∧ Below w.heap.size w w' := by
  go_enter Tryz.func24, Tryz.ntmps24
  go_wp2_with fail
  refine (specValueOk_any _ _ _ _ hs).mono ?_
  rintro e w1 ⟨rfl, hb1⟩
  rw [hok]
  go_wp2_with fail
  go_returns
  refine ⟨rfl, ?_⟩
  repeat (first | exact Below.refl _ _ | refine Below.drew ?_ | refine Below.alloc ?_ (by first | (simp; done) | (simp; omega) | omega) _ | refine Below.setCell ?_ (by first | (simp; done) | (simp; omega) | omega) _ | refine bstep (by assumption) (by first | (simp; done) | (simp; omega) | omega) ?_)
set_option maxHeartbeats 2000000 in
set_option maxRecDepth 100000 in
theorem specPut_0 (w : World) (hok : okB 0 0 ⟨#[]⟩ = true) :
    Calls Tryz.prog 24 #[(.agg #[.int .i64 0, .int .i64 0, .string ⟨#[]⟩])] w fun e w' => e = .returned (.string (strOfNums [0])) ∧ Below w.heap.size w w' := by
  go_enter Tryz.func24, Tryz.ntmps24
  go_wp2_with fail
  refine (specValueOk_any _ _ _ _ (by unfold maxLen; decide)).mono ?_
  rintro e w1 ⟨rfl, hb1⟩
  rw [hok]
  clear hok
  have hz1 := hb1.size
  simp only [World.size_alloc] at hz1
  have hy1 : w.heap.size < w1.heap.size := by omega
  have hB1 : w.heap.size + 1 ≤ w1.heap.size := by omega
  have bel1 : Below w.heap.size w w1 := bstep hb1 (by simp) ((Below.refl _ _).alloc (Nat.le_refl _) _)
  have qa : w1.cell? ⟨w.heap.size, 0, none⟩ = some (.int .i64 0) := cell_later hb1 (by go_simp)
  have qb : w1.cell? ⟨w.heap.size, 1, none⟩ = some (.int .i64 0) := cell_later hb1 (by go_simp)
  have qc : w1.cell? ⟨w.heap.size, 2, none⟩ = some (.string ⟨#[]⟩) := cell_later hb1 (by go_simp)
  have hcv := fun (o : World) (h : o.ownsRow (w.heap.size + 1) 5 1 (.slice (some ⟨w1.heap.size, 0, none⟩) 1 1) 1 ([(0 : Int)].map (Value.int .u8))) => conv_own [0] h (by omega)
  have hcv0 := hcv _ (own_litg w1 (w.heap.size + 1) w1.heap.size [0] rfl hB1 (by decide))
  clear hcv
  have hsz : ((strOfNums [0]).size : Int) ≤ 200 := by rw [nums_size]; simp
  simp only [List.map_cons, List.map_nil] at hcv0
  go_wp2_with fail
  go_returns
  refine ⟨ret_str (append_nil' _), ?_⟩
  repeat (first | exact Below.refl _ _ | refine Below.drew ?_ | refine Below.alloc ?_ (by first | (simp; done) | (simp; omega) | omega) _ | refine Below.setCell ?_ (by first | (simp; done) | (simp; omega) | omega) _ | refine bstep (by assumption) (by first | (simp; done) | (simp; omega) | omega) ?_)
set_option maxHeartbeats 2000000 in
set_option maxRecDepth 100000 in
theorem specPut_1 (n : Int) (w : World) (hok : okB 1 n ⟨#[]⟩ = true) :
    Calls Tryz.prog 24 #[(.agg #[.int .i64 1, .int .i64 n, .string ⟨#[]⟩])] w fun e w' => e = .returned (.string (strOfNums (numL n 8))) ∧ Below w.heap.size w w' := by
  obtain ⟨i0, hi, hi0, hi1, hi2⟩ := info_parts info5
  go_enter Tryz.func24, Tryz.ntmps24
  go_wp2_with fail
  refine (specValueOk_any _ _ _ _ (by unfold maxLen; decide)).mono ?_
  rintro e w1 ⟨rfl, hb1⟩
  rw [hok]
  clear hok
  have hz1 := hb1.size
  simp only [World.size_alloc] at hz1
  have hy1 : w.heap.size < w1.heap.size := by omega
  have hB1 : w.heap.size + 1 ≤ w1.heap.size := by omega
  have bel1 : Below w.heap.size w w1 := bstep hb1 (by simp) ((Below.refl _ _).alloc (Nat.le_refl _) _)
  have qa : w1.cell? ⟨w.heap.size, 0, none⟩ = some (.int .i64 1) := cell_later hb1 (by go_simp)
  have qb : w1.cell? ⟨w.heap.size, 1, none⟩ = some (.int .i64 n) := cell_later hb1 (by go_simp)
  have qc : w1.cell? ⟨w.heap.size, 2, none⟩ = some (.string ⟨#[]⟩) := cell_later hb1 (by go_simp)
  go_wp2_with fail
  go_loopw [3, 5, 6] (fun v p i wr => ∃ j : Nat, j ≤ 8 ∧ i = .int .i64 j ∧ p = .int .u64 (pw j) ∧ wr.ownsRow (w.heap.size + 1) 5 1 v (1 + j) ((numL n j).map (Value.int .u8)) ∧ Below w.heap.size w wr ∧ w.heap.size + 1 ≤ wr.heap.size ∧ wr.cell? ⟨w.heap.size, 2, none⟩ = some (.string ⟨#[]⟩)) (fun _ _ i _ => 8 - (intOf i).toNat)
  case atStart => exact ⟨0, by omega, rfl, rfl, own_litg w1 _ _ [1] rfl hB1 (by decide), bel1.alloc (by omega) _, by simp; omega, by go_simp⟩
  case round =>
    obtain ⟨j, hj, rfl, rfl, hown, hbel, hB, hcs⟩ := hrel
    by_cases hlt : j < 8
    · obtain ⟨hpos, hup, _, hst0⟩ := pw_facts j hlt
      have hst : Hid (pw j / 256 = pw (j + 1)) := hst0
      have hnb : Hid ((IntKind.u64.wrap ((IntKind.u64.wrap n).tdiv (pw j))).tmod 256 % 256 = numB n j) := numB_eq n j hlt
      clear hst0
      go_wp2_with (at_builtin; refine wpList_append_own _ rfl _ _ 22 rfl (w.heap.size + 1) 5 i0 (.int .u8 0) 1 1 Tryz.underlying22 hi hi0 hi1 hi2 rfl (by decide) _ _ _ rfl (hown.alloc _) ⟨wr.heap.size, 0, none⟩ 1 1 [.int .u8 ((IntKind.u64.wrap ((IntKind.u64.wrap n).tdiv (pw j))).tmod 256 % 256)] rfl rfl ?c1 ?c2 ?c3 ?c4 ?c5 ?_)
      case c1 =>
        intro q u hq
        match q, hq with
        | 0, hq => simp at hq; subst hq; simp [Addr.add]
      case c2 => intro u hu; simp at hu; subst hu; rfl
      case c3 => unfold maxLen; omega
      case c4 => omega
      case c5 => simp; omega
      · intro v' w2 hown' hgrow _
        have R1 : w2.ownsRow (w.heap.size + 1) 5 1 v' (1 + (j + 1)) ((numL n (j + 1)).map (Value.int .u8)) := by
          rw [numL_succ, List.map_append, ← hnb.out]; exact hown'
        have R2 : Below w.heap.size w w2 := own_grow (own_base hown (by omega)) hbel (by omega) hgrow
        have R3 := hgrow.size
        simp only [World.size_alloc] at R3
        have R4 := far_cell hown (by omega) hcs hgrow
        clear hown' hgrow hown hcs
        go_wp2_with fail
        go_roundw
        case rel => exact ⟨j + 1, by omega, by go_num, by rw [hst.out], R1, R2, by omega, R4⟩
        case measure => simp [intOf]; omega
    · have hj8 : j = 8 := by omega
      subst hj8
      have hcv := conv_own (numL n 8) hown (by omega)
      have hsz : ((strOfNums (numL n 8)).size : Int) ≤ 200 := by rw [nums_size, numL_len]; simp
      clear hown
      go_wp2_with fail
      go_returns
      exact ⟨ret_str (append_nil' _), hbel⟩
set_option maxHeartbeats 2000000 in
set_option maxRecDepth 100000 in
theorem specPut_2 (n : Int) (hn : n = 0 ∨ n = 1) (w : World) (hok : okB 2 n ⟨#[]⟩ = true) :
    Calls Tryz.prog 24 #[(.agg #[.int .i64 2, .int .i64 n, .string ⟨#[]⟩])] w fun e w' => e = .returned (.string (strOfNums [2, n])) ∧ Below w.heap.size w w' := by
  have hm : n % 256 = n := by omega
  obtain ⟨i0, hi, hi0, hi1, hi2⟩ := info_parts info5
  go_enter Tryz.func24, Tryz.ntmps24
  go_wp2_with fail
  refine (specValueOk_any _ _ _ _ (by unfold maxLen; decide)).mono ?_
  rintro e w1 ⟨rfl, hb1⟩
  rw [hok]
  clear hok
  have hz1 := hb1.size
  simp only [World.size_alloc] at hz1
  have hy1 : w.heap.size < w1.heap.size := by omega
  have hB1 : w.heap.size + 1 ≤ w1.heap.size := by omega
  have bel1 : Below w.heap.size w w1 := bstep hb1 (by simp) ((Below.refl _ _).alloc (Nat.le_refl _) _)
  have qa : w1.cell? ⟨w.heap.size, 0, none⟩ = some (.int .i64 2) := cell_later hb1 (by go_simp)
  have qb : w1.cell? ⟨w.heap.size, 1, none⟩ = some (.int .i64 n) := cell_later hb1 (by go_simp)
  have qc : w1.cell? ⟨w.heap.size, 2, none⟩ = some (.string ⟨#[]⟩) := cell_later hb1 (by go_simp)
  go_wp2_with (at_builtin; refine wpList_append_own _ rfl _ _ 22 rfl (w.heap.size + 1) 5 i0 (.int .u8 0) 1 1 Tryz.underlying22 hi hi0 hi1 hi2 rfl (by decide) _ 1 ([(2 : Int)].map (Value.int .u8)) rfl ((own_litg w1 (w.heap.size + 1) w1.heap.size [2] rfl hB1 (by decide)).alloc _) ⟨w1.heap.size + 1, 0, none⟩ 1 1 [.int .u8 n] rfl rfl ?c1 ?c2 ?c3 ?c4 ?c5 ?_)
  case c1 =>
    intro q u hq
    match q, hq with
    | 0, hq => simp at hq; subst hq; simp [Addr.add]
  case c2 => intro u hu; simp at hu; subst hu; rfl
  case c3 => unfold maxLen; omega
  case c4 => omega
  case c5 => simp; omega
  intro v' w2 hown' hgrow _
  have hcv := conv_own [2, n] hown' (by omega)
  have hsz : ((strOfNums [2, n]).size : Int) ≤ 200 := by rw [nums_size]; simp
  have R2 : Below w.heap.size w w2 := own_grow (own_base (own_litg w1 (w.heap.size + 1) w1.heap.size [2] rfl hB1 (by decide)) (by omega)) (bel1.alloc (by omega) _) (by simp; omega) hgrow
  have R4 : w2.cell? ⟨w.heap.size, 2, none⟩ = some (.string ⟨#[]⟩) := far_cell (own_litg w1 (w.heap.size + 1) w1.heap.size [2] rfl hB1 (by decide)) (by omega) (by go_simp) hgrow
  clear hown' hgrow
  go_wp2_with fail
  go_returns
  exact ⟨ret_str (append_nil' _), R2⟩
set_option maxHeartbeats 2000000 in
set_option maxRecDepth 100000 in
theorem specPut_3 (s : ByteArray) (hs : s.size ≤ 100) (w : World) (hok : okB 3 0 s = true) :
    Calls Tryz.prog 24 #[(.agg #[.int .i64 3, .int .i64 0, .string s])] w fun e w' => e = .returned (.string (strOfNums [3, (s.size : Int)] ++ s)) ∧ Below w.heap.size w w' := by
  have hm : (s.size : Int) % 256 = s.size := by omega
  obtain ⟨i0, hi, hi0, hi1, hi2⟩ := info_parts info5
  go_enter Tryz.func24, Tryz.ntmps24
  go_wp2_with fail
  refine (specValueOk_any _ _ _ _ (by unfold maxLen; omega)).mono ?_
  rintro e w1 ⟨rfl, hb1⟩
  rw [hok]
  clear hok
  have hz1 := hb1.size
  simp only [World.size_alloc] at hz1
  have hy1 : w.heap.size < w1.heap.size := by omega
  have hB1 : w.heap.size + 1 ≤ w1.heap.size := by omega
  have bel1 : Below w.heap.size w w1 := bstep hb1 (by simp) ((Below.refl _ _).alloc (Nat.le_refl _) _)
  have qa : w1.cell? ⟨w.heap.size, 0, none⟩ = some (.int .i64 3) := cell_later hb1 (by go_simp)
  have qb : w1.cell? ⟨w.heap.size, 1, none⟩ = some (.int .i64 0) := cell_later hb1 (by go_simp)
  have qc : w1.cell? ⟨w.heap.size, 2, none⟩ = some (.string s) := cell_later hb1 (by go_simp)
  go_wp2_with (at_builtin; refine wpList_append_own _ rfl _ _ 22 rfl (w.heap.size + 1) 5 i0 (.int .u8 0) 1 1 Tryz.underlying22 hi hi0 hi1 hi2 rfl (by decide) _ 1 ([(3 : Int)].map (Value.int .u8)) rfl ((own_litg w1 (w.heap.size + 1) w1.heap.size [3] rfl hB1 (by decide)).alloc _) ⟨w1.heap.size + 1, 0, none⟩ 1 1 [.int .u8 (s.size : Int)] rfl rfl ?c1 ?c2 ?c3 ?c4 ?c5 ?_)
  case c1 =>
    intro q u hq
    match q, hq with
    | 0, hq => simp at hq; subst hq; simp [Addr.add]
  case c2 => intro u hu; simp at hu; subst hu; rfl
  case c3 => unfold maxLen; omega
  case c4 => omega
  case c5 => simp; omega
  intro v' w2 hown' hgrow _
  have hcv := conv_own [3, (s.size : Int)] hown' (by omega)
  have hsz : ((strOfNums [3, (s.size : Int)]).size : Int) ≤ 200 := by rw [nums_size]; simp
  have R2 : Below w.heap.size w w2 := own_grow (own_base (own_litg w1 (w.heap.size + 1) w1.heap.size [3] rfl hB1 (by decide)) (by omega)) (bel1.alloc (by omega) _) (by simp; omega) hgrow
  have R4 : w2.cell? ⟨w.heap.size, 2, none⟩ = some (.string s) := far_cell (own_litg w1 (w.heap.size + 1) w1.heap.size [3] rfl hB1 (by decide)) (by omega) (by go_simp) hgrow
  clear hown' hgrow
  go_wp2_with fail
  go_returns
  exact ⟨rfl, R2⟩
theorem specPut_any (k n : Int) (s : ByteArray) (w : World) (hs : s.size ≤ maxLen) :
    Calls Tryz.prog 24 #[(.agg #[.int .i64 k, .int .i64 n, .string s])] w fun e w' => e = .returned (.string (putS k n s)) ∧ Below w.heap.size w w' := by
  by_cases hok : okB k n s = true
  · by_cases h0 : k = 0
    · subst h0
      rw [putS_0 n s hok]
      have h := hok
      rw [okB_0] at h
      simp at h
      obtain ⟨rfl, h⟩ := h
      obtain rfl := nil_of s h
      exact specPut_0 w hok
    by_cases h1 : k = 1
    · subst h1
      rw [putS_1 n s hok]
      have h := hok
      rw [okB_1] at h
      simp at h
      obtain rfl := nil_of s h
      exact specPut_1 n w hok
    by_cases h2 : k = 2
    · subst h2
      rw [putS_2 n s hok]
      have h := hok
      rw [okB_2] at h
      simp at h
      obtain ⟨hn, h⟩ := h
      obtain rfl := nil_of s h
      exact specPut_2 n hn w hok
    by_cases h3 : k = 3
    · subst h3
      rw [putS_3 n s hok]
      have h := hok
      rw [okB_3] at h
      simp at h
      obtain ⟨rfl, h⟩ := h
      exact specPut_3 s h w hok
    · rw [okB_x k n s h0 h1 h2 h3] at hok; cases hok
  · rw [putS_no k n s (by simpa using hok)]; exact specPut_no k n s w hs (by simpa using hok)
end Go.Proofs.YtiaafgmjigbjlaaGreatDoor
/- Own text. Whether a row is right: the contracts of spec.l02Row and impl.rowOk, impl.countOk, spec.l01In. -/
namespace Go.Proofs.YtiaafgmjigbjlaaGreatDoor
open Go.RowKit
set_option linter.unusedVariables false
/-- whether a value is right. -/
def okW (x : V3) : Bool := okB x.k x.n x.s
/-- whether a row is right, with W values. -/
def okRow (vs : List V3) (W : Int) : Bool := decide ((vs.length : Int) = W) && vs.all okW
theorem all_step {vs : List V3} {k : Nat} {x : V3} (h : vs[k]? = some x) : (vs.drop k).all okW = (okW x && (vs.drop (k + 1)).all okW) := by
  obtain ⟨hk, rfl⟩ := List.getElem?_eq_some_iff.1 h
  rw [List.drop_eq_getElem_cons hk]
  rfl
set_option maxHeartbeats 2000000 in
set_option maxRecDepth 100000 in
theorem l02Row_any (v : Value) (vs : List V3) (W : Int) (w : World) (hr : RowIs w v vs) (hw : VsWf vs) :
    Calls Tryz.prog 33 #[v, .int .i64 W] w fun e w' => e = .returned (.bool (okRow vs W)) ∧ Below w.heap.size w w' := by
  obtain ⟨a, c, b, o, rfl, hl, hc, ha⟩ := hr.pick
  unfold maxLen at hc
  clear hr
  go_enter Tryz.func33, Tryz.ntmps33
  go_wp2
  go_loopw [5] (fun i wr => ∃ k : Nat, k ≤ vs.length ∧ i = .int .i64 k ∧ Below w.heap.size w wr ∧ vs.all okW = (vs.drop k).all okW) (fun i _ => vs.length - (intOf i).toNat)
  case atStart => exact ⟨0, Nat.zero_le _, rfl, by go_grown, by simp⟩
  case round =>
    obtain ⟨k, hk, rfl, hb, heq⟩ := hrel
    have HE : Hid (vs.all okW = (vs.drop k).all okW) := heq
    have hzb := hb.size
    clear heq
    by_cases hlt : k < vs.length
    · obtain ⟨rfl, hblt, hL⟩ := ha k hlt
      obtain ⟨x, hx, c0, c1, c2, hbr⟩ := hL.at hblt hb hlt
      have hxs : x.s.size ≤ maxLen := (hw x (List.mem_of_getElem? hx)).2.2
      have HS : Hid ((vs.drop k).all okW = (okW x && (vs.drop (k + 1)).all okW)) := all_step hx
      clear ha hL hx hw
      by_cases hok : okB x.k x.n x.s = true
      · go_wp2_with (go_at_call 46; refine (specValueOk_any _ _ _ _ hxs).mono ?_; rintro e w1 ⟨rfl, hb1⟩)
        go_roundw
        case rel =>
          refine ⟨k + 1, hlt, by simp, by repeat (first | exact Below.refl _ _ | refine Below.drew ?_ | refine Below.alloc ?_ (by first | (simp; done) | (simp; omega) | omega) _ | refine Below.setCell ?_ (by first | (simp; done) | (simp; omega) | omega) _ | refine bstep (by assumption) (by first | (simp; done) | (simp; omega) | omega) ?_), ?_⟩
          rw [HE.out, HS.out, show okW x = true from hok, Bool.true_and]
        case measure => simp [intOf]; omega
      · go_wp2_with (go_at_call 46; refine (specValueOk_any _ _ _ _ hxs).mono ?_; rintro e w1 ⟨rfl, hb1⟩)
        go_returns
        refine ⟨ret_bool ?_, by repeat (first | exact Below.refl _ _ | refine Below.drew ?_ | refine Below.alloc ?_ (by first | (simp; done) | (simp; omega) | omega) _ | refine Below.setCell ?_ (by first | (simp; done) | (simp; omega) | omega) _ | refine bstep (by assumption) (by first | (simp; done) | (simp; omega) | omega) ?_)⟩
        have hf : okW x = false := by unfold okW; simpa using hok
        unfold okRow
        rw [HE.out, HS.out, hf]
        simp
    · clear ha hw
      go_wp2
      go_returns
      refine ⟨ret_bool ?_, hb⟩
      unfold okRow
      rw [HE.out, List.drop_eq_nil_of_le (by omega)]
      simp
      try rfl
set_option maxHeartbeats 2000000 in
set_option maxRecDepth 100000 in
theorem rowOk_any (v : Value) (vs : List V3) (W : Int) (w : World) (hr : RowIs w v vs) (hw : VsWf vs) :
    Calls Tryz.prog 39 #[v, .int .i64 W] w fun e w' => e = .returned (.bool (okRow vs W)) ∧ Below w.heap.size w w' := by
  obtain ⟨a, c, b, o, rfl, hl, hc, ha⟩ := hr.pick
  unfold maxLen at hc
  clear hr
  by_cases hW : (vs.length : Int) = W
  · subst hW
    go_enter Tryz.func39, Tryz.ntmps39
    go_wp2
    go_loopw [13] (fun i wr => ∃ k : Nat, k ≤ vs.length ∧ i = .int .i64 k ∧ Below w.heap.size w wr ∧ vs.all okW = (vs.drop k).all okW) (fun i _ => vs.length - (intOf i).toNat)
    case atStart => exact ⟨0, Nat.zero_le _, rfl, by go_grown, by simp⟩
    case round =>
      obtain ⟨k, hk, rfl, hb, heq⟩ := hrel
      have HE : Hid (vs.all okW = (vs.drop k).all okW) := heq
      have hzb := hb.size
      clear heq
      by_cases hlt : k < vs.length
      · obtain ⟨rfl, hblt, hL⟩ := ha k hlt
        obtain ⟨x, hx, c0, c1, c2, hbr⟩ := hL.at hblt hb hlt
        have hxs : x.s.size ≤ maxLen := (hw x (List.mem_of_getElem? hx)).2.2
        have HS : Hid ((vs.drop k).all okW = (okW x && (vs.drop (k + 1)).all okW)) := all_step hx
        clear ha hL hx hw
        by_cases hok : okB x.k x.n x.s = true
        · go_wp2_with (go_at_call 56; refine (implValueOk_any _ _ _ _ hxs).mono ?_; rintro e w1 ⟨rfl, hb1⟩; have hz1 := hb1.size; (try simp at hz1))
          go_roundw
          case rel =>
            refine ⟨k + 1, hlt, by simp, by repeat (first | exact Below.refl _ _ | refine Below.drew ?_ | refine Below.alloc ?_ (by first | (simp; done) | (simp; omega) | omega) _ | refine Below.setCell ?_ (by first | (simp; done) | (simp; omega) | omega) _ | refine bstep (by assumption) (by first | (simp; done) | (simp; omega) | omega) ?_), ?_⟩
            rw [HE.out, HS.out, show okW x = true from hok, Bool.true_and]
          case measure => simp [intOf]; omega
        · go_wp2_with (go_at_call 56; refine (implValueOk_any _ _ _ _ hxs).mono ?_; rintro e w1 ⟨rfl, hb1⟩; have hz1 := hb1.size; (try simp at hz1))
          go_returns
          refine ⟨ret_bool ?_, by repeat (first | exact Below.refl _ _ | refine Below.drew ?_ | refine Below.alloc ?_ (by first | (simp; done) | (simp; omega) | omega) _ | refine Below.setCell ?_ (by first | (simp; done) | (simp; omega) | omega) _ | refine bstep (by assumption) (by first | (simp; done) | (simp; omega) | omega) ?_)⟩
          have hf : okW x = false := by unfold okW; simpa using hok
          unfold okRow
          rw [HE.out, HS.out, hf]
          simp
      · clear ha hw
        go_wp2
        go_returns
        refine ⟨ret_bool ?_, hb⟩
        unfold okRow
        rw [HE.out, List.drop_eq_nil_of_le (by omega)]
        simp
  · go_enter Tryz.func39, Tryz.ntmps39
    go_wp2
    go_returns
    exact ⟨ret_bool (by simp [okRow, hW]), by go_grown⟩
/-- whether a count is right. -/
def okN (n : Int) : Bool := decide (n ≠ 0) && decide (-1000000000 ≤ n) && decide (n ≤ 1000000000)
set_option maxHeartbeats 1000000 in
theorem countOk_any (n : Int) (w : World) :
    Calls Tryz.prog 40 #[.int .i64 n] w fun e w' => e = .returned (.bool (okN n)) ∧ Below w.heap.size w w' := by
  by_cases h0 : n = 0
  · subst h0
    go_enter Tryz.func40, Tryz.ntmps40
    go_wp2
    go_returns
    exact ⟨ret_bool (by simp [okN]), by go_grown⟩
  · by_cases h1 : -1000000000 ≤ n
    · go_enter Tryz.func40, Tryz.ntmps40
      go_wp2
      go_returns
      exact ⟨ret_bool (by simp [okN, h0, h1]), by go_grown⟩
    · go_enter Tryz.func40, Tryz.ntmps40
      go_wp2
      go_returns
      exact ⟨ret_bool (by simp [okN, h0]; omega), by go_grown⟩
set_option maxHeartbeats 1000000 in
theorem l01In_any (n a b : Int) (w : World) :
    Calls Tryz.prog 34 #[.int .i64 n, .int .i64 a, .int .i64 b] w fun e w' => e = .returned (.bool (decide (a ≤ n) && decide (n ≤ b))) ∧ Below w.heap.size w w' := by
  by_cases h1 : a ≤ n
  · go_enter Tryz.func34, Tryz.ntmps34
    go_wp2
    go_returns
    exact ⟨ret_bool (by simp [h1]), by go_grown⟩
  · go_enter Tryz.func34, Tryz.ntmps34
    go_wp2
    go_returns
    exact ⟨ret_bool (by simp; omega), by go_grown⟩
end Go.Proofs.YtiaafgmjigbjlaaGreatDoor
/- Own text. strings.Builder at this program: copyCheck, WriteString and String of a builder of the call's own (the library's laying of copyCheck does not fit this program's text, so it is walked here). -/
namespace Go.Proofs.YtiaafgmjigbjlaaGreatDoor
open Go.RowKit
set_option linter.unusedVariables false
theorem bldSize : (Tryz.prog.info? 56).map (·.size) = some 2 := by kernel_rfl
theorem bldLies : liesAt Tryz.prog Tryz.prog.depth 56 (2 / Tryz.prog.cellsOf 56) 0 56 1 = true := by kernel_rfl
theorem bldByte : (Tryz.prog.info? 5).map (fun i => (i.zero, i.size, i.bytes)) = some (some (.int .u8 0), 1, 1) := by kernel_rfl
set_option maxHeartbeats 1000000 in
set_option maxRecDepth 100000 in
theorem copyCheck_used (b : Nat) (w : World) (h0 : w.cell? ⟨b, 0, none⟩ = some (.pointer (some ⟨b, 0, none⟩))) :
    Calls Tryz.prog 47 #[.pointer (some ⟨b, 0, none⟩)] w fun e w' => e = .returned (.tuple #[]) ∧ w' = w := by
  obtain ⟨j, hj, _⟩ := Option.map_eq_some_iff.1 bldSize
  go_enter Tryz.func47, Tryz.ntmps47
  go_wp2
  rw [Lib.run_neq_ptr_same w _ Tryz.underlying54 hj]
  go_wp2
  go_end0
  exact ⟨rfl, rfl⟩
set_option maxHeartbeats 1000000 in
set_option maxRecDepth 100000 in
theorem copyCheck_fresh (b : Nat) (w : World) (h0 : w.cell? ⟨b, 0, none⟩ = some (.pointer none)) (hsh : w.shape? b = some (56, 2)) (hfz : w.frozen? ⟨b, 0, none⟩ = false) :
    Calls Tryz.prog 47 #[.pointer (some ⟨b, 0, none⟩)] w fun e w' => e = .returned (.tuple #[]) ∧ w' = w.setCell ⟨b, 0, none⟩ (.pointer (some ⟨b, 0, none⟩)) := by
  obtain ⟨j, hj, hjs⟩ := Option.map_eq_some_iff.1 bldSize
  go_enter Tryz.func47, Tryz.ntmps47
  go_wp2
  rw [Lib.run_to_unsafe w ⟨b, 0, none⟩ Tryz.underlying54 Tryz.underlying102 hj (by rw [hjs]; decide) hsh (Nat.zero_lt_succ 1)]
  simp only [Result.andThen]
  rw [Oper.upon_value]
  go_wp2
  rw [run_callFunc_extern Tryz.func62 (by kernel_rfl) (by kernel_rfl) (by kernel_rfl) (e := Extern.AbiNoEscape.same) (by kernel_rfl)]
  rw [Lib.run_noEscape]
  simp only [Result.andThen]
  rw [Oper.upon_value]
  go_wp2
  rw [Lib.run_from_unsafe w ⟨b, 0, none⟩ Tryz.underlying102 Tryz.underlying54 hj hsh bldLies]
  simp only [Result.andThen]
  rw [Oper.upon_value]
  go_wp2
  go_end0
  exact ⟨rfl, rfl⟩
theorem copyCheck_any (B b : Nat) (bs : List Value) (w : World) (h : Lib.IsBuilder 56 5 B b bs w) :
    Calls Tryz.prog 47 #[.pointer (some ⟨b, 0, none⟩)] w fun e w' => e = .returned (.tuple #[]) ∧ (Lib.BuilderAt 56 5 B b (.pointer (some ⟨b, 0, none⟩)) bs w' ∧ Below B w w') := by
  rcases h with h | h
  · refine (copyCheck_fresh b w h.cell0 h.shape h.frozen0).mono ?_
    rintro e w' ⟨rfl, rfl⟩
    exact ⟨rfl, h.used _, (Below.refl B w).setCell (p := ⟨b, 0, none⟩) h.1 _⟩
  · refine (copyCheck_used b w h.cell0).mono ?_
    rintro e w' ⟨rfl, rfl⟩
    exact ⟨rfl, h, Below.refl B _⟩
set_option maxHeartbeats 2000000 in
set_option maxRecDepth 100000 in
theorem wstr_any (B b : Nat) (bs : List Value) (s : ByteArray) (w : World) (h : Lib.IsBuilder 56 5 B b bs w) (hlen : bs.length + s.size ≤ 140737488355328) (hBw : B ≤ w.heap.size) :
    Calls Tryz.prog 27 #[.pointer (some ⟨b, 0, none⟩), .string s] w fun e w' => e = .returned (.tuple #[.int .i64 s.size, .nilIface]) ∧ (Lib.BuilderAt 56 5 B b (.pointer (some ⟨b, 0, none⟩)) (bs ++ Lib.strCells s) w' ∧ Below B w w') := by
  obtain ⟨i0, hi, hz0, hz1, hz2⟩ := info_parts bldByte
  go_enter Tryz.func27, Tryz.ntmps27
  go_wp2_with fail
  refine (copyCheck_any B b bs _ h).mono ?_
  rintro e w1 ⟨rfl, h1, hb1⟩
  obtain ⟨hB, v, hbk, hown, hne⟩ := h1
  have c0 : w1.cell? ⟨b, 0, none⟩ = some (.pointer (some ⟨b, 0, none⟩)) := by rw [Lib.cell_of_heap hbk]; rfl
  have c1 : w1.cell? ⟨b, 1, none⟩ = some v := by rw [Lib.cell_of_heap hbk]; rfl
  go_wp2_with (at_builtin; refine Lib.wpList_append_own_string _ rfl _ _ 22 9 rfl B 5 i0 Tryz.underlying22 Tryz.underlying9 hi hz0 hz1 hz2 _ _ _ rfl hown s rfl ?c3 ?c4 ?c5 ?_)
  case c3 => unfold maxLen; omega
  case c4 => omega
  case c5 => have := hb1.size; omega
  intro v' w2 hown' hgrow _
  have hlt : b < w1.heap.size := by
    rcases Nat.lt_or_ge b w1.heap.size with h' | h'
    · exact h'
    · simp [Array.getElem?_eq_none h'] at hbk
  have hb2 : w2.heap[b]? = some (.cells #[.pointer (some ⟨b, 0, none⟩), v] 56 (0, 0)) := (hgrow.block b hlt (fun e => hne e.symm)).trans hbk
  have d0 : w2.cell? ⟨b, 0, none⟩ = some (.pointer (some ⟨b, 0, none⟩)) := by rw [Lib.cell_of_heap hb2]; rfl
  have d1 : w2.cell? ⟨b, 1, none⟩ = some v := by rw [Lib.cell_of_heap hb2]; rfl
  have f1 : w2.frozen? ⟨b, 1, none⟩ = false := Lib.frozen_of_heap hb2 1
  have hs : ∃ ao n' cap, v' = .slice ao n' cap := by
    rcases hown'.2 with ⟨hv, _⟩ | ⟨g, cap, cur, hv, _⟩ <;> exact ⟨_, _, _, hv⟩
  obtain ⟨ao, n', cap, rfl⟩ := hs
  go_wp2
  go_ret2
  exact ⟨rfl, Lib.BuilderAt.put (T := 56) (e := 5) hB hb2 (bs' := bs ++ Lib.strCells s) (by simpa [Lib.strCells_length] using hown') (by decide),
    (hb1.grown hgrow (by have := hb1.size; omega) (fun k hk => (hown.lt k hk).1)).setCell (p := ⟨b, 1, none⟩) hB _⟩
end Go.Proofs.YtiaafgmjigbjlaaGreatDoor
/- Own text. The bytes of a row (rowU), and the contract of impl.rowBytes. -/
namespace Go.Proofs.YtiaafgmjigbjlaaGreatDoor
open Go.RowKit
set_option linter.unusedVariables false
/-- the bytes of a row. -/
def rowU (vs : List V3) : List UInt8 := vs.flatMap fun x => (putS x.k x.n x.s).data.toList
theorem rowU_take {vs : List V3} {k : Nat} {x : V3} (h : vs[k]? = some x) : rowU (vs.take (k + 1)) = rowU (vs.take k) ++ (putS x.k x.n x.s).data.toList := by
  obtain ⟨hk, rfl⟩ := List.getElem?_eq_some_iff.1 h
  unfold rowU
  rw [List.take_succ_eq_append_getElem hk, List.flatMap_append]
  simp
theorem putS_size (k n : Int) (s : ByteArray) : (putS k n s).size ≤ 102 := by
  unfold putS
  split
  · rename_i h
    split
    · rw [nums_size]; simp
    · split
      · rw [nums_size, numL_len]; omega
      · split
        · rw [nums_size]; simp
        · have h3 : k = 3 := by
            by_cases h3 : k = 3
            · exact h3
            · rw [okB_x k n s (by assumption) (by assumption) (by assumption) h3] at h; cases h
          subst h3
          have := okB_3s n s h
          rw [ByteArray.size_append, nums_size]; simp; omega
  · exact Nat.zero_le _
theorem rowU_len (vs : List V3) : (rowU vs).length ≤ 102 * vs.length := by
  induction vs with
  | nil => simp [rowU]
  | cons x xs ih =>
    have h := putS_size x.k x.n x.s
    have e : rowU (x :: xs) = (putS x.k x.n x.s).data.toList ++ rowU xs := by unfold rowU; rw [List.flatMap_cons]
    rw [e, List.length_append, List.length_cons]
    have : (putS x.k x.n x.s).data.toList.length = (putS x.k x.n x.s).size := Array.length_toList
    omega
/-- a builder of the call's own stands where nothing older is written. -/
theorem builder_below {T e : TypeId} {B b : Nat} {p : Value} {bs : List Value} {w w' : World} (h : Lib.BuilderAt T e B b p bs w) (hb : Below w.heap.size w w') : Lib.BuilderAt T e B b p bs w' := by
  obtain ⟨h0, v, h1, h2, h3⟩ := h
  have hlt : b < w.heap.size := by
    rcases Nat.lt_or_ge b w.heap.size with h' | h'
    · exact h'
    · simp [Array.getElem?_eq_none h'] at h1
  refine ⟨h0, v, (hb.block b hlt).trans h1, ⟨h2.1, ?_⟩, h3⟩
  rcases h2.2 with hn | ⟨g, cap, cur, hv, hg, hc, rest⟩
  · exact .inl hn
  · have hgl : g < w.heap.size := by
      rcases Nat.lt_or_ge g w.heap.size with h' | h'
      · exact h'
      · simp [Array.getElem?_eq_none h'] at hc
    exact .inr ⟨g, cap, cur, hv, hg, (hb.block g hgl).trans hc, rest⟩
theorem isBuilder_below {T e : TypeId} {B b : Nat} {bs : List Value} {w w' : World} (h : Lib.IsBuilder T e B b bs w) (hb : Below w.heap.size w w') : Lib.IsBuilder T e B b bs w' :=
  h.elim (fun h => .inl (builder_below h hb)) (fun h => .inr (builder_below h hb))
set_option maxHeartbeats 2000000 in
set_option maxRecDepth 100000 in
theorem rowBytes_any (v : Value) (vs : List V3) (w : World) (hr : RowIs w v vs) (hw : VsWf vs) (hn : vs.length ≤ 1048576) :
    Calls Tryz.prog 19 #[v] w fun e w' => e = .returned (.string ⟨(rowU vs).toArray⟩) ∧ Below w.heap.size w w' := by
  obtain ⟨a, c, b, o, rfl, hl, hc, ha⟩ := hr.pick
  unfold maxLen at hc
  clear hr
  go_enter Tryz.func19, Tryz.ntmps19
  go_wp2
  go_loopw [8] (fun i wr => ∃ k : Nat, k ≤ vs.length ∧ i = .int .i64 k ∧ Below w.heap.size w wr ∧ Lib.IsBuilder 56 5 w.heap.size w.heap.size (Lib.byteCells (rowU (vs.take k))) wr) (fun i _ => vs.length - (intOf i).toNat)
  case atStart =>
    refine ⟨0, Nat.zero_le _, rfl, by go_grown, .inl ⟨Nat.le_refl _, .slice none 0 0, ?_, ?_, by simp [Value.ownBlock]⟩⟩
    · exact heap_alloc_new w _
    · simpa [rowU, Lib.byteCells] using World.ownsRow_nil _ _ _ _
  case round =>
    obtain ⟨k, hk, rfl, hb, hB⟩ := hrel
    have hzb := hb.size
    have hsz : w.heap.size < wr.heap.size := by rcases hB with h | h <;> exact h.lt
    by_cases hlt : k < vs.length
    · obtain ⟨rfl, hblt, hL⟩ := ha k hlt
      obtain ⟨x, hx, c0, c1, c2, hbr⟩ := hL.at hblt hb hlt
      have hxs : x.s.size ≤ maxLen := (hw x (List.mem_of_getElem? hx)).2.2
      have HX : Hid (vs[k]? = some x) := hx
      have hl1 : (Lib.byteCells (rowU (vs.take k))).length + (putS x.k x.n x.s).size ≤ 140737488355328 := by
        have h1 := rowU_len (vs.take k)
        have h2 := putS_size x.k x.n x.s
        rw [Lib.byteCells_length]
        have : (vs.take k).length ≤ 1048576 := by simp; omega
        omega
      clear ha hL hx hw
      go_wp2_with (first | (go_at_call 42; refine Calls.mono (implPut_any _ _ _ _ hxs) ?_; rintro e w1 ⟨rfl, hb1⟩; have hz1 := hb1.size; (try simp at hz1)) | fail)
      have hB1 := isBuilder_below hB (w' := w1) (by repeat (first | exact Below.refl _ _ | refine Below.drew ?_ | refine Below.alloc ?_ (by first | (simp; done) | (simp; omega) | omega) _ | refine Below.setCell ?_ (by first | (simp; done) | (simp; omega) | omega) _ | refine bstep (by assumption) (by first | (simp; done) | (simp; omega) | omega) ?_))
      refine Calls.mono (wstr_any w.heap.size w.heap.size _ (putS x.k x.n x.s) w1 hB1 hl1 (by omega)) ?_
      rintro e w2 ⟨rfl, hB2, hb2⟩
      have hz2 := hb2.size
      go_wp2
      go_roundw
      case rel =>
        refine ⟨k + 1, hlt, by simp, (show Below w.heap.size w w1 from by repeat (first | exact Below.refl _ _ | refine Below.drew ?_ | refine Below.alloc ?_ (by first | (simp; done) | (simp; omega) | omega) _ | refine Below.setCell ?_ (by first | (simp; done) | (simp; omega) | omega) _ | refine bstep (by assumption) (by first | (simp; done) | (simp; omega) | omega) ?_)).trans hb2, .inr ?_⟩
        rw [rowU_take HX.out, Lib.byteCells_append, ← Lib.strCells_eq]
        exact hB2
      case measure => simp [intOf]; omega
    · clear ha hw
      obtain rfl : k = vs.length := by omega
      rw [List.take_length] at hB
      go_wp2_with fail
      refine Calls.mono (Tryz.Builder_String_any w.heap.size w.heap.size (rowU vs) wr hB hzb) ?_
      rintro e w1 ⟨rfl, hb1⟩
      go_wp2
      go_returns
      exact ⟨rfl, hb.trans hb1⟩
end Go.Proofs.YtiaafgmjigbjlaaGreatDoor
/- Own text. Whether a bag is right: the contract of impl.BagOk. -/
namespace Go.Proofs.YtiaafgmjigbjlaaGreatDoor
open Go.RowKit
set_option linter.unusedVariables false
/-- whether the row before, if there is one, is less. -/
def okPrev (p : Option C2) (x : C2) : Bool := match p with
  | none => true
  | some y => decide (cmpRow y.r x.r < 0)
/-- whether rows are right, and ascend. -/
def okCs (W : Int) : Option C2 → List C2 → Bool
  | _, [] => true
  | p, x :: xs => okRow x.r W && okN x.n && okPrev p x && okCs W (some x) xs
def prev (cs : List C2) (k : Nat) : Option C2 := if k = 0 then none else cs[k - 1]?
/-- whether a bag is right. -/
def okBag (W : Int) (cs : List C2) : Bool := decide (0 ≤ W) && decide (W ≤ 12) && decide (cs.length ≤ 400) && okCs W none cs
theorem okCs_step {W : Int} {cs : List C2} {k : Nat} {x : C2} (h : cs[k]? = some x) :
    okCs W (prev cs k) (cs.drop k) = (okRow x.r W && okN x.n && okPrev (prev cs k) x && okCs W (prev cs (k + 1)) (cs.drop (k + 1))) := by
  obtain ⟨hk, rfl⟩ := List.getElem?_eq_some_iff.1 h
  rw [List.drop_eq_getElem_cons hk]
  simp [okCs, prev, hk]
theorem prev_zero (cs : List C2) : prev cs 0 = none := rfl
theorem prev_succ {cs : List C2} {j : Nat} {y : C2} (h : cs[j]? = some y) : prev cs (j + 1) = some y := by simp [prev, h]
set_option maxHeartbeats 4000000 in
set_option maxRecDepth 100000 in
theorem implBagOk_any (W : Int) (v : Value) (cs : List C2) (w : World) (hw : CsWf cs) (hr : RowsIs w v cs) :
    Calls Tryz.prog 17 #[.agg #[.int .i64 W, v]] w fun e w' => e = .returned (.bool (okBag W cs)) ∧ Below w.heap.size w w' := by
  obtain ⟨a, c, b, o, rfl, hl, hc, ha⟩ := hr.pick
  unfold maxLen at hc
  clear hr
  by_cases h0 : W < 0
  · go_enter Tryz.func17, Tryz.ntmps17
    go_wp2
    go_returns
    exact ⟨ret_bool (by simp [okBag, show ¬ 0 ≤ W from by omega]), by go_grown⟩
  by_cases h1 : 12 < W
  · go_enter Tryz.func17, Tryz.ntmps17
    go_wp2
    go_returns
    exact ⟨ret_bool (by simp [okBag, show ¬ W ≤ 12 from by omega]), by go_grown⟩
  by_cases h2 : 400 < (cs.length : Int)
  · go_enter Tryz.func17, Tryz.ntmps17
    go_wp2
    go_returns
    exact ⟨ret_bool (by simp [okBag, show ¬ cs.length ≤ 400 from by omega]), by go_grown⟩
  have HB : Hid (okBag W cs = okCs W none cs) := by simp [Hid, okBag, show 0 ≤ W from by omega, show W ≤ 12 from by omega, show cs.length ≤ 400 from by omega]
  go_enter Tryz.func17, Tryz.ntmps17
  go_wp2
  go_loopw [22] (fun i wr => ∃ (k : Nat) (q : Int), k ≤ cs.length ∧ q = k ∧ i = .int .i64 q ∧ Below w.heap.size w wr ∧ w.heap.size < wr.heap.size ∧ wr.cell? ⟨w.heap.size, 0, none⟩ = some (.int .i64 W) ∧ wr.cell? ⟨w.heap.size, 1, none⟩ = some (.slice a cs.length c) ∧ okCs W none cs = okCs W (prev cs k) (cs.drop k)) (fun i _ => cs.length - (intOf i).toNat)
  case atStart => exact ⟨0, 0, Nat.zero_le _, rfl, rfl, by go_grown, by simp, by go_simp, by go_simp, by simp [prev]⟩
  case round =>
    obtain ⟨k, q, hk, hq, rfl, hb, hsz, p0, p1, heq⟩ := hrel
    have HE : Hid (okCs W none cs = okCs W (prev cs k) (cs.drop k)) := heq
    have hzb := hb.size
    clear heq
    by_cases hlt : k < cs.length
    · obtain ⟨rfl, hblt, hL⟩ := ha k hlt
      obtain ⟨x, u, hx, c0, hR, c1, hbr⟩ := hL.at hblt hb hlt
      obtain ⟨ur, lr, cr, rfl⟩ := hR.shape
      have hxw : VsWf x.r := (hw x (List.mem_of_getElem? hx)).1
      have HS : Hid (okCs W (prev cs k) (cs.drop k) = (okRow x.r W && okN x.n && okPrev (prev cs k) x && okCs W (prev cs (k + 1)) (cs.drop (k + 1)))) := okCs_step hx
      by_cases hok : okRow x.r W = true
      · by_cases hcn : okN x.n = true
        · rcases Nat.eq_zero_or_pos k with hk0 | hk0
          · subst hk0
            obtain rfl : q = 0 := by simpa using hq
            rw [Nat.zero_mul, Nat.add_zero] at c0
            rw [Nat.zero_mul, Nat.add_zero] at c1
            clear ha hw hL hx hq
            go_wp2_with (first | (go_at_call 39; refine Calls.mono (rowOk_any _ x.r W _ (hR.below (by repeat (first | exact Below.refl _ _ | refine Below.drew ?_ | refine Below.alloc ?_ (by first | (simp; done) | (simp; omega) | omega) _ | refine Below.setCell ?_ (by first | (simp; done) | (simp; omega) | omega) _ | refine bstep (by assumption) (by first | (simp; done) | (simp; omega) | omega) ?_))) hxw) ?_; rintro e w1 ⟨rfl, hb1⟩; have hz1 := hb1.size; (try simp at hz1); have hf1 := (bcell hb1).2; have q0 : w1.cell? ⟨wr.heap.size, 0, none⟩ = some (.slice ur lr cr) := cell_later hb1 (by go_simp); have q1 : w1.cell? ⟨wr.heap.size, 1, none⟩ = some (.int .i64 x.n) := cell_later hb1 (by go_simp); have p0' : w1.cell? ⟨w.heap.size, 0, none⟩ = some (.int .i64 W) := cell_later hb1 (by go_simp); have p1' : w1.cell? ⟨w.heap.size, 1, none⟩ = some (.slice (some ⟨b, o, none⟩) cs.length c) := cell_later hb1 (by go_simp)) | (go_at_call 40; refine (countOk_any _ _).mono ?_; rintro e w2 ⟨rfl, hb2⟩; have hz2 := hb2.size; (try simp at hz2); have q0'' : w2.cell? ⟨wr.heap.size, 0, none⟩ = some (.slice ur lr cr) := cell_later hb2 (by go_simp); have p0'' : w2.cell? ⟨w.heap.size, 0, none⟩ = some (.int .i64 W) := cell_later hb2 (by go_simp); have p1'' : w2.cell? ⟨w.heap.size, 1, none⟩ = some (.slice (some ⟨b, o, none⟩) cs.length c) := cell_later hb2 (by go_simp)) | fail)
            go_region
            go_wp2
            go_roundw
            case rel =>
              refine ⟨1, 1, hlt, rfl, by simp, by repeat (first | exact Below.refl _ _ | refine Below.drew ?_ | refine Below.alloc ?_ (by first | (simp; done) | (simp; omega) | omega) _ | refine Below.setCell ?_ (by first | (simp; done) | (simp; omega) | omega) _ | refine bstep (by assumption) (by first | (simp; done) | (simp; omega) | omega) ?_), by (first | omega | (simp; omega)), p0'', p1'', ?_⟩
              rw [HE.out, HS.out, hok, hcn, prev_zero]
              simp [okPrev]
            case measure => simp [intOf]; omega
          · obtain ⟨j, rfl⟩ : ∃ j, k = j + 1 := ⟨k - 1, by omega⟩
            obtain rfl : q = (j : Int) + 1 := by omega
            obtain ⟨y, t, hy, d0, hT, d1, _⟩ := hL.at hblt hb (show j < cs.length by omega)
            have HP : Hid (prev cs (j + 1) = some y) := prev_succ hy
            clear ha hw hL hx hy hq
            go_wp2_with (first | (go_at_call 39; refine Calls.mono (rowOk_any _ x.r W _ (hR.below (by repeat (first | exact Below.refl _ _ | refine Below.drew ?_ | refine Below.alloc ?_ (by first | (simp; done) | (simp; omega) | omega) _ | refine Below.setCell ?_ (by first | (simp; done) | (simp; omega) | omega) _ | refine bstep (by assumption) (by first | (simp; done) | (simp; omega) | omega) ?_))) hxw) ?_; rintro e w1 ⟨rfl, hb1⟩; have hz1 := hb1.size; (try simp at hz1); have hf1 := (bcell hb1).2; have q0 : w1.cell? ⟨wr.heap.size, 0, none⟩ = some (.slice ur lr cr) := cell_later hb1 (by go_simp); have q1 : w1.cell? ⟨wr.heap.size, 1, none⟩ = some (.int .i64 x.n) := cell_later hb1 (by go_simp); have p0' : w1.cell? ⟨w.heap.size, 0, none⟩ = some (.int .i64 W) := cell_later hb1 (by go_simp); have p1' : w1.cell? ⟨w.heap.size, 1, none⟩ = some (.slice (some ⟨b, o, none⟩) cs.length c) := cell_later hb1 (by go_simp); have d1' : w1.cell? ⟨b, o + j * 2, none⟩ = some t := cell_later hb1 (by go_simp)) | (go_at_call 40; refine (countOk_any _ _).mono ?_; rintro e w2 ⟨rfl, hb2⟩; have hz2 := hb2.size; (try simp at hz2); have q0'' : w2.cell? ⟨wr.heap.size, 0, none⟩ = some (.slice ur lr cr) := cell_later hb2 (by go_simp); have p0'' : w2.cell? ⟨w.heap.size, 0, none⟩ = some (.int .i64 W) := cell_later hb2 (by go_simp); have p1'' : w2.cell? ⟨w.heap.size, 1, none⟩ = some (.slice (some ⟨b, o, none⟩) cs.length c) := cell_later hb2 (by go_simp); have d2 : w2.cell? ⟨b, o + j * 2, none⟩ = some t := cell_later hb2 (by go_simp)) | fail)
            have hT2 : RowIs w2 t y.r := hT.below (by repeat (first | exact Below.refl _ _ | refine Below.drew ?_ | refine Below.alloc ?_ (by first | (simp; done) | (simp; omega) | omega) _ | refine Below.setCell ?_ (by first | (simp; done) | (simp; omega) | omega) _ | refine bstep (by assumption) (by first | (simp; done) | (simp; omega) | omega) ?_))
            have hR2 : RowIs w2 (.slice ur lr cr) x.r := hR.below (by repeat (first | exact Below.refl _ _ | refine Below.drew ?_ | refine Below.alloc ?_ (by first | (simp; done) | (simp; omega) | omega) _ | refine Below.setCell ?_ (by first | (simp; done) | (simp; omega) | omega) _ | refine bstep (by assumption) (by first | (simp; done) | (simp; omega) | omega) ?_))
            have hw1 : IntKind.i64.wrap (j : Int) = j := by rw [IntKind.wrap_i64]; omega
            have hw2 : IntKind.i64.wrap ((j : Int) + 1 - 1) = j := by rw [IntKind.wrap_i64]; omega
            have hi0 : (0 : Int) ≤ j := by omega
            have hi1 : (j : Int) < cs.length := by omega
            have hi2 : (0 : Int) < (j : Int) + 1 := by omega
            go_region_held3 (fun w' => w'.cell? ⟨w.heap.size, 0, none⟩ = some (.int .i64 W) ∧ w'.cell? ⟨w.heap.size, 1, none⟩ = some (.slice (some ⟨b, o, none⟩) cs.length c) ∧ w'.cell? ⟨wr.heap.size, 0, none⟩ = some (.slice ur lr cr) ∧ w'.cell? ⟨b, o + j * 2, none⟩ = some t) (refine ⟨?_, ?_, ?_, ?_⟩ <;> first | (go_simp; done) | (exact cell_later (by assumption) (by go_simp))) (first | (go_at_call 41; refine Calls.mono (implRow_any t (.slice ur lr cr) y.r x.r _ (hT2.below (by repeat (first | exact Below.refl _ _ | refine Below.drew ?_ | refine Below.alloc ?_ (by first | (simp; done) | (simp; omega) | omega) _ | refine Below.setCell ?_ (by first | (simp; done) | (simp; omega) | omega) _ | refine bstep (by assumption) (by first | (simp; done) | (simp; omega) | omega) ?_))) (hR2.below (by repeat (first | exact Below.refl _ _ | refine Below.drew ?_ | refine Below.alloc ?_ (by first | (simp; done) | (simp; omega) | omega) _ | refine Below.setCell ?_ (by first | (simp; done) | (simp; omega) | omega) _ | refine bstep (by assumption) (by first | (simp; done) | (simp; omega) | omega) ?_)))) ?_; rintro e w3 ⟨rfl, hb3⟩))
            have hz3 := hb3.size
            simp at hz3
            have HQ : Hid (okPrev (prev cs (j + 1)) x = decide (cmpRow y.r x.r < 0)) := by rw [HP.out]; rfl
            have r0 : w3.cell? ⟨w.heap.size, 0, none⟩ = some (.int .i64 W) := cell_later hb3 (by go_simp)
            have r1 : w3.cell? ⟨w.heap.size, 1, none⟩ = some (.slice (some ⟨b, o, none⟩) cs.length c) := cell_later hb3 (by go_simp)
            by_cases hcmp : 0 ≤ cmpRow y.r x.r
            · go_wp2
              go_returns
              refine ⟨ret_bool ?_, by repeat (first | exact Below.refl _ _ | refine Below.drew ?_ | refine Below.alloc ?_ (by first | (simp; done) | (simp; omega) | omega) _ | refine Below.setCell ?_ (by first | (simp; done) | (simp; omega) | omega) _ | refine bstep (by assumption) (by first | (simp; done) | (simp; omega) | omega) ?_)⟩
              rw [HB.out, HE.out, HS.out, HQ.out]
              simp [show ¬ cmpRow y.r x.r < 0 from by omega]
            · go_wp2
              go_roundw
              case rel =>
                refine ⟨j + 1 + 1, (j : Int) + 1 + 1, hlt, by omega, by simp, by repeat (first | exact Below.refl _ _ | refine Below.drew ?_ | refine Below.alloc ?_ (by first | (simp; done) | (simp; omega) | omega) _ | refine Below.setCell ?_ (by first | (simp; done) | (simp; omega) | omega) _ | refine bstep (by assumption) (by first | (simp; done) | (simp; omega) | omega) ?_), by (first | omega | (simp; omega)), r0, r1, ?_⟩
                rw [HE.out, HS.out, HQ.out, hok, hcn]
                simp [show cmpRow y.r x.r < 0 from by omega]
              case measure => simp [intOf]; omega
        · clear ha hw hL hx
          go_wp2_with (first | (go_at_call 39; refine Calls.mono (rowOk_any _ x.r W _ (hR.below (by repeat (first | exact Below.refl _ _ | refine Below.drew ?_ | refine Below.alloc ?_ (by first | (simp; done) | (simp; omega) | omega) _ | refine Below.setCell ?_ (by first | (simp; done) | (simp; omega) | omega) _ | refine bstep (by assumption) (by first | (simp; done) | (simp; omega) | omega) ?_))) hxw) ?_; rintro e w1 ⟨rfl, hb1⟩; have hz1 := hb1.size; (try simp at hz1); have hf1 := (bcell hb1).2; have q0 : w1.cell? ⟨wr.heap.size, 0, none⟩ = some (.slice ur lr cr) := cell_later hb1 (by go_simp); have q1 : w1.cell? ⟨wr.heap.size, 1, none⟩ = some (.int .i64 x.n) := cell_later hb1 (by go_simp); have p0' : w1.cell? ⟨w.heap.size, 0, none⟩ = some (.int .i64 W) := cell_later hb1 (by go_simp); have p1' : w1.cell? ⟨w.heap.size, 1, none⟩ = some (.slice (some ⟨b, o, none⟩) cs.length c) := cell_later hb1 (by go_simp)) | (go_at_call 40; refine (countOk_any _ _).mono ?_; rintro e w2 ⟨rfl, hb2⟩; have hz2 := hb2.size; (try simp at hz2); have q0'' : w2.cell? ⟨wr.heap.size, 0, none⟩ = some (.slice ur lr cr) := cell_later hb2 (by go_simp); have p0'' : w2.cell? ⟨w.heap.size, 0, none⟩ = some (.int .i64 W) := cell_later hb2 (by go_simp); have p1'' : w2.cell? ⟨w.heap.size, 1, none⟩ = some (.slice (some ⟨b, o, none⟩) cs.length c) := cell_later hb2 (by go_simp)) | fail)
          go_returns
          refine ⟨ret_bool ?_, by repeat (first | exact Below.refl _ _ | refine Below.drew ?_ | refine Below.alloc ?_ (by first | (simp; done) | (simp; omega) | omega) _ | refine Below.setCell ?_ (by first | (simp; done) | (simp; omega) | omega) _ | refine bstep (by assumption) (by first | (simp; done) | (simp; omega) | omega) ?_)⟩
          have hf : okN x.n = false := by simpa using hcn
          rw [HB.out, HE.out, HS.out, hf]
          simp
      · clear ha hw hL hx
        go_wp2_with (first | (go_at_call 39; refine Calls.mono (rowOk_any _ x.r W _ (hR.below (by repeat (first | exact Below.refl _ _ | refine Below.drew ?_ | refine Below.alloc ?_ (by first | (simp; done) | (simp; omega) | omega) _ | refine Below.setCell ?_ (by first | (simp; done) | (simp; omega) | omega) _ | refine bstep (by assumption) (by first | (simp; done) | (simp; omega) | omega) ?_))) hxw) ?_; rintro e w1 ⟨rfl, hb1⟩; have hz1 := hb1.size; (try simp at hz1); have hf1 := (bcell hb1).2; have q0 : w1.cell? ⟨wr.heap.size, 0, none⟩ = some (.slice ur lr cr) := cell_later hb1 (by go_simp); have q1 : w1.cell? ⟨wr.heap.size, 1, none⟩ = some (.int .i64 x.n) := cell_later hb1 (by go_simp); have p0' : w1.cell? ⟨w.heap.size, 0, none⟩ = some (.int .i64 W) := cell_later hb1 (by go_simp); have p1' : w1.cell? ⟨w.heap.size, 1, none⟩ = some (.slice (some ⟨b, o, none⟩) cs.length c) := cell_later hb1 (by go_simp)) | (go_at_call 40; refine (countOk_any _ _).mono ?_; rintro e w2 ⟨rfl, hb2⟩; have hz2 := hb2.size; (try simp at hz2); have q0'' : w2.cell? ⟨wr.heap.size, 0, none⟩ = some (.slice ur lr cr) := cell_later hb2 (by go_simp); have p0'' : w2.cell? ⟨w.heap.size, 0, none⟩ = some (.int .i64 W) := cell_later hb2 (by go_simp); have p1'' : w2.cell? ⟨w.heap.size, 1, none⟩ = some (.slice (some ⟨b, o, none⟩) cs.length c) := cell_later hb2 (by go_simp)) | fail)
        go_returns
        refine ⟨ret_bool ?_, by repeat (first | exact Below.refl _ _ | refine Below.drew ?_ | refine Below.alloc ?_ (by first | (simp; done) | (simp; omega) | omega) _ | refine Below.setCell ?_ (by first | (simp; done) | (simp; omega) | omega) _ | refine bstep (by assumption) (by first | (simp; done) | (simp; omega) | omega) ?_)⟩
        have hf : okRow x.r W = false := by simpa using hok
        rw [HB.out, HE.out, HS.out, hf]
        simp
    · clear ha hw
      go_wp2
      go_returns
      refine ⟨ret_bool ?_, hb⟩
      rw [HB.out, HE.out, List.drop_eq_nil_of_le (by omega)]
      rfl
end Go.Proofs.YtiaafgmjigbjlaaGreatDoor
/- Own text. Whether a bag is right: the contract of spec.BagOk. -/
namespace Go.Proofs.YtiaafgmjigbjlaaGreatDoor
open Go.RowKit
set_option linter.unusedVariables false
theorem okN_zero {n : Int} (h : n = 0) : okN n = false := by simp [okN, h]
theorem okN_out {n : Int} (h : ¬ (decide (-1000000000 ≤ n) && decide (n ≤ 1000000000)) = true) : okN n = false := by
  unfold okN
  rw [Bool.and_assoc, show (decide (-1000000000 ≤ n) && decide (n ≤ 1000000000)) = false from by simpa using h, Bool.and_false]
theorem okN_in {n : Int} (h0 : ¬ n = 0) (h : (decide (-1000000000 ≤ n) && decide (n ≤ 1000000000)) = true) : okN n = true := by
  unfold okN
  rw [Bool.and_assoc, h]
  simp [h0]
set_option maxHeartbeats 8000000 in
set_option maxRecDepth 100000 in
theorem specBagOk_any (W : Int) (v : Value) (cs : List C2) (w : World) (hw : CsWf cs) (hr : RowsIs w v cs) :
    Calls Tryz.prog 14 #[.agg #[.int .i64 W, v]] w fun e w' => e = .returned (.bool (okBag W cs)) ∧ Below w.heap.size w w' := by
  obtain ⟨a, c, b, o, rfl, hl, hc, ha⟩ := hr.pick
  unfold maxLen at hc
  clear hr
  go_enter Tryz.func14, Tryz.ntmps14
  go_wp2
  go_loopw [3] (fun i wr => ∃ (k : Nat) (q : Int), k ≤ cs.length ∧ q = k ∧ i = .int .i64 q ∧ Below w.heap.size w wr ∧ w.heap.size < wr.heap.size ∧ wr.cell? ⟨w.heap.size, 0, none⟩ = some (.int .i64 W) ∧ wr.cell? ⟨w.heap.size, 1, none⟩ = some (.slice a cs.length c) ∧ okCs W none cs = okCs W (prev cs k) (cs.drop k)) (fun i _ => cs.length - (intOf i).toNat)
  case atStart => exact ⟨0, 0, Nat.zero_le _, rfl, rfl, by go_grown, by simp, by go_simp, by go_simp, by simp [prev]⟩
  case round =>
    obtain ⟨k, q, hk, hq, rfl, hb, hsz, p0, p1, heq⟩ := hrel
    have HE : Hid (okCs W none cs = okCs W (prev cs k) (cs.drop k)) := heq
    have hzb := hb.size
    clear heq
    by_cases hlt : k < cs.length
    · obtain ⟨rfl, hblt, hL⟩ := ha k hlt
      obtain ⟨x, u, hx, c0, hR, c1, hbr⟩ := hL.at hblt hb hlt
      obtain ⟨ur, lr, cr, rfl⟩ := hR.shape
      have hxw : VsWf x.r := (hw x (List.mem_of_getElem? hx)).1
      have HS : Hid (okCs W (prev cs k) (cs.drop k) = (okRow x.r W && okN x.n && okPrev (prev cs k) x && okCs W (prev cs (k + 1)) (cs.drop (k + 1)))) := okCs_step hx
      by_cases hok : okRow x.r W = true
      rotate_left
      · have hf : okRow x.r W = false := by simpa using hok
        subst hq
        clear ha hw hL hx
        go_wp2_with fail
        refine wp_region_held_drew (S := (fun w' => w'.cell? ⟨w.heap.size, 0, none⟩ = some (.int .i64 W) ∧ w'.cell? ⟨w.heap.size, 1, none⟩ = some (.slice (some ⟨b, o, none⟩) cs.length c) ∧ w'.cell? ⟨wr.heap.size, 0, none⟩ = some (.slice ur lr cr) ∧ w'.cell? ⟨wr.heap.size, 1, none⟩ = some (.int .i64 x.n))) (by kernel_rfl) ?_ (fun hHeld => ?_)
        · (try dsimp only); refine ⟨?_, ?_, ?_, ?_⟩ <;> first | (go_simp; done) | (exact cell_later (by assumption) (by go_simp))
        refine takeYes (i := 0) (d := 17) (v := ?_) rfl rfl (by kernel_rfl) (by kernel_rfl) (by kernel_rfl) (fun _ _ _ h => h) (by rfl) (by assumption) ?_ ?_
        rotate_left
        · intro w' hSw; (try dsimp only at hSw); go_simp; try exact rfl
        try simp only [List.setIfInBounds_toArray, List.set_cons_zero, List.set_cons_succ]
        refine takeYes (i := 1) (d := 18) (v := ?_) rfl rfl (by kernel_rfl) (by kernel_rfl) (by kernel_rfl) (fun _ _ _ h => h) (by rfl) (by assumption) ?_ ?_
        rotate_left
        · intro w' hSw; (try dsimp only at hSw); go_simp; try exact rfl
        try simp only [List.setIfInBounds_toArray, List.set_cons_zero, List.set_cons_succ]
        refine takeYes (i := 2) (d := 19) (v := ?_) rfl rfl (by kernel_rfl) (by kernel_rfl) (by kernel_rfl) (fun _ _ _ h => h) (by rfl) (by assumption) ?_ ?_
        rotate_left
        · intro w' hSw; (try dsimp only at hSw); go_simp; try exact rfl
        try simp only [List.setIfInBounds_toArray, List.set_cons_zero, List.set_cons_succ]
        refine takeYes (i := 3) (d := 20) (v := ?_) rfl rfl (by kernel_rfl) (by kernel_rfl) (by kernel_rfl) (fun _ _ _ h => h) (by rfl) (by assumption) ?_ ?_
        rotate_left
        · intro w' hSw; (try dsimp only at hSw); go_simp; try exact rfl
        try simp only [List.setIfInBounds_toArray, List.set_cons_zero, List.set_cons_succ]
        refine wpAnyH_ready (rs := [4]) (by kernel_rfl) (by simp) ?_
        refine AllReadyH.cons rfl (fun K hK => ?_) AllReadyH.nil
        go_simp
        go_at_call 33
        refine Calls.mono (l02Row_any (.slice ur lr cr) x.r W _ (hR.below (by repeat (first | exact Below.refl _ _ | refine Below.drew ?_ | refine Below.alloc ?_ (by first | (simp; done) | (simp; omega) | omega) _ | refine Below.setCell ?_ (by first | (simp; done) | (simp; omega) | omega) _ | refine bstep (by assumption) (by first | (simp; done) | (simp; omega) | omega) ?_))) hxw) ?_
        rintro e w1 ⟨rfl, hb1⟩
        have hz1 := hb1.size
        (try simp at hz1)
        try go_wp2_with fail
        refine hK.out _ _ ?_ (fun hHeld4 => ?_)
        · (try dsimp only); refine ⟨?_, ?_, ?_, ?_⟩ <;> first | (go_simp; done) | (exact cell_later (by assumption) (by go_simp))
        clear hK
        refine takeYes (i := 5) (d := 22) (v := ?_) rfl rfl (by kernel_rfl) (by kernel_rfl) (by kernel_rfl) (fun _ _ _ h => h) (by rfl) (by assumption) ?_ ?_
        rotate_left
        · intro w' hSw; (try dsimp only at hSw); go_simp; try exact rfl
        try simp only [List.setIfInBounds_toArray, List.set_cons_zero, List.set_cons_succ]
        refine takeYes (i := 6) (d := 23) (v := ?_) rfl rfl (by kernel_rfl) (by kernel_rfl) (by kernel_rfl) (fun _ _ _ h => h) (by rfl) (by assumption) ?_ ?_
        rotate_left
        · intro w' hSw; (try dsimp only at hSw); go_simp; try exact rfl
        try simp only [List.setIfInBounds_toArray, List.set_cons_zero, List.set_cons_succ]
        refine takeNo (i := 7) (d := 24) rfl rfl (by kernel_rfl) (by kernel_rfl) (by kernel_rfl) (fun _ _ _ h => h) (by rfl) (by assumption) ?_
        try simp only [List.setIfInBounds_toArray, List.set_cons_zero, List.set_cons_succ]
        refine takeNo (i := 8) (d := 25) rfl rfl (by kernel_rfl) (by kernel_rfl) (by kernel_rfl) (fun _ _ _ h => h) (by rfl) (by assumption) ?_
        try simp only [List.setIfInBounds_toArray, List.set_cons_zero, List.set_cons_succ]
        refine takeNo (i := 9) (d := 26) rfl rfl (by kernel_rfl) (by kernel_rfl) (by kernel_rfl) (fun _ _ _ h => h) (by rfl) (by assumption) ?_
        try simp only [List.setIfInBounds_toArray, List.set_cons_zero, List.set_cons_succ]
        refine takeYes (i := 10) (d := 27) (v := ?_) rfl rfl (by kernel_rfl) (by kernel_rfl) (by kernel_rfl) (fun _ _ _ h => h) (by rfl) (by assumption) ?_ ?_
        rotate_left
        · intro w' hSw; (try dsimp only at hSw); go_simp; try exact rfl
        try simp only [List.setIfInBounds_toArray, List.set_cons_zero, List.set_cons_succ]
        refine takeYes (i := 11) (d := 28) (v := ?_) rfl rfl (by kernel_rfl) (by kernel_rfl) (by kernel_rfl) (fun _ _ _ h => h) (by rfl) (by assumption) ?_ ?_
        rotate_left
        · intro w' hSw; (try dsimp only at hSw); go_simp; try exact rfl
        try simp only [List.setIfInBounds_toArray, List.set_cons_zero, List.set_cons_succ]
        refine takeNo (i := 12) (d := 29) rfl rfl (by kernel_rfl) (by kernel_rfl) (by kernel_rfl) (fun _ _ _ h => h) (by rfl) (by assumption) ?_
        try simp only [List.setIfInBounds_toArray, List.set_cons_zero, List.set_cons_succ]
        refine takeNo (i := 13) (d := 30) rfl rfl (by kernel_rfl) (by kernel_rfl) (by kernel_rfl) (fun _ _ _ h => h) (by rfl) (by assumption) ?_
        try simp only [List.setIfInBounds_toArray, List.set_cons_zero, List.set_cons_succ]
        refine wpAnyH_ready (rs := [14]) (by kernel_rfl) (by simp) ?_
        refine AllReadyH.cons rfl (fun K hK => ?_) AllReadyH.nil
        go_simp
        refine hK.out _ _ ?_ (fun hHeld14 => ?_)
        · (try dsimp only); refine ⟨?_, ?_, ?_, ?_⟩ <;> first | (go_simp; done) | (exact cell_later (by assumption) (by go_simp))
        clear hK
        refine takeNo (i := 15) (d := 32) rfl rfl (by kernel_rfl) (by kernel_rfl) (by kernel_rfl) (fun _ _ _ h => h) (by rfl) (by assumption) ?_
        try simp only [List.setIfInBounds_toArray, List.set_cons_zero, List.set_cons_succ]
        refine takeYes (i := 16) (d := 33) (v := ?_) rfl rfl (by kernel_rfl) (by kernel_rfl) (by kernel_rfl) (fun _ _ _ h => h) (by rfl) (by assumption) ?_ ?_
        rotate_left
        · intro w' hSw; (try dsimp only at hSw); go_simp; try exact rfl
        try simp only [List.setIfInBounds_toArray, List.set_cons_zero, List.set_cons_succ]
        refine takeYes (i := 17) (d := 34) (v := ?_) rfl rfl (by kernel_rfl) (by kernel_rfl) (by kernel_rfl) (fun _ _ _ h => h) (by rfl) (by assumption) ?_ ?_
        rotate_left
        · intro w' hSw; (try dsimp only at hSw); go_simp; try exact rfl
        try simp only [List.setIfInBounds_toArray, List.set_cons_zero, List.set_cons_succ]
        refine takeNo (i := 18) (d := 35) rfl rfl (by kernel_rfl) (by kernel_rfl) (by kernel_rfl) (fun _ _ _ h => h) (by rfl) (by assumption) ?_
        try simp only [List.setIfInBounds_toArray, List.set_cons_zero, List.set_cons_succ]
        refine takeNo (i := 19) (d := 36) rfl rfl (by kernel_rfl) (by kernel_rfl) (by kernel_rfl) (fun _ _ _ h => h) (by rfl) (by assumption) ?_
        try simp only [List.setIfInBounds_toArray, List.set_cons_zero, List.set_cons_succ]
        refine takeNo (i := 20) (d := 37) rfl rfl (by kernel_rfl) (by kernel_rfl) (by kernel_rfl) (fun _ _ _ h => h) (by rfl) (by assumption) ?_
        try simp only [List.setIfInBounds_toArray, List.set_cons_zero, List.set_cons_succ]
        refine takeNo (i := 21) (d := 38) rfl rfl (by kernel_rfl) (by kernel_rfl) (by kernel_rfl) (fun _ _ _ h => h) (by rfl) (by assumption) ?_
        try simp only [List.setIfInBounds_toArray, List.set_cons_zero, List.set_cons_succ]
        refine takeNo (i := 22) (d := 39) rfl rfl (by kernel_rfl) (by kernel_rfl) (by kernel_rfl) (fun _ _ _ h => h) (by rfl) (by assumption) ?_
        try simp only [List.setIfInBounds_toArray, List.set_cons_zero, List.set_cons_succ]
        refine takeNo (i := 23) (d := 40) rfl rfl (by kernel_rfl) (by kernel_rfl) (by kernel_rfl) (fun _ _ _ h => h) (by rfl) (by assumption) ?_
        try simp only [List.setIfInBounds_toArray, List.set_cons_zero, List.set_cons_succ]
        refine takeNo (i := 24) (d := 41) rfl rfl (by kernel_rfl) (by kernel_rfl) (by kernel_rfl) (fun _ _ _ h => h) (by rfl) (by assumption) ?_
        try simp only [List.setIfInBounds_toArray, List.set_cons_zero, List.set_cons_succ]
        refine takeNo (i := 25) (d := 42) rfl rfl (by kernel_rfl) (by kernel_rfl) (by kernel_rfl) (fun _ _ _ h => h) (by rfl) (by assumption) ?_
        try simp only [List.setIfInBounds_toArray, List.set_cons_zero, List.set_cons_succ]
        refine takeNo (i := 26) (d := 43) rfl rfl (by kernel_rfl) (by kernel_rfl) (by kernel_rfl) (fun _ _ _ h => h) (by rfl) (by assumption) ?_
        try simp only [List.setIfInBounds_toArray, List.set_cons_zero, List.set_cons_succ]
        refine takeNo (i := 27) (d := 44) rfl rfl (by kernel_rfl) (by kernel_rfl) (by kernel_rfl) (fun _ _ _ h => h) (by rfl) (by assumption) ?_
        try simp only [List.setIfInBounds_toArray, List.set_cons_zero, List.set_cons_succ]
        refine takeNo (i := 28) (d := 45) rfl rfl (by kernel_rfl) (by kernel_rfl) (by kernel_rfl) (fun _ _ _ h => h) (by rfl) (by assumption) ?_
        try simp only [List.setIfInBounds_toArray, List.set_cons_zero, List.set_cons_succ]
        refine takeNo (i := 29) (d := 46) rfl rfl (by kernel_rfl) (by kernel_rfl) (by kernel_rfl) (fun _ _ _ h => h) (by rfl) (by assumption) ?_
        try simp only [List.setIfInBounds_toArray, List.set_cons_zero, List.set_cons_succ]
        refine wpAnyH_ready (rs := [30]) (by kernel_rfl) (by simp) ?_
        refine AllReadyH.cons rfl (fun K hK => ?_) AllReadyH.nil
        go_simp
        refine hK.out _ _ ?_ (fun hHeld30 => ?_)
        · (try dsimp only); refine ⟨?_, ?_, ?_, ?_⟩ <;> first | (go_simp; done) | (exact cell_later (by assumption) (by go_simp))
        clear hK
        refine takeNo (i := 31) (d := 48) rfl rfl (by kernel_rfl) (by kernel_rfl) (by kernel_rfl) (fun _ _ _ h => h) (by rfl) (by assumption) ?_
        try simp only [List.setIfInBounds_toArray, List.set_cons_zero, List.set_cons_succ]
        refine takeNo (i := 32) (d := 49) rfl rfl (by kernel_rfl) (by kernel_rfl) (by kernel_rfl) (fun _ _ _ h => h) (by rfl) (by assumption) ?_
        try simp only [List.setIfInBounds_toArray, List.set_cons_zero, List.set_cons_succ]
        refine takeYes (i := 33) (d := 50) (v := ?_) rfl rfl (by kernel_rfl) (by kernel_rfl) (by kernel_rfl) (fun _ _ _ h => h) (by rfl) (by assumption) ?_ ?_
        rotate_left
        · intro w' hSw; (try dsimp only at hSw); go_simp; try exact rfl
        try simp only [List.setIfInBounds_toArray, List.set_cons_zero, List.set_cons_succ]
        refine wpAnyH_done (by kernel_rfl) ?_ _
        go_wp2
        go_returns
        refine ⟨ret_bool ?_, by repeat (first | exact Below.refl _ _ | refine Below.drew ?_ | refine Below.alloc ?_ (by first | (simp; done) | (simp; omega) | omega) _ | refine Below.setCell ?_ (by first | (simp; done) | (simp; omega) | omega) _ | refine bstep (by assumption) (by first | (simp; done) | (simp; omega) | omega) ?_)⟩
        unfold okBag
        rw [HE.out, HS.out, hf]
        simp
      by_cases hn0 : x.n = 0
      · have HN : Hid (okN x.n = false) := okN_zero hn0
        have hn1 : (x.n == 0) = true := by simpa using hn0
        subst hq
        clear ha hw hL hx hn0
        go_wp2_with fail
        refine wp_region_held_drew (S := (fun w' => w'.cell? ⟨w.heap.size, 0, none⟩ = some (.int .i64 W) ∧ w'.cell? ⟨w.heap.size, 1, none⟩ = some (.slice (some ⟨b, o, none⟩) cs.length c) ∧ w'.cell? ⟨wr.heap.size, 0, none⟩ = some (.slice ur lr cr) ∧ w'.cell? ⟨wr.heap.size, 1, none⟩ = some (.int .i64 x.n))) (by kernel_rfl) ?_ (fun hHeld => ?_)
        · (try dsimp only); refine ⟨?_, ?_, ?_, ?_⟩ <;> first | (go_simp; done) | (exact cell_later (by assumption) (by go_simp))
        refine takeYes (i := 0) (d := 17) (v := ?_) rfl rfl (by kernel_rfl) (by kernel_rfl) (by kernel_rfl) (fun _ _ _ h => h) (by rfl) (by assumption) ?_ ?_
        rotate_left
        · intro w' hSw; (try dsimp only at hSw); go_simp; try exact rfl
        try simp only [List.setIfInBounds_toArray, List.set_cons_zero, List.set_cons_succ]
        refine takeYes (i := 1) (d := 18) (v := ?_) rfl rfl (by kernel_rfl) (by kernel_rfl) (by kernel_rfl) (fun _ _ _ h => h) (by rfl) (by assumption) ?_ ?_
        rotate_left
        · intro w' hSw; (try dsimp only at hSw); go_simp; try exact rfl
        try simp only [List.setIfInBounds_toArray, List.set_cons_zero, List.set_cons_succ]
        refine takeYes (i := 2) (d := 19) (v := ?_) rfl rfl (by kernel_rfl) (by kernel_rfl) (by kernel_rfl) (fun _ _ _ h => h) (by rfl) (by assumption) ?_ ?_
        rotate_left
        · intro w' hSw; (try dsimp only at hSw); go_simp; try exact rfl
        try simp only [List.setIfInBounds_toArray, List.set_cons_zero, List.set_cons_succ]
        refine takeYes (i := 3) (d := 20) (v := ?_) rfl rfl (by kernel_rfl) (by kernel_rfl) (by kernel_rfl) (fun _ _ _ h => h) (by rfl) (by assumption) ?_ ?_
        rotate_left
        · intro w' hSw; (try dsimp only at hSw); go_simp; try exact rfl
        try simp only [List.setIfInBounds_toArray, List.set_cons_zero, List.set_cons_succ]
        refine wpAnyH_ready (rs := [4]) (by kernel_rfl) (by simp) ?_
        refine AllReadyH.cons rfl (fun K hK => ?_) AllReadyH.nil
        go_simp
        go_at_call 33
        refine Calls.mono (l02Row_any (.slice ur lr cr) x.r W _ (hR.below (by repeat (first | exact Below.refl _ _ | refine Below.drew ?_ | refine Below.alloc ?_ (by first | (simp; done) | (simp; omega) | omega) _ | refine Below.setCell ?_ (by first | (simp; done) | (simp; omega) | omega) _ | refine bstep (by assumption) (by first | (simp; done) | (simp; omega) | omega) ?_))) hxw) ?_
        rintro e w1 ⟨rfl, hb1⟩
        have hz1 := hb1.size
        (try simp at hz1)
        try go_wp2_with fail
        refine hK.out _ _ ?_ (fun hHeld4 => ?_)
        · (try dsimp only); refine ⟨?_, ?_, ?_, ?_⟩ <;> first | (go_simp; done) | (exact cell_later (by assumption) (by go_simp))
        clear hK
        refine takeYes (i := 5) (d := 22) (v := ?_) rfl rfl (by kernel_rfl) (by kernel_rfl) (by kernel_rfl) (fun _ _ _ h => h) (by rfl) (by assumption) ?_ ?_
        rotate_left
        · intro w' hSw; (try dsimp only at hSw); go_simp; try exact rfl
        try simp only [List.setIfInBounds_toArray, List.set_cons_zero, List.set_cons_succ]
        refine takeYes (i := 6) (d := 23) (v := ?_) rfl rfl (by kernel_rfl) (by kernel_rfl) (by kernel_rfl) (fun _ _ _ h => h) (by rfl) (by assumption) ?_ ?_
        rotate_left
        · intro w' hSw; (try dsimp only at hSw); go_simp; try exact rfl
        try simp only [List.setIfInBounds_toArray, List.set_cons_zero, List.set_cons_succ]
        refine takeYes (i := 7) (d := 24) (v := ?_) rfl rfl (by kernel_rfl) (by kernel_rfl) (by kernel_rfl) (fun _ _ _ h => h) (by rfl) (by assumption) ?_ ?_
        rotate_left
        · intro w' hSw; (try dsimp only at hSw); go_simp; try exact rfl
        try simp only [List.setIfInBounds_toArray, List.set_cons_zero, List.set_cons_succ]
        refine takeYes (i := 8) (d := 25) (v := ?_) rfl rfl (by kernel_rfl) (by kernel_rfl) (by kernel_rfl) (fun _ _ _ h => h) (by rfl) (by assumption) ?_ ?_
        rotate_left
        · intro w' hSw; (try dsimp only at hSw); go_simp; try exact rfl
        try simp only [List.setIfInBounds_toArray, List.set_cons_zero, List.set_cons_succ]
        refine takeYes (i := 9) (d := 26) (v := ?_) rfl rfl (by kernel_rfl) (by kernel_rfl) (by kernel_rfl) (fun _ _ _ h => h) (by rfl) (by assumption) ?_ ?_
        rotate_left
        · intro w' hSw; (try dsimp only at hSw); go_simp; try exact rfl
        try simp only [List.setIfInBounds_toArray, List.set_cons_zero, List.set_cons_succ]
        refine takeYes (i := 10) (d := 27) (v := ?_) rfl rfl (by kernel_rfl) (by kernel_rfl) (by kernel_rfl) (fun _ _ _ h => h) (by rfl) (by assumption) ?_ ?_
        rotate_left
        · intro w' hSw; (try dsimp only at hSw); go_simp; try exact rfl
        try simp only [List.setIfInBounds_toArray, List.set_cons_zero, List.set_cons_succ]
        refine takeYes (i := 11) (d := 28) (v := ?_) rfl rfl (by kernel_rfl) (by kernel_rfl) (by kernel_rfl) (fun _ _ _ h => h) (by rfl) (by assumption) ?_ ?_
        rotate_left
        · intro w' hSw; (try dsimp only at hSw); go_simp; try exact rfl
        try simp only [List.setIfInBounds_toArray, List.set_cons_zero, List.set_cons_succ]
        refine takeNo (i := 12) (d := 29) rfl rfl (by kernel_rfl) (by kernel_rfl) (by kernel_rfl) (fun _ _ _ h => h) (by rfl) (by assumption) ?_
        try simp only [List.setIfInBounds_toArray, List.set_cons_zero, List.set_cons_succ]
        refine takeNo (i := 13) (d := 30) rfl rfl (by kernel_rfl) (by kernel_rfl) (by kernel_rfl) (fun _ _ _ h => h) (by rfl) (by assumption) ?_
        try simp only [List.setIfInBounds_toArray, List.set_cons_zero, List.set_cons_succ]
        refine wpAnyH_ready (rs := [14]) (by kernel_rfl) (by simp) ?_
        refine AllReadyH.cons rfl (fun K hK => ?_) AllReadyH.nil
        go_simp
        refine hK.out _ _ ?_ (fun hHeld14 => ?_)
        · (try dsimp only); refine ⟨?_, ?_, ?_, ?_⟩ <;> first | (go_simp; done) | (exact cell_later (by assumption) (by go_simp))
        clear hK
        refine takeNo (i := 15) (d := 32) rfl rfl (by kernel_rfl) (by kernel_rfl) (by kernel_rfl) (fun _ _ _ h => h) (by rfl) (by assumption) ?_
        try simp only [List.setIfInBounds_toArray, List.set_cons_zero, List.set_cons_succ]
        refine takeYes (i := 16) (d := 33) (v := ?_) rfl rfl (by kernel_rfl) (by kernel_rfl) (by kernel_rfl) (fun _ _ _ h => h) (by rfl) (by assumption) ?_ ?_
        rotate_left
        · intro w' hSw; (try dsimp only at hSw); go_simp; try exact rfl
        try simp only [List.setIfInBounds_toArray, List.set_cons_zero, List.set_cons_succ]
        refine takeYes (i := 17) (d := 34) (v := ?_) rfl rfl (by kernel_rfl) (by kernel_rfl) (by kernel_rfl) (fun _ _ _ h => h) (by rfl) (by assumption) ?_ ?_
        rotate_left
        · intro w' hSw; (try dsimp only at hSw); go_simp; try exact rfl
        try simp only [List.setIfInBounds_toArray, List.set_cons_zero, List.set_cons_succ]
        refine takeNo (i := 18) (d := 35) rfl rfl (by kernel_rfl) (by kernel_rfl) (by kernel_rfl) (fun _ _ _ h => h) (by rfl) (by assumption) ?_
        try simp only [List.setIfInBounds_toArray, List.set_cons_zero, List.set_cons_succ]
        refine takeNo (i := 19) (d := 36) rfl rfl (by kernel_rfl) (by kernel_rfl) (by kernel_rfl) (fun _ _ _ h => h) (by rfl) (by assumption) ?_
        try simp only [List.setIfInBounds_toArray, List.set_cons_zero, List.set_cons_succ]
        refine takeNo (i := 20) (d := 37) rfl rfl (by kernel_rfl) (by kernel_rfl) (by kernel_rfl) (fun _ _ _ h => h) (by rfl) (by assumption) ?_
        try simp only [List.setIfInBounds_toArray, List.set_cons_zero, List.set_cons_succ]
        refine takeNo (i := 21) (d := 38) rfl rfl (by kernel_rfl) (by kernel_rfl) (by kernel_rfl) (fun _ _ _ h => h) (by rfl) (by assumption) ?_
        try simp only [List.setIfInBounds_toArray, List.set_cons_zero, List.set_cons_succ]
        refine takeNo (i := 22) (d := 39) rfl rfl (by kernel_rfl) (by kernel_rfl) (by kernel_rfl) (fun _ _ _ h => h) (by rfl) (by assumption) ?_
        try simp only [List.setIfInBounds_toArray, List.set_cons_zero, List.set_cons_succ]
        refine takeNo (i := 23) (d := 40) rfl rfl (by kernel_rfl) (by kernel_rfl) (by kernel_rfl) (fun _ _ _ h => h) (by rfl) (by assumption) ?_
        try simp only [List.setIfInBounds_toArray, List.set_cons_zero, List.set_cons_succ]
        refine takeNo (i := 24) (d := 41) rfl rfl (by kernel_rfl) (by kernel_rfl) (by kernel_rfl) (fun _ _ _ h => h) (by rfl) (by assumption) ?_
        try simp only [List.setIfInBounds_toArray, List.set_cons_zero, List.set_cons_succ]
        refine takeNo (i := 25) (d := 42) rfl rfl (by kernel_rfl) (by kernel_rfl) (by kernel_rfl) (fun _ _ _ h => h) (by rfl) (by assumption) ?_
        try simp only [List.setIfInBounds_toArray, List.set_cons_zero, List.set_cons_succ]
        refine takeNo (i := 26) (d := 43) rfl rfl (by kernel_rfl) (by kernel_rfl) (by kernel_rfl) (fun _ _ _ h => h) (by rfl) (by assumption) ?_
        try simp only [List.setIfInBounds_toArray, List.set_cons_zero, List.set_cons_succ]
        refine takeNo (i := 27) (d := 44) rfl rfl (by kernel_rfl) (by kernel_rfl) (by kernel_rfl) (fun _ _ _ h => h) (by rfl) (by assumption) ?_
        try simp only [List.setIfInBounds_toArray, List.set_cons_zero, List.set_cons_succ]
        refine takeNo (i := 28) (d := 45) rfl rfl (by kernel_rfl) (by kernel_rfl) (by kernel_rfl) (fun _ _ _ h => h) (by rfl) (by assumption) ?_
        try simp only [List.setIfInBounds_toArray, List.set_cons_zero, List.set_cons_succ]
        refine takeNo (i := 29) (d := 46) rfl rfl (by kernel_rfl) (by kernel_rfl) (by kernel_rfl) (fun _ _ _ h => h) (by rfl) (by assumption) ?_
        try simp only [List.setIfInBounds_toArray, List.set_cons_zero, List.set_cons_succ]
        refine wpAnyH_ready (rs := [30]) (by kernel_rfl) (by simp) ?_
        refine AllReadyH.cons rfl (fun K hK => ?_) AllReadyH.nil
        go_simp
        refine hK.out _ _ ?_ (fun hHeld30 => ?_)
        · (try dsimp only); refine ⟨?_, ?_, ?_, ?_⟩ <;> first | (go_simp; done) | (exact cell_later (by assumption) (by go_simp))
        clear hK
        refine takeNo (i := 31) (d := 48) rfl rfl (by kernel_rfl) (by kernel_rfl) (by kernel_rfl) (fun _ _ _ h => h) (by rfl) (by assumption) ?_
        try simp only [List.setIfInBounds_toArray, List.set_cons_zero, List.set_cons_succ]
        refine takeNo (i := 32) (d := 49) rfl rfl (by kernel_rfl) (by kernel_rfl) (by kernel_rfl) (fun _ _ _ h => h) (by rfl) (by assumption) ?_
        try simp only [List.setIfInBounds_toArray, List.set_cons_zero, List.set_cons_succ]
        refine takeYes (i := 33) (d := 50) (v := ?_) rfl rfl (by kernel_rfl) (by kernel_rfl) (by kernel_rfl) (fun _ _ _ h => h) (by rfl) (by assumption) ?_ ?_
        rotate_left
        · intro w' hSw; (try dsimp only at hSw); go_simp; try exact rfl
        try simp only [List.setIfInBounds_toArray, List.set_cons_zero, List.set_cons_succ]
        refine wpAnyH_done (by kernel_rfl) ?_ _
        go_wp2
        go_returns
        refine ⟨ret_bool ?_, by repeat (first | exact Below.refl _ _ | refine Below.drew ?_ | refine Below.alloc ?_ (by first | (simp; done) | (simp; omega) | omega) _ | refine Below.setCell ?_ (by first | (simp; done) | (simp; omega) | omega) _ | refine bstep (by assumption) (by first | (simp; done) | (simp; omega) | omega) ?_)⟩
        unfold okBag
        rw [HE.out, HS.out, HN.out]
        simp
      have hn1 : (x.n == 0) = false := by simpa using hn0
      by_cases hcn : (decide (-1000000000 ≤ x.n) && decide (x.n ≤ 1000000000)) = true
      rotate_left
      · have HN : Hid (okN x.n = false) := okN_out hcn
        have hcf : (decide (-1000000000 ≤ x.n) && decide (x.n ≤ 1000000000)) = false := by simpa using hcn
        subst hq
        clear ha hw hL hx hn0 hcn
        go_wp2_with fail
        refine wp_region_held_drew (S := (fun w' => w'.cell? ⟨w.heap.size, 0, none⟩ = some (.int .i64 W) ∧ w'.cell? ⟨w.heap.size, 1, none⟩ = some (.slice (some ⟨b, o, none⟩) cs.length c) ∧ w'.cell? ⟨wr.heap.size, 0, none⟩ = some (.slice ur lr cr) ∧ w'.cell? ⟨wr.heap.size, 1, none⟩ = some (.int .i64 x.n))) (by kernel_rfl) ?_ (fun hHeld => ?_)
        · (try dsimp only); refine ⟨?_, ?_, ?_, ?_⟩ <;> first | (go_simp; done) | (exact cell_later (by assumption) (by go_simp))
        refine takeYes (i := 0) (d := 17) (v := ?_) rfl rfl (by kernel_rfl) (by kernel_rfl) (by kernel_rfl) (fun _ _ _ h => h) (by rfl) (by assumption) ?_ ?_
        rotate_left
        · intro w' hSw; (try dsimp only at hSw); go_simp; try exact rfl
        try simp only [List.setIfInBounds_toArray, List.set_cons_zero, List.set_cons_succ]
        refine takeYes (i := 1) (d := 18) (v := ?_) rfl rfl (by kernel_rfl) (by kernel_rfl) (by kernel_rfl) (fun _ _ _ h => h) (by rfl) (by assumption) ?_ ?_
        rotate_left
        · intro w' hSw; (try dsimp only at hSw); go_simp; try exact rfl
        try simp only [List.setIfInBounds_toArray, List.set_cons_zero, List.set_cons_succ]
        refine takeYes (i := 2) (d := 19) (v := ?_) rfl rfl (by kernel_rfl) (by kernel_rfl) (by kernel_rfl) (fun _ _ _ h => h) (by rfl) (by assumption) ?_ ?_
        rotate_left
        · intro w' hSw; (try dsimp only at hSw); go_simp; try exact rfl
        try simp only [List.setIfInBounds_toArray, List.set_cons_zero, List.set_cons_succ]
        refine takeYes (i := 3) (d := 20) (v := ?_) rfl rfl (by kernel_rfl) (by kernel_rfl) (by kernel_rfl) (fun _ _ _ h => h) (by rfl) (by assumption) ?_ ?_
        rotate_left
        · intro w' hSw; (try dsimp only at hSw); go_simp; try exact rfl
        try simp only [List.setIfInBounds_toArray, List.set_cons_zero, List.set_cons_succ]
        refine wpAnyH_ready (rs := [4]) (by kernel_rfl) (by simp) ?_
        refine AllReadyH.cons rfl (fun K hK => ?_) AllReadyH.nil
        go_simp
        go_at_call 33
        refine Calls.mono (l02Row_any (.slice ur lr cr) x.r W _ (hR.below (by repeat (first | exact Below.refl _ _ | refine Below.drew ?_ | refine Below.alloc ?_ (by first | (simp; done) | (simp; omega) | omega) _ | refine Below.setCell ?_ (by first | (simp; done) | (simp; omega) | omega) _ | refine bstep (by assumption) (by first | (simp; done) | (simp; omega) | omega) ?_))) hxw) ?_
        rintro e w1 ⟨rfl, hb1⟩
        have hz1 := hb1.size
        (try simp at hz1)
        try go_wp2_with fail
        refine hK.out _ _ ?_ (fun hHeld4 => ?_)
        · (try dsimp only); refine ⟨?_, ?_, ?_, ?_⟩ <;> first | (go_simp; done) | (exact cell_later (by assumption) (by go_simp))
        clear hK
        refine takeYes (i := 5) (d := 22) (v := ?_) rfl rfl (by kernel_rfl) (by kernel_rfl) (by kernel_rfl) (fun _ _ _ h => h) (by rfl) (by assumption) ?_ ?_
        rotate_left
        · intro w' hSw; (try dsimp only at hSw); go_simp; try exact rfl
        try simp only [List.setIfInBounds_toArray, List.set_cons_zero, List.set_cons_succ]
        refine takeYes (i := 6) (d := 23) (v := ?_) rfl rfl (by kernel_rfl) (by kernel_rfl) (by kernel_rfl) (fun _ _ _ h => h) (by rfl) (by assumption) ?_ ?_
        rotate_left
        · intro w' hSw; (try dsimp only at hSw); go_simp; try exact rfl
        try simp only [List.setIfInBounds_toArray, List.set_cons_zero, List.set_cons_succ]
        refine takeYes (i := 7) (d := 24) (v := ?_) rfl rfl (by kernel_rfl) (by kernel_rfl) (by kernel_rfl) (fun _ _ _ h => h) (by rfl) (by assumption) ?_ ?_
        rotate_left
        · intro w' hSw; (try dsimp only at hSw); go_simp; try exact rfl
        try simp only [List.setIfInBounds_toArray, List.set_cons_zero, List.set_cons_succ]
        refine takeYes (i := 8) (d := 25) (v := ?_) rfl rfl (by kernel_rfl) (by kernel_rfl) (by kernel_rfl) (fun _ _ _ h => h) (by rfl) (by assumption) ?_ ?_
        rotate_left
        · intro w' hSw; (try dsimp only at hSw); go_simp; try exact rfl
        try simp only [List.setIfInBounds_toArray, List.set_cons_zero, List.set_cons_succ]
        refine takeYes (i := 9) (d := 26) (v := ?_) rfl rfl (by kernel_rfl) (by kernel_rfl) (by kernel_rfl) (fun _ _ _ h => h) (by rfl) (by assumption) ?_ ?_
        rotate_left
        · intro w' hSw; (try dsimp only at hSw); go_simp; try exact rfl
        try simp only [List.setIfInBounds_toArray, List.set_cons_zero, List.set_cons_succ]
        refine takeYes (i := 10) (d := 27) (v := ?_) rfl rfl (by kernel_rfl) (by kernel_rfl) (by kernel_rfl) (fun _ _ _ h => h) (by rfl) (by assumption) ?_ ?_
        rotate_left
        · intro w' hSw; (try dsimp only at hSw); go_simp; try exact rfl
        try simp only [List.setIfInBounds_toArray, List.set_cons_zero, List.set_cons_succ]
        refine takeYes (i := 11) (d := 28) (v := ?_) rfl rfl (by kernel_rfl) (by kernel_rfl) (by kernel_rfl) (fun _ _ _ h => h) (by rfl) (by assumption) ?_ ?_
        rotate_left
        · intro w' hSw; (try dsimp only at hSw); go_simp; try exact rfl
        try simp only [List.setIfInBounds_toArray, List.set_cons_zero, List.set_cons_succ]
        refine takeYes (i := 12) (d := 29) (v := ?_) rfl rfl (by kernel_rfl) (by kernel_rfl) (by kernel_rfl) (fun _ _ _ h => h) (by rfl) (by assumption) ?_ ?_
        rotate_left
        · intro w' hSw; (try dsimp only at hSw); go_simp; try exact rfl
        try simp only [List.setIfInBounds_toArray, List.set_cons_zero, List.set_cons_succ]
        refine takeYes (i := 13) (d := 30) (v := ?_) rfl rfl (by kernel_rfl) (by kernel_rfl) (by kernel_rfl) (fun _ _ _ h => h) (by rfl) (by assumption) ?_ ?_
        rotate_left
        · intro w' hSw; (try dsimp only at hSw); go_simp; try exact rfl
        try simp only [List.setIfInBounds_toArray, List.set_cons_zero, List.set_cons_succ]
        refine wpAnyH_ready (rs := [14]) (by kernel_rfl) (by simp) ?_
        refine AllReadyH.cons rfl (fun K hK => ?_) AllReadyH.nil
        go_simp
        go_at_call 34
        refine Calls.mono (l01In_any x.n (-1000000000) 1000000000 _) ?_
        rintro e w2 ⟨rfl, hb2⟩
        have hz2 := hb2.size
        (try simp at hz2)
        try go_wp2_with fail
        refine hK.out _ _ ?_ (fun hHeld14 => ?_)
        · (try dsimp only); refine ⟨?_, ?_, ?_, ?_⟩ <;> first | (go_simp; done) | (exact cell_later (by assumption) (by go_simp))
        clear hK
        refine takeYes (i := 15) (d := 32) (v := ?_) rfl rfl (by kernel_rfl) (by kernel_rfl) (by kernel_rfl) (fun _ _ _ h => h) (by rfl) (by assumption) ?_ ?_
        rotate_left
        · intro w' hSw; (try dsimp only at hSw); go_simp; try exact rfl
        try simp only [List.setIfInBounds_toArray, List.set_cons_zero, List.set_cons_succ]
        refine takeYes (i := 16) (d := 33) (v := ?_) rfl rfl (by kernel_rfl) (by kernel_rfl) (by kernel_rfl) (fun _ _ _ h => h) (by rfl) (by assumption) ?_ ?_
        rotate_left
        · intro w' hSw; (try dsimp only at hSw); go_simp; try exact rfl
        try simp only [List.setIfInBounds_toArray, List.set_cons_zero, List.set_cons_succ]
        refine takeYes (i := 17) (d := 34) (v := ?_) rfl rfl (by kernel_rfl) (by kernel_rfl) (by kernel_rfl) (fun _ _ _ h => h) (by rfl) (by assumption) ?_ ?_
        rotate_left
        · intro w' hSw; (try dsimp only at hSw); go_simp; try exact rfl
        try simp only [List.setIfInBounds_toArray, List.set_cons_zero, List.set_cons_succ]
        refine takeNo (i := 18) (d := 35) rfl rfl (by kernel_rfl) (by kernel_rfl) (by kernel_rfl) (fun _ _ _ h => h) (by rfl) (by assumption) ?_
        try simp only [List.setIfInBounds_toArray, List.set_cons_zero, List.set_cons_succ]
        refine takeNo (i := 19) (d := 36) rfl rfl (by kernel_rfl) (by kernel_rfl) (by kernel_rfl) (fun _ _ _ h => h) (by rfl) (by assumption) ?_
        try simp only [List.setIfInBounds_toArray, List.set_cons_zero, List.set_cons_succ]
        refine takeNo (i := 20) (d := 37) rfl rfl (by kernel_rfl) (by kernel_rfl) (by kernel_rfl) (fun _ _ _ h => h) (by rfl) (by assumption) ?_
        try simp only [List.setIfInBounds_toArray, List.set_cons_zero, List.set_cons_succ]
        refine takeNo (i := 21) (d := 38) rfl rfl (by kernel_rfl) (by kernel_rfl) (by kernel_rfl) (fun _ _ _ h => h) (by rfl) (by assumption) ?_
        try simp only [List.setIfInBounds_toArray, List.set_cons_zero, List.set_cons_succ]
        refine takeNo (i := 22) (d := 39) rfl rfl (by kernel_rfl) (by kernel_rfl) (by kernel_rfl) (fun _ _ _ h => h) (by rfl) (by assumption) ?_
        try simp only [List.setIfInBounds_toArray, List.set_cons_zero, List.set_cons_succ]
        refine takeNo (i := 23) (d := 40) rfl rfl (by kernel_rfl) (by kernel_rfl) (by kernel_rfl) (fun _ _ _ h => h) (by rfl) (by assumption) ?_
        try simp only [List.setIfInBounds_toArray, List.set_cons_zero, List.set_cons_succ]
        refine takeNo (i := 24) (d := 41) rfl rfl (by kernel_rfl) (by kernel_rfl) (by kernel_rfl) (fun _ _ _ h => h) (by rfl) (by assumption) ?_
        try simp only [List.setIfInBounds_toArray, List.set_cons_zero, List.set_cons_succ]
        refine takeNo (i := 25) (d := 42) rfl rfl (by kernel_rfl) (by kernel_rfl) (by kernel_rfl) (fun _ _ _ h => h) (by rfl) (by assumption) ?_
        try simp only [List.setIfInBounds_toArray, List.set_cons_zero, List.set_cons_succ]
        refine takeNo (i := 26) (d := 43) rfl rfl (by kernel_rfl) (by kernel_rfl) (by kernel_rfl) (fun _ _ _ h => h) (by rfl) (by assumption) ?_
        try simp only [List.setIfInBounds_toArray, List.set_cons_zero, List.set_cons_succ]
        refine takeNo (i := 27) (d := 44) rfl rfl (by kernel_rfl) (by kernel_rfl) (by kernel_rfl) (fun _ _ _ h => h) (by rfl) (by assumption) ?_
        try simp only [List.setIfInBounds_toArray, List.set_cons_zero, List.set_cons_succ]
        refine takeNo (i := 28) (d := 45) rfl rfl (by kernel_rfl) (by kernel_rfl) (by kernel_rfl) (fun _ _ _ h => h) (by rfl) (by assumption) ?_
        try simp only [List.setIfInBounds_toArray, List.set_cons_zero, List.set_cons_succ]
        refine takeNo (i := 29) (d := 46) rfl rfl (by kernel_rfl) (by kernel_rfl) (by kernel_rfl) (fun _ _ _ h => h) (by rfl) (by assumption) ?_
        try simp only [List.setIfInBounds_toArray, List.set_cons_zero, List.set_cons_succ]
        refine wpAnyH_ready (rs := [30]) (by kernel_rfl) (by simp) ?_
        refine AllReadyH.cons rfl (fun K hK => ?_) AllReadyH.nil
        go_simp
        refine hK.out _ _ ?_ (fun hHeld30 => ?_)
        · (try dsimp only); refine ⟨?_, ?_, ?_, ?_⟩ <;> first | (go_simp; done) | (exact cell_later (by assumption) (by go_simp))
        clear hK
        refine takeNo (i := 31) (d := 48) rfl rfl (by kernel_rfl) (by kernel_rfl) (by kernel_rfl) (fun _ _ _ h => h) (by rfl) (by assumption) ?_
        try simp only [List.setIfInBounds_toArray, List.set_cons_zero, List.set_cons_succ]
        refine takeNo (i := 32) (d := 49) rfl rfl (by kernel_rfl) (by kernel_rfl) (by kernel_rfl) (fun _ _ _ h => h) (by rfl) (by assumption) ?_
        try simp only [List.setIfInBounds_toArray, List.set_cons_zero, List.set_cons_succ]
        refine takeYes (i := 33) (d := 50) (v := ?_) rfl rfl (by kernel_rfl) (by kernel_rfl) (by kernel_rfl) (fun _ _ _ h => h) (by rfl) (by assumption) ?_ ?_
        rotate_left
        · intro w' hSw; (try dsimp only at hSw); go_simp; try exact rfl
        try simp only [List.setIfInBounds_toArray, List.set_cons_zero, List.set_cons_succ]
        refine wpAnyH_done (by kernel_rfl) ?_ _
        go_wp2
        go_returns
        refine ⟨ret_bool ?_, by repeat (first | exact Below.refl _ _ | refine Below.drew ?_ | refine Below.alloc ?_ (by first | (simp; done) | (simp; omega) | omega) _ | refine Below.setCell ?_ (by first | (simp; done) | (simp; omega) | omega) _ | refine bstep (by assumption) (by first | (simp; done) | (simp; omega) | omega) ?_)⟩
        unfold okBag
        rw [HE.out, HS.out, HN.out]
        simp
      have HN : Hid (okN x.n = true) := okN_in hn0 hcn
      clear hn0
      rcases Nat.eq_zero_or_pos k with hk0 | hk0
      · subst hk0
        obtain rfl : q = 0 := by simpa using hq
        rw [Nat.zero_mul, Nat.add_zero] at c0
        rw [Nat.zero_mul, Nat.add_zero] at c1
        clear ha hw hL hx hq
        go_wp2_with fail
        refine wp_region_held_drew (S := (fun w' => w'.cell? ⟨w.heap.size, 0, none⟩ = some (.int .i64 W) ∧ w'.cell? ⟨w.heap.size, 1, none⟩ = some (.slice (some ⟨b, o, none⟩) cs.length c) ∧ w'.cell? ⟨wr.heap.size, 0, none⟩ = some (.slice ur lr cr) ∧ w'.cell? ⟨wr.heap.size, 1, none⟩ = some (.int .i64 x.n))) (by kernel_rfl) ?_ (fun hHeld => ?_)
        · (try dsimp only); refine ⟨?_, ?_, ?_, ?_⟩ <;> first | (go_simp; done) | (exact cell_later (by assumption) (by go_simp))
        refine takeYes (i := 0) (d := 17) (v := ?_) rfl rfl (by kernel_rfl) (by kernel_rfl) (by kernel_rfl) (fun _ _ _ h => h) (by rfl) (by assumption) ?_ ?_
        rotate_left
        · intro w' hSw; (try dsimp only at hSw); go_simp; try exact rfl
        try simp only [List.setIfInBounds_toArray, List.set_cons_zero, List.set_cons_succ]
        refine takeYes (i := 1) (d := 18) (v := ?_) rfl rfl (by kernel_rfl) (by kernel_rfl) (by kernel_rfl) (fun _ _ _ h => h) (by rfl) (by assumption) ?_ ?_
        rotate_left
        · intro w' hSw; (try dsimp only at hSw); go_simp; try exact rfl
        try simp only [List.setIfInBounds_toArray, List.set_cons_zero, List.set_cons_succ]
        refine takeYes (i := 2) (d := 19) (v := ?_) rfl rfl (by kernel_rfl) (by kernel_rfl) (by kernel_rfl) (fun _ _ _ h => h) (by rfl) (by assumption) ?_ ?_
        rotate_left
        · intro w' hSw; (try dsimp only at hSw); go_simp; try exact rfl
        try simp only [List.setIfInBounds_toArray, List.set_cons_zero, List.set_cons_succ]
        refine takeYes (i := 3) (d := 20) (v := ?_) rfl rfl (by kernel_rfl) (by kernel_rfl) (by kernel_rfl) (fun _ _ _ h => h) (by rfl) (by assumption) ?_ ?_
        rotate_left
        · intro w' hSw; (try dsimp only at hSw); go_simp; try exact rfl
        try simp only [List.setIfInBounds_toArray, List.set_cons_zero, List.set_cons_succ]
        refine wpAnyH_ready (rs := [4]) (by kernel_rfl) (by simp) ?_
        refine AllReadyH.cons rfl (fun K hK => ?_) AllReadyH.nil
        go_simp
        go_at_call 33
        refine Calls.mono (l02Row_any (.slice ur lr cr) x.r W _ (hR.below (by repeat (first | exact Below.refl _ _ | refine Below.drew ?_ | refine Below.alloc ?_ (by first | (simp; done) | (simp; omega) | omega) _ | refine Below.setCell ?_ (by first | (simp; done) | (simp; omega) | omega) _ | refine bstep (by assumption) (by first | (simp; done) | (simp; omega) | omega) ?_))) hxw) ?_
        rintro e w1 ⟨rfl, hb1⟩
        have hz1 := hb1.size
        (try simp at hz1)
        try go_wp2_with fail
        refine hK.out _ _ ?_ (fun hHeld4 => ?_)
        · (try dsimp only); refine ⟨?_, ?_, ?_, ?_⟩ <;> first | (go_simp; done) | (exact cell_later (by assumption) (by go_simp))
        clear hK
        refine takeYes (i := 5) (d := 22) (v := ?_) rfl rfl (by kernel_rfl) (by kernel_rfl) (by kernel_rfl) (fun _ _ _ h => h) (by rfl) (by assumption) ?_ ?_
        rotate_left
        · intro w' hSw; (try dsimp only at hSw); go_simp; try exact rfl
        try simp only [List.setIfInBounds_toArray, List.set_cons_zero, List.set_cons_succ]
        refine takeYes (i := 6) (d := 23) (v := ?_) rfl rfl (by kernel_rfl) (by kernel_rfl) (by kernel_rfl) (fun _ _ _ h => h) (by rfl) (by assumption) ?_ ?_
        rotate_left
        · intro w' hSw; (try dsimp only at hSw); go_simp; try exact rfl
        try simp only [List.setIfInBounds_toArray, List.set_cons_zero, List.set_cons_succ]
        refine takeYes (i := 7) (d := 24) (v := ?_) rfl rfl (by kernel_rfl) (by kernel_rfl) (by kernel_rfl) (fun _ _ _ h => h) (by rfl) (by assumption) ?_ ?_
        rotate_left
        · intro w' hSw; (try dsimp only at hSw); go_simp; try exact rfl
        try simp only [List.setIfInBounds_toArray, List.set_cons_zero, List.set_cons_succ]
        refine takeYes (i := 8) (d := 25) (v := ?_) rfl rfl (by kernel_rfl) (by kernel_rfl) (by kernel_rfl) (fun _ _ _ h => h) (by rfl) (by assumption) ?_ ?_
        rotate_left
        · intro w' hSw; (try dsimp only at hSw); go_simp; try exact rfl
        try simp only [List.setIfInBounds_toArray, List.set_cons_zero, List.set_cons_succ]
        refine takeYes (i := 9) (d := 26) (v := ?_) rfl rfl (by kernel_rfl) (by kernel_rfl) (by kernel_rfl) (fun _ _ _ h => h) (by rfl) (by assumption) ?_ ?_
        rotate_left
        · intro w' hSw; (try dsimp only at hSw); go_simp; try exact rfl
        try simp only [List.setIfInBounds_toArray, List.set_cons_zero, List.set_cons_succ]
        refine takeYes (i := 10) (d := 27) (v := ?_) rfl rfl (by kernel_rfl) (by kernel_rfl) (by kernel_rfl) (fun _ _ _ h => h) (by rfl) (by assumption) ?_ ?_
        rotate_left
        · intro w' hSw; (try dsimp only at hSw); go_simp; try exact rfl
        try simp only [List.setIfInBounds_toArray, List.set_cons_zero, List.set_cons_succ]
        refine takeYes (i := 11) (d := 28) (v := ?_) rfl rfl (by kernel_rfl) (by kernel_rfl) (by kernel_rfl) (fun _ _ _ h => h) (by rfl) (by assumption) ?_ ?_
        rotate_left
        · intro w' hSw; (try dsimp only at hSw); go_simp; try exact rfl
        try simp only [List.setIfInBounds_toArray, List.set_cons_zero, List.set_cons_succ]
        refine takeYes (i := 12) (d := 29) (v := ?_) rfl rfl (by kernel_rfl) (by kernel_rfl) (by kernel_rfl) (fun _ _ _ h => h) (by rfl) (by assumption) ?_ ?_
        rotate_left
        · intro w' hSw; (try dsimp only at hSw); go_simp; try exact rfl
        try simp only [List.setIfInBounds_toArray, List.set_cons_zero, List.set_cons_succ]
        refine takeYes (i := 13) (d := 30) (v := ?_) rfl rfl (by kernel_rfl) (by kernel_rfl) (by kernel_rfl) (fun _ _ _ h => h) (by rfl) (by assumption) ?_ ?_
        rotate_left
        · intro w' hSw; (try dsimp only at hSw); go_simp; try exact rfl
        try simp only [List.setIfInBounds_toArray, List.set_cons_zero, List.set_cons_succ]
        refine wpAnyH_ready (rs := [14]) (by kernel_rfl) (by simp) ?_
        refine AllReadyH.cons rfl (fun K hK => ?_) AllReadyH.nil
        go_simp
        go_at_call 34
        refine Calls.mono (l01In_any x.n (-1000000000) 1000000000 _) ?_
        rintro e w2 ⟨rfl, hb2⟩
        have hz2 := hb2.size
        (try simp at hz2)
        try go_wp2_with fail
        refine hK.out _ _ ?_ (fun hHeld14 => ?_)
        · (try dsimp only); refine ⟨?_, ?_, ?_, ?_⟩ <;> first | (go_simp; done) | (exact cell_later (by assumption) (by go_simp))
        clear hK
        refine takeYes (i := 15) (d := 32) (v := ?_) rfl rfl (by kernel_rfl) (by kernel_rfl) (by kernel_rfl) (fun _ _ _ h => h) (by rfl) (by assumption) ?_ ?_
        rotate_left
        · intro w' hSw; (try dsimp only at hSw); go_simp; try exact rfl
        try simp only [List.setIfInBounds_toArray, List.set_cons_zero, List.set_cons_succ]
        refine takeYes (i := 16) (d := 33) (v := ?_) rfl rfl (by kernel_rfl) (by kernel_rfl) (by kernel_rfl) (fun _ _ _ h => h) (by rfl) (by assumption) ?_ ?_
        rotate_left
        · intro w' hSw; (try dsimp only at hSw); go_simp; try exact rfl
        try simp only [List.setIfInBounds_toArray, List.set_cons_zero, List.set_cons_succ]
        refine takeYes (i := 17) (d := 34) (v := ?_) rfl rfl (by kernel_rfl) (by kernel_rfl) (by kernel_rfl) (fun _ _ _ h => h) (by rfl) (by assumption) ?_ ?_
        rotate_left
        · intro w' hSw; (try dsimp only at hSw); go_simp; try exact rfl
        try simp only [List.setIfInBounds_toArray, List.set_cons_zero, List.set_cons_succ]
        refine takeYes (i := 18) (d := 35) (v := ?_) rfl rfl (by kernel_rfl) (by kernel_rfl) (by kernel_rfl) (fun _ _ _ h => h) (by rfl) (by assumption) ?_ ?_
        rotate_left
        · intro w' hSw; (try dsimp only at hSw); go_simp; try exact rfl
        try simp only [List.setIfInBounds_toArray, List.set_cons_zero, List.set_cons_succ]
        refine takeYes (i := 19) (d := 36) (v := ?_) rfl rfl (by kernel_rfl) (by kernel_rfl) (by kernel_rfl) (fun _ _ _ h => h) (by rfl) (by assumption) ?_ ?_
        rotate_left
        · intro w' hSw; (try dsimp only at hSw); go_simp; try exact rfl
        try simp only [List.setIfInBounds_toArray, List.set_cons_zero, List.set_cons_succ]
        refine takeYes (i := 20) (d := 37) (v := ?_) rfl rfl (by kernel_rfl) (by kernel_rfl) (by kernel_rfl) (fun _ _ _ h => h) (by rfl) (by assumption) ?_ ?_
        rotate_left
        · intro w' hSw; (try dsimp only at hSw); go_simp; try exact rfl
        try simp only [List.setIfInBounds_toArray, List.set_cons_zero, List.set_cons_succ]
        refine takeNo (i := 21) (d := 38) rfl rfl (by kernel_rfl) (by kernel_rfl) (by kernel_rfl) (fun _ _ _ h => h) (by rfl) (by assumption) ?_
        try simp only [List.setIfInBounds_toArray, List.set_cons_zero, List.set_cons_succ]
        refine takeNo (i := 22) (d := 39) rfl rfl (by kernel_rfl) (by kernel_rfl) (by kernel_rfl) (fun _ _ _ h => h) (by rfl) (by assumption) ?_
        try simp only [List.setIfInBounds_toArray, List.set_cons_zero, List.set_cons_succ]
        refine takeNo (i := 23) (d := 40) rfl rfl (by kernel_rfl) (by kernel_rfl) (by kernel_rfl) (fun _ _ _ h => h) (by rfl) (by assumption) ?_
        try simp only [List.setIfInBounds_toArray, List.set_cons_zero, List.set_cons_succ]
        refine takeNo (i := 24) (d := 41) rfl rfl (by kernel_rfl) (by kernel_rfl) (by kernel_rfl) (fun _ _ _ h => h) (by rfl) (by assumption) ?_
        try simp only [List.setIfInBounds_toArray, List.set_cons_zero, List.set_cons_succ]
        refine takeNo (i := 25) (d := 42) rfl rfl (by kernel_rfl) (by kernel_rfl) (by kernel_rfl) (fun _ _ _ h => h) (by rfl) (by assumption) ?_
        try simp only [List.setIfInBounds_toArray, List.set_cons_zero, List.set_cons_succ]
        refine takeNo (i := 26) (d := 43) rfl rfl (by kernel_rfl) (by kernel_rfl) (by kernel_rfl) (fun _ _ _ h => h) (by rfl) (by assumption) ?_
        try simp only [List.setIfInBounds_toArray, List.set_cons_zero, List.set_cons_succ]
        refine takeNo (i := 27) (d := 44) rfl rfl (by kernel_rfl) (by kernel_rfl) (by kernel_rfl) (fun _ _ _ h => h) (by rfl) (by assumption) ?_
        try simp only [List.setIfInBounds_toArray, List.set_cons_zero, List.set_cons_succ]
        refine takeNo (i := 28) (d := 45) rfl rfl (by kernel_rfl) (by kernel_rfl) (by kernel_rfl) (fun _ _ _ h => h) (by rfl) (by assumption) ?_
        try simp only [List.setIfInBounds_toArray, List.set_cons_zero, List.set_cons_succ]
        refine takeNo (i := 29) (d := 46) rfl rfl (by kernel_rfl) (by kernel_rfl) (by kernel_rfl) (fun _ _ _ h => h) (by rfl) (by assumption) ?_
        try simp only [List.setIfInBounds_toArray, List.set_cons_zero, List.set_cons_succ]
        refine wpAnyH_ready (rs := [30]) (by kernel_rfl) (by simp) ?_
        refine AllReadyH.cons rfl (fun K hK => ?_) AllReadyH.nil
        go_simp
        refine hK.out _ _ ?_ (fun hHeld30 => ?_)
        · (try dsimp only); refine ⟨?_, ?_, ?_, ?_⟩ <;> first | (go_simp; done) | (exact cell_later (by assumption) (by go_simp))
        clear hK
        refine takeNo (i := 31) (d := 48) rfl rfl (by kernel_rfl) (by kernel_rfl) (by kernel_rfl) (fun _ _ _ h => h) (by rfl) (by assumption) ?_
        try simp only [List.setIfInBounds_toArray, List.set_cons_zero, List.set_cons_succ]
        refine takeYes (i := 32) (d := 49) (v := ?_) rfl rfl (by kernel_rfl) (by kernel_rfl) (by kernel_rfl) (fun _ _ _ h => h) (by rfl) (by assumption) ?_ ?_
        rotate_left
        · intro w' hSw; (try dsimp only at hSw); go_simp; try exact rfl
        try simp only [List.setIfInBounds_toArray, List.set_cons_zero, List.set_cons_succ]
        refine takeYes (i := 33) (d := 50) (v := ?_) rfl rfl (by kernel_rfl) (by kernel_rfl) (by kernel_rfl) (fun _ _ _ h => h) (by rfl) (by assumption) ?_ ?_
        rotate_left
        · intro w' hSw; (try dsimp only at hSw); go_simp; try exact rfl
        try simp only [List.setIfInBounds_toArray, List.set_cons_zero, List.set_cons_succ]
        refine wpAnyH_done (by kernel_rfl) ?_ _
        obtain ⟨r0, r1, _⟩ := hHeld30
        go_wp2
        go_roundw
        case rel =>
          refine ⟨1, 1, hlt, rfl, by simp, by repeat (first | exact Below.refl _ _ | refine Below.drew ?_ | refine Below.alloc ?_ (by first | (simp; done) | (simp; omega) | omega) _ | refine Below.setCell ?_ (by first | (simp; done) | (simp; omega) | omega) _ | refine bstep (by assumption) (by first | (simp; done) | (simp; omega) | omega) ?_), by (first | omega | (simp; omega)), r0, r1, ?_⟩
          rw [HE.out, HS.out, hok, HN.out, prev_zero]
          simp [okPrev]
        case measure => simp [intOf]; omega
      · obtain ⟨j, rfl⟩ : ∃ j, k = j + 1 := ⟨k - 1, by omega⟩
        obtain rfl : q = (j : Int) + 1 := by omega
        obtain ⟨y, t, hy, d0, hT, d1, _⟩ := hL.at hblt hb (show j < cs.length by omega)
        have HP : Hid (prev cs (j + 1) = some y) := prev_succ hy
        have HQ : Hid (okPrev (prev cs (j + 1)) x = decide (cmpRow y.r x.r < 0)) := by rw [HP.out]; rfl
        have hw1 : IntKind.i64.wrap (j : Int) = j := by rw [IntKind.wrap_i64]; omega
        have hw2 : IntKind.i64.wrap ((j : Int) + 1 - 1) = j := by rw [IntKind.wrap_i64]; omega
        have hi0 : (0 : Int) ≤ j := by omega
        have hi1 : (j : Int) < cs.length := by omega
        have hi2 : (0 : Int) < (j : Int) + 1 := by omega
        clear ha hw hL hx hy hq
        go_wp2_with fail
        go_region_held3 (fun w' => w'.cell? ⟨w.heap.size, 0, none⟩ = some (.int .i64 W) ∧ w'.cell? ⟨w.heap.size, 1, none⟩ = some (.slice (some ⟨b, o, none⟩) cs.length c) ∧ w'.cell? ⟨wr.heap.size, 0, none⟩ = some (.slice ur lr cr) ∧ w'.cell? ⟨wr.heap.size, 1, none⟩ = some (.int .i64 x.n) ∧ w'.cell? ⟨b, o + j * 2, none⟩ = some t) (refine ⟨?_, ?_, ?_, ?_, ?_⟩ <;> first | (go_simp; done) | (exact cell_later (by assumption) (by go_simp))) (first | (go_at_call 33; refine Calls.mono (l02Row_any (.slice ur lr cr) x.r W _ (hR.below (by repeat (first | exact Below.refl _ _ | refine Below.drew ?_ | refine Below.alloc ?_ (by first | (simp; done) | (simp; omega) | omega) _ | refine Below.setCell ?_ (by first | (simp; done) | (simp; omega) | omega) _ | refine bstep (by assumption) (by first | (simp; done) | (simp; omega) | omega) ?_))) hxw) ?_; rintro e w1 ⟨rfl, hb1⟩; have hz1 := hb1.size; (try simp at hz1)) | (go_at_call 34; refine Calls.mono (l01In_any x.n (-1000000000) 1000000000 _) ?_; rintro e w2 ⟨rfl, hb2⟩; have hz2 := hb2.size; (try simp at hz2)) | (go_at_call 35; refine Calls.mono (specRow_any t (.slice ur lr cr) y.r x.r _ (hT.below (by repeat (first | exact Below.refl _ _ | refine Below.drew ?_ | refine Below.alloc ?_ (by first | (simp; done) | (simp; omega) | omega) _ | refine Below.setCell ?_ (by first | (simp; done) | (simp; omega) | omega) _ | refine bstep (by assumption) (by first | (simp; done) | (simp; omega) | omega) ?_))) (hR.below (by repeat (first | exact Below.refl _ _ | refine Below.drew ?_ | refine Below.alloc ?_ (by first | (simp; done) | (simp; omega) | omega) _ | refine Below.setCell ?_ (by first | (simp; done) | (simp; omega) | omega) _ | refine bstep (by assumption) (by first | (simp; done) | (simp; omega) | omega) ?_)))) ?_; rintro e w3 ⟨rfl, hb3⟩; have hz3 := hb3.size; (try simp at hz3)))
        rename_i hHeld
        obtain ⟨r0, r1, _⟩ := hHeld
        by_cases hcmp : 0 ≤ cmpRow y.r x.r
        · go_wp2
          go_returns
          refine ⟨ret_bool ?_, by repeat (first | exact Below.refl _ _ | refine Below.drew ?_ | refine Below.alloc ?_ (by first | (simp; done) | (simp; omega) | omega) _ | refine Below.setCell ?_ (by first | (simp; done) | (simp; omega) | omega) _ | refine bstep (by assumption) (by first | (simp; done) | (simp; omega) | omega) ?_)⟩
          unfold okBag
          rw [HE.out, HS.out, HQ.out]
          simp [show ¬ cmpRow y.r x.r < 0 from by omega]
        · go_wp2
          go_roundw
          case rel =>
            refine ⟨j + 1 + 1, (j : Int) + 1 + 1, hlt, by omega, by simp, by repeat (first | exact Below.refl _ _ | refine Below.drew ?_ | refine Below.alloc ?_ (by first | (simp; done) | (simp; omega) | omega) _ | refine Below.setCell ?_ (by first | (simp; done) | (simp; omega) | omega) _ | refine bstep (by assumption) (by first | (simp; done) | (simp; omega) | omega) ?_), by (first | omega | (simp; omega)), r0, r1, ?_⟩
            rw [HE.out, HS.out, HQ.out, hok, HN.out]
            simp [show cmpRow y.r x.r < 0 from by omega]
          case measure => simp [intOf]; omega
    · have HN : Hid (okCs W none cs = true) := by rw [HE.out, List.drop_eq_nil_of_le (by omega)]; exact rfl
      clear ha hw
      by_cases h0 : (decide (0 ≤ W) && decide (W ≤ 12)) = true
      · go_wp2_with (first | (go_at_call 34; refine Calls.mono (l01In_any W 0 12 _) ?_; rintro e w1 ⟨rfl, hb1⟩; have hz1 := hb1.size; have r1 : w1.cell? ⟨w.heap.size, 1, none⟩ = some (.slice a cs.length c) := cell_later hb1 (by go_simp)) | fail)
        all_goals go_returns
        all_goals refine ⟨ret_bool ?_, by repeat (first | exact Below.refl _ _ | refine Below.drew ?_ | refine Below.alloc ?_ (by first | (simp; done) | (simp; omega) | omega) _ | refine Below.setCell ?_ (by first | (simp; done) | (simp; omega) | omega) _ | refine bstep (by assumption) (by first | (simp; done) | (simp; omega) | omega) ?_)⟩
        all_goals (unfold okBag; rw [HN.out, h0, Bool.and_true, Bool.true_and])
        all_goals first | rfl | (simp; try omega)
      · go_wp2_with (first | (go_at_call 34; refine Calls.mono (l01In_any W 0 12 _) ?_; rintro e w1 ⟨rfl, hb1⟩; have hz1 := hb1.size; have r1 : w1.cell? ⟨w.heap.size, 1, none⟩ = some (.slice a cs.length c) := cell_later hb1 (by go_simp)) | fail)
        all_goals go_returns
        all_goals refine ⟨ret_bool ?_, by repeat (first | exact Below.refl _ _ | refine Below.drew ?_ | refine Below.alloc ?_ (by first | (simp; done) | (simp; omega) | omega) _ | refine Below.setCell ?_ (by first | (simp; done) | (simp; omega) | omega) _ | refine bstep (by assumption) (by first | (simp; done) | (simp; omega) | omega) ?_)⟩
        all_goals (unfold okBag; rw [show (decide (0 ≤ W) && decide (W ≤ 12)) = false from by simpa using h0, Bool.false_and, Bool.false_and])
        all_goals first | rfl | (simp_all; try omega)
end Go.Proofs.YtiaafgmjigbjlaaGreatDoor
/- Own text. (The words alone.) The bytes of a bag (bagN), and the contract of impl.PutBag. -/
namespace Go.Proofs.YtiaafgmjigbjlaaGreatDoor
open Go.RowKit
set_option linter.unusedVariables false
/-- the numbers of a text's bytes. -/
def nb (l : List UInt8) : List Int := l.map fun b => (b.toNat : Int)
/-- the numbers of the bytes of counted rows. -/
def csN (cs : List C2) : List Int := cs.flatMap fun x => numL x.n 8 ++ nb (rowU x.r)
/-- the numbers of the bytes of a bag. -/
def bagN (W : Int) (cs : List C2) : List Int := W :: csN cs
/-- the bytes of a bag; the empty text where it is none. -/
def putB (W : Int) (cs : List C2) : ByteArray := if okBag W cs = true then strOfNums (bagN W cs) else ⟨#[]⟩
theorem csN_take {cs : List C2} {k : Nat} {x : C2} (h : cs[k]? = some x) : csN (cs.take (k + 1)) = csN (cs.take k) ++ (numL x.n 8 ++ nb (rowU x.r)) := by
  obtain ⟨hk, rfl⟩ := List.getElem?_eq_some_iff.1 h
  unfold csN
  rw [List.take_succ_eq_append_getElem hk, List.flatMap_append]
  simp
theorem nb_len (l : List UInt8) : (nb l).length = l.length := by simp [nb]
theorem nb_cells (l : List UInt8) : (nb l).map (Value.int .u8) = Lib.byteCells l := by simp [nb, Lib.byteCells, List.map_map]
theorem okCs_mem {W : Int} : ∀ {cs : List C2} {p : Option C2}, okCs W p cs = true → ∀ x ∈ cs, okRow x.r W = true
  | [], _, _, x, hx => by cases hx
  | y :: ys, p, h, x, hx => by
    simp only [okCs, Bool.and_eq_true] at h
    rcases List.mem_cons.1 hx with rfl | hx
    · exact h.1.1.1
    · exact okCs_mem h.2 x hx
theorem okBag_facts {W : Int} {cs : List C2} (h : okBag W cs = true) : 0 ≤ W ∧ W ≤ 12 ∧ cs.length ≤ 400 ∧ ∀ x ∈ cs, x.r.length ≤ 12 := by
  simp only [okBag, Bool.and_eq_true, decide_eq_true_eq] at h
  obtain ⟨⟨⟨h0, h1⟩, h2⟩, h3⟩ := h
  refine ⟨h0, h1, h2, fun x hx => ?_⟩
  have := okCs_mem h3 x hx
  simp only [okRow, Bool.and_eq_true, decide_eq_true_eq] at this
  omega
theorem csN_len {cs : List C2} (h : ∀ x ∈ cs, x.r.length ≤ 12) : (csN cs).length ≤ 1233 * cs.length := by
  induction cs with
  | nil => simp [csN]
  | cons x xs ih =>
    have e : csN (x :: xs) = (numL x.n 8 ++ nb (rowU x.r)) ++ csN xs := by unfold csN; rw [List.flatMap_cons]
    have h1 := ih fun y hy => h y (List.mem_cons_of_mem _ hy)
    have h2 := rowU_len x.r
    have h3 := h x List.mem_cons_self
    rw [e, List.length_append, List.length_append, numL_len, nb_len, List.length_cons]
    omega
theorem own_below {w w' : World} {B e n : Nat} {v : Value} {xs : List Value} (h : w.ownsRow B e 1 v n xs) (hb : Below w.heap.size w w') : w'.ownsRow B e 1 v n xs := by
  refine ⟨h.1, ?_⟩
  rcases h.2 with hn | ⟨g, cap, cur, hv, hg, hc, rest⟩
  · exact .inl hn
  · have hgl : g < w.heap.size := by
      rcases Nat.lt_or_ge g w.heap.size with h' | h'
      · exact h'
      · simp [Array.getElem?_eq_none h'] at hc
    exact .inr ⟨g, cap, cur, hv, hg, (hb.block g hgl).trans hc, rest⟩
theorem own_eq {w : World} {B e n n' : Nat} {v : Value} {xs xs' : List Value} (h : w.ownsRow B e 1 v n xs) (hn : n = n') (hx : xs = xs') : w.ownsRow B e 1 v n' xs' := by subst hn hx; exact h
theorem own_cells {w : World} {B n : Nat} {v : Value} {x : Value} {xs : List Value} (h : w.ownsRow B 5 1 v (n + 1) (x :: xs)) :
    ∃ g cap, v = .slice (some ⟨g, 0, none⟩) (n + 1) cap ∧ ∀ (q : Nat) (u : Value), (x :: xs)[q]? = some u → w.cell? ((⟨g, 0, none⟩ : Addr).add q) = some u := by
  obtain ⟨hl, h⟩ := h
  rcases h with ⟨_, h0⟩ | ⟨g, cap, cur, hv, hg, hc, hn, hm, hs, ht⟩
  · omega
  · refine ⟨g, cap, hv, fun q u hq => ?_⟩
    have hq' : (cur.toList.take ((n + 1) * 1))[q]? = some u := by rw [ht]; exact hq
    rw [List.getElem?_take] at hq'
    split at hq'
    · have : ((⟨g, 0, none⟩ : Addr).add q) = ⟨g, q, none⟩ := by unfold Addr.add; split <;> simp_all
      rw [this]
      simp only [World.cell?, hc]
      simpa using hq'
    · cases hq'
end Go.Proofs.YtiaafgmjigbjlaaGreatDoor
/- Own text. The contract of spec.PutBag. -/
namespace Go.Proofs.YtiaafgmjigbjlaaGreatDoor
open Go.RowKit
set_option linter.unusedVariables false
theorem numL_byte {n : Int} {j : Nat} {y : Int} (h : y ∈ numL n j) : 0 ≤ y ∧ y < 256 := by
  unfold numL at h
  rcases List.mem_cons.1 h with rfl | h
  · omega
  · obtain ⟨q, _, rfl⟩ := List.mem_map.1 h
    unfold numB
    omega
theorem cells_numL (n : Int) : Lib.strCells (strOfNums (numL n 8)) = (numL n 8).map (Value.int .u8) := by
  unfold Lib.strCells
  rw [strOfNums_data, List.map_map]
  refine List.map_congr_left fun y hy => ?_
  obtain ⟨h0, h1⟩ := numL_byte hy
  simp only [Function.comp]
  congr 1
  rw [UInt8.toNat_ofNat']
  omega
theorem put_num (n : Int) : putS 1 n ⟨#[]⟩ = strOfNums (numL n 8) := putS_1 n ⟨#[]⟩ (by rw [okB_1]; simp)
theorem bytes_cells (w : World) (s : ByteArray) (gc : Nat) (m : Nat × Nat) : ∀ (j : Nat) (u : Value), (Lib.strCells s)[j]? = some u → (w.alloc (.cells (bytesRow s gc) 5 m)).drew.cell? ((⟨w.heap.size, 0, none⟩ : Addr).add j) = some u := by
  intro j u hj
  have hlt : j < s.data.size := by
    obtain ⟨h, _⟩ := List.getElem?_eq_some_iff.1 hj
    simpa [Lib.strCells] using h
  have e : ((⟨w.heap.size, 0, none⟩ : Addr).add j) = ⟨w.heap.size, j, none⟩ := by unfold Addr.add; split <;> simp_all
  have hb := heap_alloc_new w (.cells (bytesRow s gc) 5 m)
  rw [e]
  show (w.alloc (.cells (bytesRow s gc) 5 m)).cell? ⟨w.heap.size, j, none⟩ = some u
  simp only [World.cell?, hb]
  have := bytesRow_at s gc j hlt
  simp only [Option.isSome_none, Bool.false_eq_true, if_false]
  rw [this]
  simp only [Lib.strCells, List.getElem?_map, Option.map_eq_some_iff] at hj
  obtain ⟨a, ha, rfl⟩ := hj
  rw [Array.getElem?_toList, Array.getElem?_eq_getElem hlt] at ha
  cases ha
  rfl
set_option maxHeartbeats 1000000 in
theorem l01Int_any (n : Int) (w : World) :
    Calls Tryz.prog 25 #[.int .i64 n] w fun e w' => e = .returned (.agg #[.int .i64 1, .int .i64 n, .string ⟨#[]⟩]) ∧ Below w.heap.size w w' := by
  go_enter Tryz.func25, Tryz.ntmps25
  go_wp2
  go_returns
  exact ⟨rfl, by go_grown⟩
set_option maxHeartbeats 4000000 in
set_option maxRecDepth 100000 in
theorem specPutBag_any (W : Int) (v : Value) (cs : List C2) (w : World) (hw : CsWf cs) (hr : RowsIs w v cs) :
    Calls Tryz.prog 10 #[.agg #[.int .i64 W, v]] w fun e w' => e = .returned (.string (putB W cs)) ∧ Below w.heap.size w w' := by
  obtain ⟨i0, hi, hi0, hi1, hi2⟩ := info_parts info5
  have hr0 := hr
  obtain ⟨a, c, b, o, rfl, hl, hc, ha⟩ := hr.pick
  unfold maxLen at hc
  go_enter Tryz.func10, Tryz.ntmps10
  go_wp2_with fail
  refine Calls.mono (specBagOk_any W (.slice a cs.length c) cs _ hw (hr0.below ?hb)) ?_
  case hb => repeat (first | exact Below.refl _ _ | refine Below.drew ?_ | refine Below.alloc ?_ (by first | (simp; done) | (simp; omega) | omega) _ | refine Below.setCell ?_ (by first | (simp; done) | (simp; omega) | omega) _ | refine bstep (by assumption) (by first | (simp; done) | (simp; omega) | omega) ?_)
  rintro e w1 ⟨rfl, hb1⟩
  have hz1 := hb1.size
  simp only [World.size_alloc] at hz1
  have p0 : w1.cell? ⟨w.heap.size, 0, none⟩ = some (.int .i64 W) := cell_later hb1 (by go_simp)
  have p1 : w1.cell? ⟨w.heap.size, 1, none⟩ = some (.slice a cs.length c) := cell_later hb1 (by go_simp)
  have bel1 : Below w.heap.size w w1 := by repeat (first | exact Below.refl _ _ | refine Below.drew ?_ | refine Below.alloc ?_ (by first | (simp; done) | (simp; omega) | omega) _ | refine Below.setCell ?_ (by first | (simp; done) | (simp; omega) | omega) _ | refine bstep (by assumption) (by first | (simp; done) | (simp; omega) | omega) ?_)
  have hsz1 : w.heap.size < w1.heap.size := by omega
  by_cases hok : okBag W cs = true
  rotate_left
  · have hf : okBag W cs = false := by simpa using hok
    go_wp2
    go_returns
    exact ⟨by simp [putB, hf], bel1⟩
  obtain ⟨hW0, hW1, hlen, hrl⟩ := okBag_facts hok
  have hWm : W % 256 = W := by omega
  have HP : Hid (putB W cs = strOfNums (bagN W cs)) := by simp [Hid, putB, hok]
  have hr1 := hr0.below bel1
  clear hr hr0 ha
  obtain ⟨a', c', b, o, hv', _, _, ha⟩ := hr1.pick
  obtain ⟨rfl, rfl⟩ : a = a' ∧ c = c' := by simpa using hv'
  clear hv' hr1
  go_wp2
  go_loopw [3, 4] (fun v i wr => ∃ k : Nat, k ≤ cs.length ∧ i = .int .i64 k ∧ wr.ownsRow w1.heap.size 5 1 v (bagN W (cs.take k)).length ((bagN W (cs.take k)).map (Value.int .u8)) ∧ Below w1.heap.size w1 wr) (fun _ i _ => cs.length - (intOf i).toNat)
  case atStart => exact ⟨0, Nat.zero_le _, rfl, own_start w1 W, by repeat (first | exact Below.refl _ _ | refine Below.drew ?_ | refine Below.alloc ?_ (by first | (simp; done) | (simp; omega) | omega) _ | refine Below.setCell ?_ (by first | (simp; done) | (simp; omega) | omega) _ | refine bstep (by assumption) (by first | (simp; done) | (simp; omega) | omega) ?_)⟩
  case round =>
    obtain ⟨k, hk, rfl, hown, hb⟩ := hrel
    have hzb := hb.size
    have p1r : wr.cell? ⟨w.heap.size, 1, none⟩ = some (.slice a cs.length c) := (hb.cell (p := ⟨w.heap.size, 1, none⟩) hsz1).trans p1
    have hkl : (bagN W (cs.take k)).length ≤ 500000 := by
      have := csN_len (cs := cs.take k) fun x hx => hrl x (List.mem_of_mem_take hx)
      have h2 : (cs.take k).length ≤ 400 := by simp; omega
      simp only [bagN, List.length_cons]; omega
    by_cases hlt : k < cs.length
    · obtain ⟨rfl, hblt, hL⟩ := ha k hlt
      obtain ⟨x, hx⟩ : ∃ x, cs[k]? = some x := ⟨cs[k], by simp [hlt]⟩
      obtain ⟨u, e0, hR, e2⟩ := hL k x hx
      have c0 : wr.cell? ⟨b, o + k * 2, none⟩ = some u := (hb.cell (p := ⟨b, o + k * 2, none⟩) hblt).trans e0
      have c1 : wr.cell? ⟨b, o + k * 2 + 1, none⟩ = some (.int .i64 x.n) := (hb.cell (p := ⟨b, o + k * 2 + 1, none⟩) hblt).trans e2
      have hbr : b < wr.heap.size := Nat.lt_of_lt_of_le hblt hzb
      obtain ⟨ur, cr, br, oo, rfl, _, hcr, hrr⟩ := hR.pick
      unfold maxLen at hcr
      have HX : Hid (cs[k]? = some x) := hx
      have hxw : VsWf x.r := (hw x (List.mem_of_getElem? hx)).1
      have hxl : x.r.length ≤ 12 := hrl x (List.mem_of_getElem? hx)
      have hxu := rowU_len x.r
      clear ha hL hx hw hrl
      go_wp2_with fail
      refine (l01Int_any x.n wr).mono ?_
      rintro e w2 ⟨rfl, hb2⟩
      have hz2 := hb2.size
      have hown2 := own_below hown hb2
      go_wp2_with fail
      refine (specPut_any 1 x.n ⟨#[]⟩ w2 (Nat.zero_le _)).mono ?_
      rintro e w3 ⟨rfl, hb3⟩
      have hz3 := hb3.size
      have hown3 := own_below hown2 hb3
      have hcv := run_bytes_of_string (P := Tryz.prog) w3 9 22 5 (putS 1 x.n ⟨#[]⟩) Tryz.underlying9 Tryz.underlying22 Tryz.underlying5
      generalize hg : grownCap w3 (putS 1 x.n ⟨#[]⟩).size 0 5 = gc at hcv
      have hs9 : (putS 1 x.n ⟨#[]⟩).size = 9 := by rw [put_num, nums_size, numL_len]
      have hown4 : (w3.alloc (.cells (bytesRow (putS 1 x.n ⟨#[]⟩) gc) 5 ((bytesRow (putS 1 x.n ⟨#[]⟩) gc).size, (bytesRow (putS 1 x.n ⟨#[]⟩) gc).size + 1))).drew.ownsRow w1.heap.size 5 1 _ _ _ := hown3.alloc _
      have bel4 : Below w1.heap.size w1 (w3.alloc (.cells (bytesRow (putS 1 x.n ⟨#[]⟩) gc) 5 ((bytesRow (putS 1 x.n ⟨#[]⟩) gc).size, (bytesRow (putS 1 x.n ⟨#[]⟩) gc).size + 1))).drew := by repeat (first | exact Below.refl _ _ | refine Below.drew ?_ | refine Below.alloc ?_ (by first | (simp; done) | (simp; omega) | omega) _ | refine Below.setCell ?_ (by first | (simp; done) | (simp; omega) | omega) _ | refine bstep (by assumption) (by first | (simp; done) | (simp; omega) | omega) ?_)
      go_wp2_with (at_builtin; refine wpList_append_own _ rfl _ _ 22 rfl w1.heap.size 5 i0 (.int .u8 0) 1 1 Tryz.underlying22 hi hi0 hi1 hi2 rfl (by decide) _ _ _ rfl hown4 ⟨w3.heap.size, 0, none⟩ 9 gc (Lib.strCells (putS 1 x.n ⟨#[]⟩)) rfl (by rw [Lib.strCells_length, hs9]) (bytes_cells _ _ _ _) (Lib.strCells_oneCell _) ?c3 ?c4 ?c5 ?_)
      case c3 => unfold maxLen; omega
      case c4 => omega
      case c5 => simp; omega
      intro v5 w5 hown5 hgr5 _
      have hz5 := hgr5.size
      simp at hz5
      have bel5 : Below w1.heap.size w1 w5 := bel4.grown hgr5 (by simp; omega) (fun k hk => (hown4.lt k hk).1)
      have R5 : w5.ownsRow w1.heap.size 5 1 v5 (bagN W (cs.take k) ++ (numL x.n 8 ++ nb (rowU (x.r.take 0)))).length ((bagN W (cs.take k) ++ (numL x.n 8 ++ nb (rowU (x.r.take 0)))).map (Value.int .u8)) := by
        refine own_eq hown5 ?_ ?_
        · simp [numL_len, nb_len, rowU]
        · rw [put_num, cells_numL]; simp [rowU, nb]
      clear hown hown2 hown3 hown4 hown5 hgr5 hcv hg hs9
      have hkl2 : (bagN W (cs.take k) ++ numL x.n 8).length ≤ 500009 := by simp [numL_len]; omega
      clear hz2 hz3 hb2 hb3 hb bel4 p1r c0 c1 hzb hkl
      have hz5' := bel5.size
      go_wp2
      go_loopw [3, 5] (fun v i wq => ∃ m : Nat, m ≤ x.r.length ∧ i = .int .i64 m ∧ wq.ownsRow w1.heap.size 5 1 v (bagN W (cs.take k) ++ (numL x.n 8 ++ nb (rowU (x.r.take m)))).length ((bagN W (cs.take k) ++ (numL x.n 8 ++ nb (rowU (x.r.take m)))).map (Value.int .u8)) ∧ Below w1.heap.size w1 wq) (fun _ i _ => x.r.length - (intOf i).toNat)
      case atStart => exact ⟨0, Nat.zero_le _, rfl, R5, bel5⟩
      case round =>
        obtain ⟨m, hm, rfl, hown, hb⟩ := hrel
        have hzb := hb.size
        clear R5 hz5 hz5'
        have p1r : wr.cell? ⟨w.heap.size, 1, none⟩ = some (.slice (some ⟨b, o, none⟩) cs.length c) := (hb.cell (p := ⟨w.heap.size, 1, none⟩) hsz1).trans p1
        have c0 : wr.cell? ⟨b, o + k * 2, none⟩ = some (.slice ur x.r.length cr) := (hb.cell (p := ⟨b, o + k * 2, none⟩) hblt).trans e0
        have hul : (rowU (x.r.take m)).length ≤ 1224 := by
          have h1 := rowU_len (x.r.take m)
          have h2 : (x.r.take m).length ≤ 12 := by simp; omega
          omega
        have hln : (bagN W (cs.take k) ++ (numL x.n 8 ++ nb (rowU (x.r.take m)))).length ≤ 502000 := by
          rw [← List.append_assoc, List.length_append, nb_len]; omega
        by_cases hmt : m < x.r.length
        · obtain ⟨rfl, hbrl, hLr⟩ := hrr m hmt
          obtain ⟨y, hy, d0, d1, d2, _⟩ := hLr.at hbrl hb hmt
          have HY : Hid (x.r[m]? = some y) := hy
          have hys : y.s.size ≤ maxLen := (hxw y (List.mem_of_getElem? hy)).2.2
          have hp := putS_size y.k y.n y.s
          clear hrr hLr hy hxw
          go_wp2_with fail
          refine (specPut_any y.k y.n y.s wr hys).mono ?_
          rintro e w2 ⟨rfl, hb2⟩
          have hz2 := hb2.size
          have hown2 := own_below hown hb2
          have hcv := run_bytes_of_string (P := Tryz.prog) w2 9 22 5 (putS y.k y.n y.s) Tryz.underlying9 Tryz.underlying22 Tryz.underlying5
          generalize hg : grownCap w2 (putS y.k y.n y.s).size 0 5 = gd at hcv
          have hown4 : (w2.alloc (.cells (bytesRow (putS y.k y.n y.s) gd) 5 ((bytesRow (putS y.k y.n y.s) gd).size, (bytesRow (putS y.k y.n y.s) gd).size + 1))).drew.ownsRow w1.heap.size 5 1 _ _ _ := hown2.alloc _
          have bel4 : Below w1.heap.size w1 (w2.alloc (.cells (bytesRow (putS y.k y.n y.s) gd) 5 ((bytesRow (putS y.k y.n y.s) gd).size, (bytesRow (putS y.k y.n y.s) gd).size + 1))).drew := by repeat (first | exact Below.refl _ _ | refine Below.drew ?_ | refine Below.alloc ?_ (by first | (simp; done) | (simp; omega) | omega) _ | refine Below.setCell ?_ (by first | (simp; done) | (simp; omega) | omega) _ | refine bstep (by assumption) (by first | (simp; done) | (simp; omega) | omega) ?_)
          go_wp2_with (at_builtin; refine wpList_append_own _ rfl _ _ 22 rfl w1.heap.size 5 i0 (.int .u8 0) 1 1 Tryz.underlying22 hi hi0 hi1 hi2 rfl (by decide) _ _ _ rfl hown4 ⟨w2.heap.size, 0, none⟩ (putS y.k y.n y.s).size gd (Lib.strCells (putS y.k y.n y.s)) rfl (by rw [Lib.strCells_length, Nat.mul_one]) (bytes_cells _ _ _ _) (Lib.strCells_oneCell _) ?c3 ?c4 ?c5 ?_)
          case c3 => unfold maxLen; omega
          case c4 => omega
          case c5 => simp; omega
          intro v6 w6 hown6 hgr6 _
          have hz6 := hgr6.size
          have bel6 : Below w1.heap.size w1 w6 := bel4.grown hgr6 (by simp; omega) (fun k hk => (hown4.lt k hk).1)
          have R6 : w6.ownsRow w1.heap.size 5 1 v6 (bagN W (cs.take k) ++ (numL x.n 8 ++ nb (rowU (x.r.take (m + 1))))).length ((bagN W (cs.take k) ++ (numL x.n 8 ++ nb (rowU (x.r.take (m + 1))))).map (Value.int .u8)) := by
            have eU : rowU (x.r.take (m + 1)) = rowU (x.r.take m) ++ (putS y.k y.n y.s).data.toList := rowU_take HY.out
            refine own_eq hown6 ?_ ?_
            · have : (putS y.k y.n y.s).data.toList.length = (putS y.k y.n y.s).size := Array.length_toList
              simp only [List.length_append, nb_len, eU]; omega
            · rw [eU]; simp only [List.map_append, nb_cells, Lib.byteCells_append, Lib.strCells_eq]
          clear hown hown2 hown4 hown6 hgr6 hcv hg bel4
          go_wp2
          go_roundw
          case rel => exact ⟨m + 1, hmt, by simp, R6, bel6⟩
          case measure => simp [intOf]; omega
        · clear hrr
          obtain rfl : m = x.r.length := by omega
          rw [List.take_length] at hown
          have eN : bagN W (cs.take (k + 1)) = bagN W (cs.take k) ++ (numL x.n 8 ++ nb (rowU x.r)) := by unfold bagN; rw [csN_take HX.out]; rfl
          have R7 : wr.ownsRow w1.heap.size 5 1 u3 (bagN W (cs.take (k + 1))).length ((bagN W (cs.take (k + 1))).map (Value.int .u8)) := by rw [eN]; exact hown
          clear hown eN
          go_wp2
          go_roundw
          case rel => exact ⟨k + 1, hlt, by simp, R7, hb⟩
          case measure => simp [intOf]; omega
    · clear ha hw hrl
      obtain rfl : k = cs.length := by omega
      rw [List.take_length] at hown
      have hcv := conv_own (bagN W cs) hown (by simp [bagN])
      go_wp2
      go_returns
      exact ⟨ret_str HP.out.symm, bel1.trans (hb.mono (by omega))⟩
end Go.Proofs.YtiaafgmjigbjlaaGreatDoor
/- Own text. What both GetBag read: what GetValue reads is what PutValue makes, so are rows and bags; both answer the same. -/
namespace Go.Proofs.YtiaafgmjigbjlaaGreatDoor
open Go.RowKit
set_option linter.unusedVariables false
/-- what stands at a place, and where the next one does. -/
def tV (s : ByteArray) (i : Int) : V3 := ⟨(getT s i).1, (getT s i).2.1, (getT s i).2.2.1⟩
def tJ (s : ByteArray) (i : Int) : Int := (getT s i).2.2.2
/-- the bytes of a value. -/
def vB (x : V3) : List UInt8 := (putS x.k x.n x.s).data.toList
theorem drop_byte (s : ByteArray) (a : Nat) (h : a < s.size) : s.data.toList.drop a = UInt8.ofNat (bAt s a) :: s.data.toList.drop (a + 1) := by
  have h' : a < s.data.toList.length := by simpa using h
  rw [List.drop_eq_getElem_cons h']
  congr 1
  unfold bAt
  rw [List.getD_eq_getElem?_getD, List.getElem?_eq_getElem h']
  simp
theorem be8 (c0 c1 c2 c3 c4 c5 c6 c7 : UInt8) : be [c0, c1, c2, c3, c4, c5, c6, c7] = ((((((((c0.toNat : Int) * 256 + (c1.toNat : Int)) * 256 + (c2.toNat : Int)) * 256 + (c3.toNat : Int)) * 256 + (c4.toNat : Int)) * 256 + (c5.toNat : Int)) * 256 + (c6.toNat : Int)) * 256 + (c7.toNat : Int)) := by
  simp [be]; omega
theorem num_part (A r M A' c : Int) (hM : 0 < M) (hr : 0 ≤ r) (hr' : r < M) (hA : A = A' * 256 + c) (hc : 0 ≤ c) (hc' : c < 256) : (A * M + r) / M % 256 = c := by
  rw [Int.add_comm, Int.add_mul_ediv_right _ _ (by omega), Int.ediv_eq_zero_of_lt hr hr', Int.zero_add, hA]
  omega
theorem num_round (l : List UInt8) (h : l.length = 8) : ((List.range 8).map (numB (wrap64 (be l)))).map (fun n => UInt8.ofNat n.toNat) = l := by
  match l, h with
  | [c0, c1, c2, c3, c4, c5, c6, c7], _ =>
    have hb := be_bd8 [c0, c1, c2, c3, c4, c5, c6, c7] (by simp)
    have hw : IntKind.u64.wrap (wrap64 (be [c0, c1, c2, c3, c4, c5, c6, c7])) = be [c0, c1, c2, c3, c4, c5, c6, c7] := by
      rw [IntKind.wrap_u64]; unfold wrap64; omega
    have e := be8 c0 c1 c2 c3 c4 c5 c6 c7
    have g0 := c0.toNat_lt
    have g1 := c1.toNat_lt
    have g2 := c2.toNat_lt
    have g3 := c3.toNat_lt
    have g4 := c4.toNat_lt
    have g5 := c5.toNat_lt
    have g6 := c6.toNat_lt
    have g7 := c7.toNat_lt
    have k0 : numB (wrap64 (be [c0, c1, c2, c3, c4, c5, c6, c7])) 0 = c0.toNat := by
      have e' : ((((((((c0.toNat : Int) * 256 + (c1.toNat : Int)) * 256 + (c2.toNat : Int)) * 256 + (c3.toNat : Int)) * 256 + (c4.toNat : Int)) * 256 + (c5.toNat : Int)) * 256 + (c6.toNat : Int)) * 256 + (c7.toNat : Int)) = (c0.toNat : Int) * 72057594037927936 + (((((((c1.toNat : Int) * 256 + (c2.toNat : Int)) * 256 + (c3.toNat : Int)) * 256 + (c4.toNat : Int)) * 256 + (c5.toNat : Int)) * 256 + (c6.toNat : Int)) * 256 + (c7.toNat : Int)) := by omega
      unfold numB
      rw [hw, e, e', show (2 : Int) ^ (8 * (7 - 0)) = 72057594037927936 from rfl]
      exact num_part _ _ _ (0 : Int) _ (by omega) (by omega) (by omega) (by omega) (by omega) (by omega)
    have k1 : numB (wrap64 (be [c0, c1, c2, c3, c4, c5, c6, c7])) 1 = c1.toNat := by
      have e' : ((((((((c0.toNat : Int) * 256 + (c1.toNat : Int)) * 256 + (c2.toNat : Int)) * 256 + (c3.toNat : Int)) * 256 + (c4.toNat : Int)) * 256 + (c5.toNat : Int)) * 256 + (c6.toNat : Int)) * 256 + (c7.toNat : Int)) = ((c0.toNat : Int) * 256 + (c1.toNat : Int)) * 281474976710656 + ((((((c2.toNat : Int) * 256 + (c3.toNat : Int)) * 256 + (c4.toNat : Int)) * 256 + (c5.toNat : Int)) * 256 + (c6.toNat : Int)) * 256 + (c7.toNat : Int)) := by omega
      unfold numB
      rw [hw, e, e', show (2 : Int) ^ (8 * (7 - 1)) = 281474976710656 from rfl]
      exact num_part _ _ _ (c0.toNat : Int) _ (by omega) (by omega) (by omega) (by omega) (by omega) (by omega)
    have k2 : numB (wrap64 (be [c0, c1, c2, c3, c4, c5, c6, c7])) 2 = c2.toNat := by
      have e' : ((((((((c0.toNat : Int) * 256 + (c1.toNat : Int)) * 256 + (c2.toNat : Int)) * 256 + (c3.toNat : Int)) * 256 + (c4.toNat : Int)) * 256 + (c5.toNat : Int)) * 256 + (c6.toNat : Int)) * 256 + (c7.toNat : Int)) = (((c0.toNat : Int) * 256 + (c1.toNat : Int)) * 256 + (c2.toNat : Int)) * 1099511627776 + (((((c3.toNat : Int) * 256 + (c4.toNat : Int)) * 256 + (c5.toNat : Int)) * 256 + (c6.toNat : Int)) * 256 + (c7.toNat : Int)) := by omega
      unfold numB
      rw [hw, e, e', show (2 : Int) ^ (8 * (7 - 2)) = 1099511627776 from rfl]
      exact num_part _ _ _ ((c0.toNat : Int) * 256 + (c1.toNat : Int)) _ (by omega) (by omega) (by omega) (by omega) (by omega) (by omega)
    have k3 : numB (wrap64 (be [c0, c1, c2, c3, c4, c5, c6, c7])) 3 = c3.toNat := by
      have e' : ((((((((c0.toNat : Int) * 256 + (c1.toNat : Int)) * 256 + (c2.toNat : Int)) * 256 + (c3.toNat : Int)) * 256 + (c4.toNat : Int)) * 256 + (c5.toNat : Int)) * 256 + (c6.toNat : Int)) * 256 + (c7.toNat : Int)) = ((((c0.toNat : Int) * 256 + (c1.toNat : Int)) * 256 + (c2.toNat : Int)) * 256 + (c3.toNat : Int)) * 4294967296 + ((((c4.toNat : Int) * 256 + (c5.toNat : Int)) * 256 + (c6.toNat : Int)) * 256 + (c7.toNat : Int)) := by omega
      unfold numB
      rw [hw, e, e', show (2 : Int) ^ (8 * (7 - 3)) = 4294967296 from rfl]
      exact num_part _ _ _ (((c0.toNat : Int) * 256 + (c1.toNat : Int)) * 256 + (c2.toNat : Int)) _ (by omega) (by omega) (by omega) (by omega) (by omega) (by omega)
    have k4 : numB (wrap64 (be [c0, c1, c2, c3, c4, c5, c6, c7])) 4 = c4.toNat := by
      have e' : ((((((((c0.toNat : Int) * 256 + (c1.toNat : Int)) * 256 + (c2.toNat : Int)) * 256 + (c3.toNat : Int)) * 256 + (c4.toNat : Int)) * 256 + (c5.toNat : Int)) * 256 + (c6.toNat : Int)) * 256 + (c7.toNat : Int)) = (((((c0.toNat : Int) * 256 + (c1.toNat : Int)) * 256 + (c2.toNat : Int)) * 256 + (c3.toNat : Int)) * 256 + (c4.toNat : Int)) * 16777216 + (((c5.toNat : Int) * 256 + (c6.toNat : Int)) * 256 + (c7.toNat : Int)) := by omega
      unfold numB
      rw [hw, e, e', show (2 : Int) ^ (8 * (7 - 4)) = 16777216 from rfl]
      exact num_part _ _ _ ((((c0.toNat : Int) * 256 + (c1.toNat : Int)) * 256 + (c2.toNat : Int)) * 256 + (c3.toNat : Int)) _ (by omega) (by omega) (by omega) (by omega) (by omega) (by omega)
    have k5 : numB (wrap64 (be [c0, c1, c2, c3, c4, c5, c6, c7])) 5 = c5.toNat := by
      have e' : ((((((((c0.toNat : Int) * 256 + (c1.toNat : Int)) * 256 + (c2.toNat : Int)) * 256 + (c3.toNat : Int)) * 256 + (c4.toNat : Int)) * 256 + (c5.toNat : Int)) * 256 + (c6.toNat : Int)) * 256 + (c7.toNat : Int)) = ((((((c0.toNat : Int) * 256 + (c1.toNat : Int)) * 256 + (c2.toNat : Int)) * 256 + (c3.toNat : Int)) * 256 + (c4.toNat : Int)) * 256 + (c5.toNat : Int)) * 65536 + ((c6.toNat : Int) * 256 + (c7.toNat : Int)) := by omega
      unfold numB
      rw [hw, e, e', show (2 : Int) ^ (8 * (7 - 5)) = 65536 from rfl]
      exact num_part _ _ _ (((((c0.toNat : Int) * 256 + (c1.toNat : Int)) * 256 + (c2.toNat : Int)) * 256 + (c3.toNat : Int)) * 256 + (c4.toNat : Int)) _ (by omega) (by omega) (by omega) (by omega) (by omega) (by omega)
    have k6 : numB (wrap64 (be [c0, c1, c2, c3, c4, c5, c6, c7])) 6 = c6.toNat := by
      have e' : ((((((((c0.toNat : Int) * 256 + (c1.toNat : Int)) * 256 + (c2.toNat : Int)) * 256 + (c3.toNat : Int)) * 256 + (c4.toNat : Int)) * 256 + (c5.toNat : Int)) * 256 + (c6.toNat : Int)) * 256 + (c7.toNat : Int)) = (((((((c0.toNat : Int) * 256 + (c1.toNat : Int)) * 256 + (c2.toNat : Int)) * 256 + (c3.toNat : Int)) * 256 + (c4.toNat : Int)) * 256 + (c5.toNat : Int)) * 256 + (c6.toNat : Int)) * 256 + (c7.toNat : Int) := by omega
      unfold numB
      rw [hw, e, e', show (2 : Int) ^ (8 * (7 - 6)) = 256 from rfl]
      exact num_part _ _ _ ((((((c0.toNat : Int) * 256 + (c1.toNat : Int)) * 256 + (c2.toNat : Int)) * 256 + (c3.toNat : Int)) * 256 + (c4.toNat : Int)) * 256 + (c5.toNat : Int)) _ (by omega) (by omega) (by omega) (by omega) (by omega) (by omega)
    have k7 : numB (wrap64 (be [c0, c1, c2, c3, c4, c5, c6, c7])) 7 = c7.toNat := by
      have e' : ((((((((c0.toNat : Int) * 256 + (c1.toNat : Int)) * 256 + (c2.toNat : Int)) * 256 + (c3.toNat : Int)) * 256 + (c4.toNat : Int)) * 256 + (c5.toNat : Int)) * 256 + (c6.toNat : Int)) * 256 + (c7.toNat : Int)) = ((((((((c0.toNat : Int) * 256 + (c1.toNat : Int)) * 256 + (c2.toNat : Int)) * 256 + (c3.toNat : Int)) * 256 + (c4.toNat : Int)) * 256 + (c5.toNat : Int)) * 256 + (c6.toNat : Int)) * 256 + (c7.toNat : Int)) * 1 + (0 : Int) := by omega
      unfold numB
      rw [hw, e, e', show (2 : Int) ^ (8 * (7 - 7)) = 1 from rfl]
      exact num_part _ _ _ (((((((c0.toNat : Int) * 256 + (c1.toNat : Int)) * 256 + (c2.toNat : Int)) * 256 + (c3.toNat : Int)) * 256 + (c4.toNat : Int)) * 256 + (c5.toNat : Int)) * 256 + (c6.toNat : Int)) _ (by omega) (by omega) (by omega) (by omega) (by omega) (by omega)
    rw [show List.range 8 = [0, 1, 2, 3, 4, 5, 6, 7] from rfl]
    simp only [List.map_cons, List.map_nil, k0, k1, k2, k3, k4, k5, k6, k7, Int.toNat_natCast, UInt8.ofNat_toNat]
theorem nilB : (⟨#[]⟩ : ByteArray).toList = [] := by rw [ByteArray.toList_eq]
/-- what is read is what stands there. -/
theorem get_round (s : ByteArray) (i : Int) (h : 0 ≤ tJ s i) : ∃ a b : Nat, i = a ∧ tJ s i = b ∧ a < b ∧ b ≤ s.size ∧ okB (tV s i).k (tV s i).n (tV s i).s = true ∧ s.data.toList.drop a = vB (tV s i) ++ s.data.toList.drop b ∧ ((tV s i).k ≠ 1 → bAt s a ≠ 1) ∧ (tV s i).s.size ≤ 100 := by
  unfold tJ at h
  by_cases hi : 0 ≤ i ∧ i < s.size
  rotate_left
  · rw [getT_out s i hi] at h; simp at h
  obtain ⟨a, rfl⟩ := Int.eq_ofNat_of_zero_le hi.1
  have ha : a < s.size := by omega
  unfold tJ tV vB
  rw [getT_in s a ha] at h ⊢
  by_cases h0 : bAt s a = 0
  · rw [getN_0 s a h0] at h ⊢
    have ok : okB 0 0 ⟨#[]⟩ = true := by rw [okB_0, nilB]; rfl
    refine ⟨a, a + 1, rfl, by simp, by omega, by omega, ok, ?_, fun _ => by omega, Nat.zero_le _⟩
    dsimp only
    rw [putS_0 _ _ ok, drop_byte s a ha, h0]
    rfl
  by_cases h1 : bAt s a = 1 ∧ a + 9 ≤ s.size
  · rw [getN_1 s a h1.1 h1.2] at h ⊢
    have ok : ∀ n, okB 1 n ⟨#[]⟩ = true := fun n => by rw [okB_1, nilB]; rfl
    refine ⟨a, a + 9, rfl, by simp, by omega, h1.2, ok _, ?_, fun h => absurd rfl h, Nat.zero_le _⟩
    dsimp only
    rw [putS_1 _ _ (ok _), strOfNums_data, drop_byte s a ha, h1.1]
    unfold numL numAt
    rw [List.map_cons, num_round _ (by simp; omega)]
    have ht := List.take_append_drop 8 (s.data.toList.drop (a + 1))
    rw [List.drop_drop] at ht
    rw [List.cons_append, show a + 9 = a + 1 + 8 from by omega, ht]
    rfl
  by_cases h2 : bAt s a = 2 ∧ a + 2 ≤ s.size ∧ bAt s (a + 1) ≤ 1
  · rw [getN_2 s a h2.1 h2.2.1 h2.2.2] at h ⊢
    have hm : bAt s (a + 1) = 0 ∨ bAt s (a + 1) = 1 := by omega
    have ok : okB 2 (bAt s (a + 1) : Int) ⟨#[]⟩ = true := by rw [okB_2, nilB]; rcases hm with e | e <;> rw [e] <;> rfl
    refine ⟨a, a + 2, rfl, by simp, by omega, h2.2.1, ok, ?_, fun _ => by omega, Nat.zero_le _⟩
    dsimp only
    rw [putS_2 _ _ ok, strOfNums_data, drop_byte s a ha, drop_byte s (a + 1) (by omega), h2.1]
    simp
  by_cases h3 : bAt s a = 3 ∧ a + 2 ≤ s.size ∧ a + 2 + bAt s (a + 1) ≤ s.size ∧ bAt s (a + 1) ≤ 100
  · rw [getN_3 s a h3.1 h3.2.1 h3.2.2.1 h3.2.2.2] at h ⊢
    have hsz : (s.extract (a + 2) (a + 2 + bAt s (a + 1))).size = bAt s (a + 1) := by rw [extract_size s _ _ (by omega) h3.2.2.1]; omega
    have ok : okB 3 0 (s.extract (a + 2) (a + 2 + bAt s (a + 1))) = true := by rw [okB_3, hsz]; simp [h3.2.2.2]
    refine ⟨a, a + 2 + bAt s (a + 1), rfl, by simp; omega, by omega, h3.2.2.1, ok, ?_, fun _ => by omega, by dsimp only; rw [hsz]; exact h3.2.2.2⟩
    dsimp only
    rw [putS_3 _ _ ok, ByteArray.data_append, Array.toList_append, strOfNums_data, hsz, extract_list, drop_byte s a ha, drop_byte s (a + 1) (by omega), h3.1]
    have ht := List.take_append_drop (bAt s (a + 1)) (s.data.toList.drop (a + 2))
    rw [List.drop_drop] at ht
    rw [show a + 2 + bAt s (a + 1) - (a + 2) = bAt s (a + 1) from by omega, List.append_assoc, ht]
    simp
  · rw [getN_x s a h0 h1 h2 h3] at h; simp at h
/-- so many values from a place on, and where the next one stands. -/
def valsV (s : ByteArray) : Nat → Int → List V3
  | 0, _ => []
  | n + 1, i => tV s i :: valsV s n (tJ s i)
def valsJ (s : ByteArray) : Nat → Int → Int
  | 0, i => i
  | n + 1, i => valsJ s n (tJ s i)
theorem tJ_neg (s : ByteArray) (i : Int) (h : i < 0) : tJ s i = -1 := by unfold tJ; rw [getT_out s i (by omega)]
theorem valsJ_neg (s : ByteArray) : ∀ (n : Nat) (i : Int), i < 0 → valsJ s n i < 0
  | 0, i, h => h
  | n + 1, i, h => valsJ_neg s n _ (by rw [tJ_neg s i h]; decide)
theorem valsV_len (s : ByteArray) : ∀ (n : Nat) (i : Int), (valsV s n i).length = n
  | 0, _ => rfl
  | n + 1, i => by rw [valsV, List.length_cons, valsV_len s n]
theorem vals_round (s : ByteArray) : ∀ (n : Nat) (i : Int), 0 ≤ i → i ≤ s.size → 0 ≤ valsJ s n i → ∃ a b : Nat, i = a ∧ valsJ s n i = b ∧ a ≤ b ∧ b ≤ s.size ∧ s.data.toList.drop a = rowU (valsV s n i) ++ s.data.toList.drop b
  | 0, i, h0, h1, h => by
    obtain ⟨a, rfl⟩ := Int.eq_ofNat_of_zero_le h0
    exact ⟨a, a, rfl, rfl, by omega, by omega, by simp [valsV, rowU]⟩
  | n + 1, i, h0, h1, h => by
    have hj : 0 ≤ tJ s i := by
      by_cases hj : 0 ≤ tJ s i
      · exact hj
      · have := valsJ_neg s n (tJ s i) (by omega)
        rw [valsJ] at h; omega
    obtain ⟨a, b, e1, e2, hab, hb, _, hd, _⟩ := get_round s i hj
    obtain ⟨b', c, e3, e4, hbc, hc, hd'⟩ := vals_round s n (tJ s i) hj (by omega) h
    obtain rfl : b' = b := by omega
    refine ⟨a, c, e1, e4, by omega, hc, ?_⟩
    rw [hd, hd', valsV]
    unfold rowU vB
    rw [List.flatMap_cons, List.append_assoc]
/-- the counted row from a place on, and where the next one stands. -/
def rowS (s : ByteArray) (W : Nat) (i : Int) : C2 := ⟨valsV s W (tJ s i), (tV s i).n⟩
def endS (s : ByteArray) (W : Nat) (i : Int) : Int := valsJ s W (tJ s i)
/-- rows as they are read, whatever stands for their counts; none where one is none. -/
def run (s : ByteArray) (W : Nat) : Nat → Int → List C2 → Option (List C2)
  | 0, _, acc => some acc
  | n + 1, i, acc => if i < s.size ∧ acc.length ≤ 400 then (if endS s W i < 0 then none else run s W n (endS s W i) (acc ++ [rowS s W i])) else some acc
/-- .. where only numbers stand for counts. -/
def runI (s : ByteArray) (W : Nat) : Nat → Int → List C2 → Option (List C2)
  | 0, _, acc => some acc
  | n + 1, i, acc => if i < s.size ∧ acc.length ≤ 400 then (if (tV s i).k ≠ 1 ∨ endS s W i < 0 then none else runI s W n (endS s W i) (acc ++ [rowS s W i])) else some acc
/-- the bytes of counted rows. -/
def csU (cs : List C2) : List UInt8 := cs.flatMap fun x => (numL x.n 8).map (fun n => UInt8.ofNat n.toNat) ++ rowU x.r
theorem csU_cons (x : C2) (cs : List C2) : csU (x :: cs) = ((numL x.n 8).map (fun n => UInt8.ofNat n.toNat) ++ rowU x.r) ++ csU cs := by unfold csU; rw [List.flatMap_cons]
theorem end_round (s : ByteArray) (W : Nat) (i : Int) (h : 0 ≤ endS s W i) : ∃ a b : Nat, i = a ∧ endS s W i = b ∧ a < b ∧ b ≤ s.size ∧ s.data.toList.drop a = vB (tV s i) ++ (rowU (rowS s W i).r ++ s.data.toList.drop b) ∧ okB (tV s i).k (tV s i).n (tV s i).s = true ∧ ((tV s i).k ≠ 1 → bAt s a ≠ 1) := by
  have hj : 0 ≤ tJ s i := by
    by_cases hj : 0 ≤ tJ s i
    · exact hj
    · have := valsJ_neg s W (tJ s i) (by omega)
      unfold endS at h; omega
  obtain ⟨a, b, e1, e2, hab, hb, ok, hd, hk, _⟩ := get_round s i hj
  obtain ⟨b', c, e3, e4, hbc, hc, hd'⟩ := vals_round s W (tJ s i) hj (by omega) h
  obtain rfl : b' = b := by omega
  exact ⟨a, c, e1, e4, by omega, hc, by rw [hd, hd']; rfl, ok, hk⟩
theorem run_none (s : ByteArray) (W : Nat) : ∀ (n : Nat) (i : Int) (acc : List C2), run s W n i acc = none → runI s W n i acc = none
  | 0, _, _, h => by cases h
  | n + 1, i, acc, h => by
    rw [run] at h
    rw [runI]
    by_cases hc : i < s.size ∧ acc.length ≤ 400
    · rw [if_pos hc] at h ⊢
      by_cases he : endS s W i < 0
      · rw [if_pos (.inr he)]
      · rw [if_neg he] at h
        by_cases hk : (tV s i).k ≠ 1
        · rw [if_pos (.inl hk)]
        · rw [if_neg (by omega)]
          exact run_none s W n _ _ h
    · rw [if_neg hc] at h; cases h
theorem run_some (s : ByteArray) (W : Nat) : ∀ (n : Nat) (i : Nat) (acc cs : List C2), i ≤ s.size → s.size + 1 ≤ n + i → run s W n i acc = some cs →
    (runI s W n i acc = some cs ∧ ∃ more e, cs = acc ++ more ∧ (e = s.size ∨ 400 < cs.length) ∧ s.data.toList.drop i = csU more ++ s.data.toList.drop e) ∨
    (runI s W n i acc = none ∧ ∃ p c rest i', cs = acc ++ p ++ c :: rest ∧ i' < s.size ∧ bAt s i' ≠ 1 ∧ s.data.toList.drop i = csU p ++ s.data.toList.drop i')
  | 0, i, acc, cs, hi, hf, h => by omega
  | n + 1, i, acc, cs, hi, hf, h => by
    rw [run] at h
    rw [runI]
    by_cases hc : (i : Int) < s.size ∧ acc.length ≤ 400
    · rw [if_pos hc] at h ⊢
      by_cases he : endS s W i < 0
      · rw [if_pos he] at h; cases h
      rw [if_neg he] at h
      obtain ⟨a, b, e1, e2, hab, hb, hd, ok, hk1⟩ := end_round s W i (by omega)
      obtain rfl : a = i := by omega
      rw [e2] at h
      have ih := run_some s W n b (acc ++ [rowS s W a]) cs hb (by omega) h
      by_cases hk : (tV s a).k ≠ 1
      · right
        rw [if_pos (.inl hk)]
        refine ⟨rfl, ?_⟩
        have hex : ∃ more, cs = (acc ++ [rowS s W a]) ++ more := by
          rcases ih with ⟨_, more, e, h1, _⟩ | ⟨_, p, c, rest, i', h1, _⟩
          · exact ⟨more, h1⟩
          · exact ⟨p ++ c :: rest, by rw [h1, List.append_assoc]⟩
        obtain ⟨more, hm⟩ := hex
        exact ⟨[], rowS s W a, more, a, by rw [hm]; simp, by omega, hk1 hk, by simp [csU]⟩
      · have hk' : (tV s a).k = 1 := by omega
        rw [if_neg (by omega), e2]
        have hv : vB (tV s a) = (numL (rowS s W a).n 8).map (fun n => UInt8.ofNat n.toNat) := by
          unfold vB
          rw [hk'] at ok ⊢
          rw [putS_1 _ _ ok]
          rfl
        rcases ih with ⟨h0, more, e, h1, h2, h3⟩ | ⟨h0, p, c, rest, i', h1, h2, h3, h4⟩
        · left
          refine ⟨h0, rowS s W a :: more, e, by rw [h1]; simp, h2, ?_⟩
          rw [hd, h3, csU_cons, hv]
          simp only [List.append_assoc]
        · right
          refine ⟨h0, rowS s W a :: p, c, rest, i', by rw [h1]; simp, h2, h3, ?_⟩
          rw [hd, h4, csU_cons, hv]
          simp only [List.append_assoc]
    · rw [if_neg hc] at h ⊢
      cases h
      left
      refine ⟨rfl, [], i, by simp, ?_, by simp [csU]⟩
      omega
theorem nb_back (l : List UInt8) : (nb l).map (fun n => UInt8.ofNat n.toNat) = l := by
  unfold nb
  rw [List.map_map]
  have e : ((fun n : Int => UInt8.ofNat n.toNat) ∘ fun b : UInt8 => (b.toNat : Int)) = id := by funext b; simp
  rw [e, List.map_id]
theorem csN_back (cs : List C2) : (csN cs).map (fun n => UInt8.ofNat n.toNat) = csU cs := by
  induction cs with
  | nil => rfl
  | cons x xs ih =>
    have e : csN (x :: xs) = (numL x.n 8 ++ nb (rowU x.r)) ++ csN xs := by unfold csN; rw [List.flatMap_cons]
    rw [e, csU_cons, List.map_append, List.map_append, ih, nb_back]
/-- what both GetBag answer. -/
def resS (s : ByteArray) : Option (List C2) := if bAt s 0 ≤ 12 then (match run s (bAt s 0) (s.size + 1) 1 [] with | none => none | some cs => if putB (bAt s 0) cs = s then some cs else none) else none
def resI (s : ByteArray) : Option (List C2) := match runI s (bAt s 0) (s.size + 1) 1 [] with | none => none | some cs => if okBag (bAt s 0) cs = true then some cs else none
theorem putB_yes (s : ByteArray) (cs : List C2) (hs : 0 < s.size) (ok : okBag (bAt s 0) cs = true) : putB (bAt s 0) cs = s ↔ s.data.toList.drop 1 = csU cs := by
  have e0 : s.data.toList = UInt8.ofNat (bAt s 0) :: s.data.toList.drop 1 := by have := drop_byte s 0 hs; simpa using this
  have e1 : (putB (bAt s 0) cs).data.toList = UInt8.ofNat (bAt s 0) :: csU cs := by
    unfold putB
    rw [if_pos ok, strOfNums_data]
    unfold bagN
    rw [List.map_cons, csN_back]
    rfl
  constructor
  · intro h
    rw [h, e0] at e1
    exact (List.cons.inj e1).2
  · intro h
    apply ByteArray.ext
    apply Array.toList_inj.1
    rw [e1, e0, h]
theorem putB_no (s : ByteArray) (W : Int) (cs : List C2) (hs : 0 < s.size) (ok : ¬ okBag W cs = true) : putB W cs ≠ s := by
  unfold putB
  rw [if_neg ok]
  rintro rfl
  exact absurd hs (by decide)
theorem res_same (s : ByteArray) (hs : 0 < s.size) : resS s = resI s := by
  unfold resS resI
  cases hr : run s (bAt s 0) (s.size + 1) 1 [] with
  | none =>
    rw [run_none _ _ _ _ _ hr]
    simp
  | some cs =>
    have hl : s.data.toList.length = s.size := by simp
    rcases run_some s (bAt s 0) (s.size + 1) 1 [] cs (by omega) (by omega) hr with ⟨h0, more, e, h1, h2, h3⟩ | ⟨h0, p, c, rest, i', h1, h2, h3, h4⟩
    · have h0' : runI s (bAt s 0) (s.size + 1) 1 [] = some cs := h0
      rw [h0']
      obtain rfl : cs = more := by simpa using h1
      dsimp only
      by_cases ok : okBag (bAt s 0) cs = true
      · obtain ⟨_, hW, hlen, _⟩ := okBag_facts ok
        have he : e = s.size := by omega
        rw [if_pos (by omega), if_pos ok, if_pos]
        rw [putB_yes s cs hs ok, h3, he, List.drop_eq_nil_of_le (by omega), List.append_nil]
      · rw [if_neg ok]
        split
        · rw [if_neg (putB_no s _ cs hs ok)]
        · rfl
    · have h0' : runI s (bAt s 0) (s.size + 1) 1 [] = none := h0
      rw [h0']
      dsimp only
      split
      · rw [if_neg]
        intro hp
        by_cases ok : okBag (bAt s 0) cs = true
        · rw [putB_yes s cs hs ok, h4, h1] at hp
          have e2 : csU ([] ++ p ++ c :: rest) = csU p ++ csU (c :: rest) := by unfold csU; simp
          rw [e2] at hp
          have hp := List.append_cancel_left hp
          rw [drop_byte s i' h2, csU_cons] at hp
          have := (List.cons.inj hp).1
          have hlt := bAt_lt s i'
          have h7 := congrArg UInt8.toNat this
          simp at h7
          omega
        · exact putB_no s _ cs hs ok hp
      · rfl
end Go.Proofs.YtiaafgmjigbjlaaGreatDoor
/- Own text. One counted row that is read: the contract of impl.getCounted. -/
namespace Go.Proofs.YtiaafgmjigbjlaaGreatDoor
open Go.RowKit Go.Deep
set_option linter.unusedVariables false
attribute [local go_sem] ta_nullForm_intForm ta_intForm_intForm ta_boolForm_intForm ta_textForm_intForm
theorem implGet_v {s : ByteArray} {i k n j : Int} {x : ByteArray} (hT : getT s i = (k, n, x, j)) (w : World) (hs : s.size ≤ 1048576) :
    Calls Tryz.prog 44 #[.string s, .int .i64 i] w fun e w' => e = .returned (.tuple #[(.agg #[.int .i64 k, .int .i64 n, .string x]), .int .i64 j]) ∧ Below w.heap.size w w' := by
  have h := implGet_any s i w hs
  rw [hT] at h
  exact h
theorem specGet_v {s : ByteArray} {i k n j : Int} {x : ByteArray} (hT : getT s i = (k, n, x, j)) (w : World) (hs : s.size ≤ 1048576) :
    Calls Tryz.prog 23 #[.string s, .int .i64 i] w fun e w' => e = .returned (.tuple #[(.agg #[.int .i64 k, .int .i64 n, .string x]), .int .i64 j]) ∧ Below w.heap.size w w' := by
  have h := specGet_any s i w hs
  rw [hT] at h
  exact h
theorem getT_kind (s : ByteArray) (i : Int) : (getT s i).1 = 0 ∨ (getT s i).1 = 1 ∨ (getT s i).1 = 2 ∨ (getT s i).1 = 3 := by
  unfold getT
  split
  · unfold getN
    split
    · exact .inl rfl
    split
    · exact .inr (.inl rfl)
    split
    · exact .inr (.inr (.inl rfl))
    split
    · exact .inr (.inr (.inr rfl))
    · exact .inl rfl
  · exact .inl rfl
theorem valsJ_succ (s : ByteArray) : ∀ (q : Nat) (i : Int), valsJ s (q + 1) i = tJ s (valsJ s q i)
  | 0, _ => rfl
  | q + 1, i => by rw [valsJ, valsJ_succ s q]; rfl
theorem valsV_succ (s : ByteArray) : ∀ (q : Nat) (i : Int), valsV s (q + 1) i = valsV s q i ++ [tV s (valsJ s q i)]
  | 0, _ => rfl
  | q + 1, i => by rw [valsV, valsV_succ s q]; rfl
theorem rc_push (vs : List V3) (x : V3) : rc (vs ++ [x]) = rc vs ++ [.int .i64 x.k, .int .i64 x.n, .string x.s] := by
  unfold rc
  have hl : (vs ++ [x]).length * 3 = vs.length * 3 + 3 := by simp; omega
  rw [hl, List.range_add, List.map_append]
  congr 1
  · refine List.map_congr_left fun j hj => ?_
    have hj' := List.mem_range.1 hj
    unfold cf
    have e : (vs ++ [x]).getD (j / 3) ⟨0, 0, ⟨#[]⟩⟩ = vs.getD (j / 3) ⟨0, 0, ⟨#[]⟩⟩ := by
      rw [List.getD_eq_getElem?_getD, List.getD_eq_getElem?_getD, List.getElem?_append_left (by omega)]
    rw [e]
  · obtain ⟨h0, h1, h2⟩ := cf_at (vs := vs ++ [x]) (k := vs.length) (x := x) (by simp)
    rw [show List.range 3 = [0, 1, 2] from rfl]
    simp [h0, h1, h2]
set_option maxHeartbeats 4000000 in
set_option maxRecDepth 100000 in
theorem getCounted_no (s : ByteArray) (i : Int) (W : Nat) (w : World) (hs : s.size ≤ 1048576) (hk : (tV s i).k ≠ 1) :
    Calls Tryz.prog 22 #[.string s, .int .i64 i, .int .i64 W] w fun e w' => e = .returned (.tuple #[.agg #[.slice none 0 0, .int .i64 0], .int .i64 (-1)]) ∧ Below w.heap.size w w' := by
  obtain ⟨k, n, x, j, hT⟩ : ∃ k n x j, getT s i = (k, n, x, j) := ⟨_, _, _, _, rfl⟩
  have hkd := getT_kind s i
  have hk' : k ≠ 1 := by unfold tV at hk; rw [hT] at hk; exact hk
  rw [hT] at hkd
  dsimp only at hkd
  go_enter Tryz.func22, Tryz.ntmps22
  go_wp2_with fail
  refine Calls.mono (implGet_v hT _ hs) ?_
  rintro e w1 ⟨rfl, hb1⟩
  have hz1 := hb1.size
  simp only [World.size_alloc] at hz1
  have hf1 := (bcell hb1).2
  have hy0 : w.heap.size < w1.heap.size := by omega
  have hy1 : w.heap.size < w1.heap.size + 1 := by omega
  have hy2 : w.heap.size < w1.heap.size + 1 + 1 := by omega
  have hy3 : w.heap.size < w1.heap.size + 1 + 1 + 1 := by omega
  have hy4 : w1.heap.size < w1.heap.size + 1 + 1 := by omega
  have hy5 : w1.heap.size < w1.heap.size + 1 + 1 + 1 := by omega
  have r0 : w1.cell? ⟨w.heap.size, 0, none⟩ = some (.slice none 0 0) := cell_later hb1 (by go_simp)
  have r1 : w1.cell? ⟨w.heap.size, 1, none⟩ = some (.int .i64 0) := cell_later hb1 (by go_simp)
  have rf : ∀ o, w1.frozen? ⟨w.heap.size, o, none⟩ = false := fun o => (hf1 _ o (by simp)).trans (by go_simp)
  clear hT hk
  rcases hkd with rfl | rfl | rfl | rfl
  · go_wp2_with (first | (go_at_call 45; refine Calls.mono (formOf_0 n x _) ?_; rintro e w2 ⟨rfl, rfl⟩) | fail)
    refine bodyPost_ret (v := .tuple #[.agg #[.slice none 0 0, .int .i64 0], .int .i64 (-1)]) (by simp [results, Tryz.results22, go_sem, *]) rfl ⟨rfl, by repeat (first | (with_reducible exact Below.refl _ _) | (with_reducible refine Below.drew ?_) | (with_reducible refine Below.alloc ?_ ?hh _; case hh => first | (simp; done) | (simp; omega) | omega) | (with_reducible refine Below.setCell ?_ ?hh _; case hh => first | (simp; done) | (simp; omega) | omega) | refine bstep (by assumption) (by first | (simp; done) | (simp; omega) | omega) ?_)⟩
  · exact absurd rfl hk'
  · go_wp2_with (first | (go_at_call 45; refine Calls.mono (formOf_2 n x _) ?_; rintro e w2 ⟨rfl, rfl⟩) | fail)
    refine bodyPost_ret (v := .tuple #[.agg #[.slice none 0 0, .int .i64 0], .int .i64 (-1)]) (by simp [results, Tryz.results22, go_sem, *]) rfl ⟨rfl, by repeat (first | (with_reducible exact Below.refl _ _) | (with_reducible refine Below.drew ?_) | (with_reducible refine Below.alloc ?_ ?hh _; case hh => first | (simp; done) | (simp; omega) | omega) | (with_reducible refine Below.setCell ?_ ?hh _; case hh => first | (simp; done) | (simp; omega) | omega) | refine bstep (by assumption) (by first | (simp; done) | (simp; omega) | omega) ?_)⟩
  · go_wp2_with (first | (go_at_call 45; refine Calls.mono (formOf_3 n x _) ?_; rintro e w2 ⟨rfl, rfl⟩) | fail)
    refine bodyPost_ret (v := .tuple #[.agg #[.slice none 0 0, .int .i64 0], .int .i64 (-1)]) (by simp [results, Tryz.results22, go_sem, *]) rfl ⟨rfl, by repeat (first | (with_reducible exact Below.refl _ _) | (with_reducible refine Below.drew ?_) | (with_reducible refine Below.alloc ?_ ?hh _; case hh => first | (simp; done) | (simp; omega) | omega) | (with_reducible refine Below.setCell ?_ ?hh _; case hh => first | (simp; done) | (simp; omega) | omega) | refine bstep (by assumption) (by first | (simp; done) | (simp; omega) | omega) ?_)⟩
set_option maxHeartbeats 8000000 in
set_option maxRecDepth 100000 in
theorem getCounted_yes (s : ByteArray) (i : Int) (W : Nat) (w : World) (hs : s.size ≤ 1048576) (hW : W ≤ 255) (hk : (tV s i).k = 1) :
    Calls Tryz.prog 22 #[.string s, .int .i64 i, .int .i64 W] w fun e w' => (∃ u g, e = .returned (.tuple #[.agg #[u, .int .i64 (tV s i).n], .int .i64 (endS s W i)]) ∧ RowF w' u (valsV s W (tJ s i)) g ∧ Own w' w.heap.size g) ∧ Below w.heap.size w w' := by
  obtain ⟨i0, hi, hz0, hz1, hz2⟩ := info_parts Tryz.infoVal
  obtain ⟨k, n, x, j, hT⟩ : ∃ k n x j, getT s i = (k, n, x, j) := ⟨_, _, _, _, rfl⟩
  have hk' : k = 1 := by unfold tV at hk; rw [hT] at hk; exact hk
  have hn' : (tV s i).n = n := by unfold tV; rw [hT]
  have hj' : tJ s i = j := by unfold tJ; rw [hT]
  have he' : endS s W i = valsJ s W j := by unfold endS; rw [hj']
  rw [hn', hj', he']
  subst hk'
  clear hk hn' hj' he'
  go_enter Tryz.func22, Tryz.ntmps22
  go_wp2_with fail
  refine Calls.mono (implGet_v hT _ hs) ?_
  rintro e w1 ⟨rfl, hb1⟩
  have hzz := hb1.size
  simp only [World.size_alloc] at hzz
  have hf1 := (bcell hb1).2
  have hy0 : w.heap.size < w1.heap.size := by omega
  have hy1 : w.heap.size < w1.heap.size + 1 := by omega
  have hy2 : w.heap.size < w1.heap.size + 1 + 1 := by omega
  have hy3 : w.heap.size < w1.heap.size + 1 + 1 + 1 := by omega
  have hy4 : w1.heap.size < w1.heap.size + 1 + 1 := by omega
  have hy5 : w1.heap.size < w1.heap.size + 1 + 1 + 1 := by omega
  have r0 : w1.cell? ⟨w.heap.size, 0, none⟩ = some (.slice none 0 0) := cell_later hb1 (by go_simp)
  have r1 : w1.cell? ⟨w.heap.size, 1, none⟩ = some (.int .i64 0) := cell_later hb1 (by go_simp)
  have rf : ∀ o, w1.frozen? ⟨w.heap.size, o, none⟩ = false := fun o => (hf1 _ o (by simp)).trans (by go_simp)
  clear hT
  go_wp2_with (first | (go_at_call 45; refine Calls.mono (formOf_1 n x _) ?_; rintro e w2 ⟨rfl, rfl⟩) | fail)
  go_loopw [1, 31] (fun at' kk wr => ∃ (q : Nat) (y : Value), q ≤ W ∧ kk = .int .i64 q ∧ at' = .int .i64 (valsJ s q j) ∧ wr.ownsRow (w1.heap.size + 1 + 1 + 1 + 1) 48 3 y q (rc (valsV s q j)) ∧
      wr.cell? ⟨w1.heap.size + 1 + 1 + 1, 0, none⟩ = some y ∧ wr.cell? ⟨w1.heap.size + 1 + 1 + 1, 1, none⟩ = some (.int .i64 n) ∧ (∀ o, wr.frozen? ⟨w1.heap.size + 1 + 1 + 1, o, none⟩ = false) ∧
      (∃ v0, wr.cell? ⟨w1.heap.size, 0, none⟩ = some v0) ∧ (∃ v1, wr.cell? ⟨w1.heap.size, 1, none⟩ = some v1) ∧ (∃ v2, wr.cell? ⟨w1.heap.size, 2, none⟩ = some v2) ∧ (∀ o, wr.frozen? ⟨w1.heap.size, o, none⟩ = false) ∧
      wr.cell? ⟨w.heap.size, 0, none⟩ = some (.slice none 0 0) ∧ wr.cell? ⟨w.heap.size, 1, none⟩ = some (.int .i64 0) ∧ (∀ o, wr.frozen? ⟨w.heap.size, o, none⟩ = false) ∧ Below w.heap.size w wr ∧ w1.heap.size + 1 + 1 + 1 + 1 ≤ wr.heap.size) (fun _ kk _ => W - (intOf kk).toNat)
  case atStart =>
    refine ⟨0, .slice none 0 0, Nat.zero_le _, rfl, rfl, ⟨rfl, .inl ⟨rfl, rfl⟩⟩, by go_simp, by go_simp, fun o => by go_simp, ⟨.int .i64 1, by go_simp⟩, ⟨.int .i64 n, by go_simp⟩, ⟨.string x, by go_simp⟩, fun o => by go_simp, by go_simp, by go_simp, fun o => by go_simp, by repeat (first | (with_reducible exact Below.refl _ _) | (with_reducible refine Below.drew ?_) | (with_reducible refine Below.alloc ?_ ?hh _; case hh => first | (simp; done) | (simp; omega) | omega) | (with_reducible refine Below.setCell ?_ ?hh _; case hh => first | (simp; done) | (simp; omega) | omega) | refine bstep (by assumption) (by first | (simp; done) | (simp; omega) | omega) ?_), by simp⟩
  case round =>
    clear r0 r1 rf hf1
    obtain ⟨q, y, hq, rfl, rfl, hown, p0, p1, pf, ⟨v0, x0⟩, ⟨v1, x1⟩, ⟨v2, x2⟩, xf, r0, r1, rf, hb, hzb⟩ := hrel
    by_cases hlt : q < W
    · obtain ⟨k2, n2, s2, j2, hT2⟩ : ∃ k' n' x' j', getT s (valsJ s q j) = (k', n', x', j') := ⟨_, _, _, _, rfl⟩
      have HV : Hid (rc (valsV s (q + 1) j) = rc (valsV s q j) ++ [.int .i64 k2, .int .i64 n2, .string s2]) := by
        show rc (valsV s (q + 1) j) = _
        rw [valsV_succ, rc_push]
        unfold tV; rw [hT2]
      have HJ : Hid (valsJ s (q + 1) j = j2) := by
        show valsJ s (q + 1) j = j2
        rw [valsJ_succ]; unfold tJ; rw [hT2]
      have hol := ownsRow_lt hown
      have hv8 : y.ownBlock ≠ some w1.heap.size := fun e => by have := (hol _ e).1; omega
      have hv11 : y.ownBlock ≠ some (w1.heap.size + 1 + 1 + 1) := fun e => by have := (hol _ e).1; omega
      have hv6 : y.ownBlock ≠ some w.heap.size := fun e => by have := (hol _ e).1; omega
      go_wp2_with fail
      refine Calls.mono (implGet_v hT2 _ hs) ?_
      rintro e w2 ⟨rfl, hb2⟩
      have hzw := hb2.size
      have hfz := (bcell hb2).2
      have hcz := (bcell hb2).1
      have q0 : w2.cell? ⟨w1.heap.size + 1 + 1 + 1, 0, none⟩ = some y := (hcz _ _ (by omega)).trans p0
      have q1 : w2.cell? ⟨w1.heap.size + 1 + 1 + 1, 1, none⟩ = some (.int .i64 n) := (hcz _ _ (by omega)).trans p1
      have qf : ∀ o, w2.frozen? ⟨w1.heap.size + 1 + 1 + 1, o, none⟩ = false := fun o => (hfz _ _ (by omega)).trans (pf o)
      have y0 : w2.cell? ⟨w1.heap.size, 0, none⟩ = some v0 := (hcz _ _ (by omega)).trans x0
      have y1 : w2.cell? ⟨w1.heap.size, 1, none⟩ = some v1 := (hcz _ _ (by omega)).trans x1
      have y2 : w2.cell? ⟨w1.heap.size, 2, none⟩ = some v2 := (hcz _ _ (by omega)).trans x2
      have yf : ∀ o, w2.frozen? ⟨w1.heap.size, o, none⟩ = false := fun o => (hfz _ _ (by omega)).trans (xf o)
      have u0 : w2.cell? ⟨w.heap.size, 0, none⟩ = some (.slice none 0 0) := (hcz _ _ (by omega)).trans r0
      have u1 : w2.cell? ⟨w.heap.size, 1, none⟩ = some (.int .i64 0) := (hcz _ _ (by omega)).trans r1
      have uf : ∀ o, w2.frozen? ⟨w.heap.size, o, none⟩ = false := fun o => (hfz _ _ (by omega)).trans (rf o)
      have hown2 := ownsRow_keep hown (fun b hb' => hb2.block b (hol b hb').2)
      have hbw2 : Below w.heap.size w w2 := hb.trans (hb2.mono hb.size)
      have n1 : w1.heap.size < w2.heap.size := by omega
      have n2' : w1.heap.size + 1 + 1 + 1 < w2.heap.size := by omega
      have n3 : w.heap.size < w2.heap.size := by omega
      clear hfz hcz p0 p1 pf x0 x1 x2 xf r0 r1 rf hown
      go_wp2_with (at_builtin; refine wpList_append_own _ rfl _ _ 37 rfl (w1.heap.size + 1 + 1 + 1 + 1) 48 i0 _ 3 32 Tryz.underlying37 hi hz0 hz1 hz2 rfl (by decide) y q (rc (valsV s q j)) rfl ?hown ⟨w2.heap.size, 0, none⟩ 1 1 [.int .i64 k2, .int .i64 n2, .string s2] rfl rfl ?c1 ?c2 ?c3 ?c4 ?c5 ?_)
      case hown =>
        refine ownsRow_keep hown2 fun b hb' => ?_
        have h1 := ownsRow_lt hown2 b hb'
        rw [Below.heap_alloc _ _ _ (by simp; omega)]
        repeat rw [Below.heap_setCell _ _ _ _ (by simp; omega)]
      case c1 =>
        intro j' u hu
        match j', hu with
        | 0, hu => simp at hu; subst hu; go_simp
        | 1, hu => simp at hu; subst hu; go_simp
        | 2, hu => simp at hu; subst hu; go_simp
      case c2 => intro u hu; simp at hu; rcases hu with rfl | rfl | rfl <;> rfl
      case c3 => unfold maxLen; omega
      case c4 => omega
      case c5 => simp; omega
      intro v5 w5 hown5 hgr5 _
      have hsz5 := hgr5.size
      simp at hsz5
      have a0 : w5.cell? ⟨w1.heap.size + 1 + 1 + 1, 0, none⟩ = some y := (hgr5.cell_far _ (by simp; try omega) (fun e => hv11 e.symm)).trans (by go_simp)
      have a1 : w5.cell? ⟨w1.heap.size + 1 + 1 + 1, 1, none⟩ = some (.int .i64 n) := (hgr5.cell_far _ (by simp; try omega) (fun e => hv11 e.symm)).trans (by go_simp)
      have af : ∀ o, w5.frozen? ⟨w1.heap.size + 1 + 1 + 1, o, none⟩ = false := fun o => (hgr5.frozen_far _ (by simp; try omega) (fun e => hv11 e.symm)).trans (by go_simp)
      have b0 : w5.cell? ⟨w1.heap.size, 0, none⟩ = some (.int .i64 k2) := (hgr5.cell_far _ (by simp; try omega) (fun e => hv8 e.symm)).trans (by go_simp)
      have b1 : w5.cell? ⟨w1.heap.size, 1, none⟩ = some (.int .i64 n2) := (hgr5.cell_far _ (by simp; try omega) (fun e => hv8 e.symm)).trans (by go_simp)
      have b2 : w5.cell? ⟨w1.heap.size, 2, none⟩ = some (.string s2) := (hgr5.cell_far _ (by simp; try omega) (fun e => hv8 e.symm)).trans (by go_simp)
      have bf : ∀ o, w5.frozen? ⟨w1.heap.size, o, none⟩ = false := fun o => (hgr5.frozen_far _ (by simp; try omega) (fun e => hv8 e.symm)).trans (by go_simp)
      have d0 : w5.cell? ⟨w.heap.size, 0, none⟩ = some (.slice none 0 0) := (hgr5.cell_far _ (by simp; try omega) (fun e => hv6 e.symm)).trans (by go_simp)
      have d1 : w5.cell? ⟨w.heap.size, 1, none⟩ = some (.int .i64 0) := (hgr5.cell_far _ (by simp; try omega) (fun e => hv6 e.symm)).trans (by go_simp)
      have df : ∀ o, w5.frozen? ⟨w.heap.size, o, none⟩ = false := fun o => (hgr5.frozen_far _ (by simp; try omega) (fun e => hv6 e.symm)).trans (by go_simp)
      have hbel4 : Below w.heap.size w ((((w2.setCell ⟨w1.heap.size, 0, none⟩ (.int .i64 k2)).setCell ⟨w1.heap.size, 1, none⟩ (.int .i64 n2)).setCell ⟨w1.heap.size, 2, none⟩ (.string s2)).alloc (.cells #[.int .i64 k2, .int .i64 n2, .string s2] 48)) := by
        refine Below.alloc ?_ (by simp; omega) _
        repeat (first | (with_reducible exact hbw2) | (with_reducible refine Below.setCell ?_ ?hh _; case hh => (simp; omega)))
      have hbel5 : Below w.heap.size w w5 := hbel4.grown hgr5 (by simp; omega) (fun k' hk' => by have := (hol _ hk').1; omega)
      have hown6 : w5.ownsRow (w1.heap.size + 1 + 1 + 1 + 1) 48 3 v5 (q + 1) (rc (valsV s (q + 1) j)) := by rw [HV.out]; exact hown5
      have hol5 := ownsRow_lt hown6
      obtain ⟨g5, c5, hv5⟩ : ∃ g c, v5 = .slice (some ⟨g, 0, none⟩) (q + 1) c := by
        rcases hown6.2 with ⟨_, h0⟩ | ⟨g, cap, cur, hv, _⟩
        · omega
        · exact ⟨g, cap, hv⟩
      subst hv5
      have e5 : w1.heap.size + 1 + 1 + 1 < w5.heap.size := by omega
      have e6 : w1.heap.size < w5.heap.size := by omega
      have e7 : w.heap.size < w5.heap.size := by omega
      clear hown5 hgr5 hown2 hol hbel4 hT2 q0 q1 qf y0 y1 y2 yf u0 u1 uf
      go_wp2_with fail
      refine ⟨⟨q + 1, .slice (some ⟨g5, 0, none⟩) (q + 1) c5, hlt, by simp, by rw [HJ.out], ?_, by go_simp, by go_simp, fun o => by go_simp, ⟨.int .i64 k2, by go_simp⟩, ⟨.int .i64 n2, by go_simp⟩, ⟨.string s2, by go_simp⟩, fun o => by go_simp, by go_simp, by go_simp, fun o => by go_simp, ?_, by simp; omega⟩, by simp [intOf]; omega⟩
      · refine ownsRow_keep hown6 fun b hb' => ?_
        have h1 := hol5 b hb'
        rw [Below.heap_setCell _ _ _ _ (by simp; omega)]
      · with_reducible refine Below.setCell ?_ ?hh _
        case hh => simp; omega
        exact hbel5
    · obtain rfl : q = W := by omega
      obtain ⟨g, hRF, hOg⟩ := own_rowF (vs := valsV s q j) hown
      obtain ⟨ay, cy, hyy⟩ : ∃ a c, y = .slice a (valsV s q j).length c := by obtain ⟨a, c, h, _⟩ := hRF; exact ⟨a, c, h⟩
      subst hyy
      have e5 : w1.heap.size + 1 + 1 + 1 < wr.heap.size := by omega
      have e7 : w.heap.size < wr.heap.size := by omega
      clear hown x0 x1 x2 xf
      go_wp2_with fail
      refine bodyPost_ret (v := .tuple #[.agg #[.slice ay (valsV s q j).length cy, .int .i64 n], .int .i64 (valsJ s q j)]) (by simp [results, Tryz.results22, go_sem, *]) rfl ⟨⟨_, g, rfl, ?_, ?_⟩, ?_⟩
      · refine hRF.keep (by simp) fun b hb' => ?_
        have := hOg.2.1 b hb'
        repeat rw [Below.heap_setCell _ _ _ _ (by simp; omega)]
      · refine Own.keep (w := wr) ⟨hOg.1, fun b hb' => by have := hOg.2.1 b hb'; omega, hOg.2.2⟩ fun b hb' => ?_
        have := hOg.2.1 b hb'
        repeat rw [Below.heap_setCell _ _ _ _ (by simp; omega)]
      · repeat (first | (with_reducible exact hb) | (with_reducible refine Below.setCell ?_ ?hh _; case hh => (first | (simp; done) | (simp; omega))))
end Go.Proofs.YtiaafgmjigbjlaaGreatDoor
/- Own text. Rows that are drawn: the contract of spec.l02Rows. -/
namespace Go.Proofs.YtiaafgmjigbjlaaGreatDoor
open Go.RowKit Go.Deep
set_option linter.unusedVariables false
theorem Drew.up {w w1 w2 : World} {B : Nat} {v : Value} {l : Nat} (h : Drew B v l w w1) (k : Below w.heap.size w1 w2) : Drew B v l w w2 := by
  have hlt := h.lt
  have hz := h.chg.size
  refine ⟨h.lt, h.cur.keep k.size (fun b hb => k.block b (by omega)), ⟨k.os.trans h.chg.os, k.tape.trans h.chg.tape, k.output.trans h.chg.output, Nat.le_trans hz k.size, fun j hj hF => (k.block j hj).trans (h.chg.block j hj hF), fun f b hb o => ?_⟩⟩
  rcases List.mem_singleton.1 hb with rfl
  exact (frozen_blk (k.block _ hlt)).trans (h.chg.free f _ (by simp) o)
theorem ret_slice {w : World} {N n e s : Nat} {v : Value} {xs : List Value} (h : w.ownsRow N e s v n xs) : ∃ ao cap, v = .slice ao n cap := by
  rcases h.2 with ⟨rfl, h0⟩ | ⟨g, cap, cur, rfl, _⟩
  · exact ⟨none, 0, by rw [h0]⟩
  · exact ⟨_, _, rfl⟩
/-- values as they are drawn. -/
def VsOk (vs : List V3) : Prop := ∀ y ∈ vs, 0 ≤ y.k ∧ y.k ≤ 3 ∧ -9223372036854775808 ≤ y.n ∧ y.n ≤ 9223372036854775807 ∧ y.s.size ≤ 8
theorem VsOk.push {vs : List V3} {x : V3} (h : VsOk vs) (hx : 0 ≤ x.k ∧ x.k ≤ 3 ∧ -9223372036854775808 ≤ x.n ∧ x.n ≤ 9223372036854775807 ∧ x.s.size ≤ 8) : VsOk (vs ++ [x]) := by
  intro y hy
  rcases List.mem_append.1 hy with hy | hy
  · exact h y hy
  · rcases List.mem_singleton.1 hy with rfl; exact hx
/-- a list of rows in memory of the call's own from N on. -/
structure RrO (w : World) (N : Nat) (y : Value) (rs : List (List V3)) (us : List Value) : Prop where
  ul : us.length = rs.length
  own : w.ownsRow N 37 1 y rs.length us
  row : ∀ (i : Nat) (r : List V3) (u : Value), rs[i]? = some r → us[i]? = some u → ∃ g, RowF w u r g ∧ Own w N g ∧ ∀ b ∈ g, y.ownBlock ≠ some b
theorem RrO.keep {w w' : World} {N : Nat} {y : Value} {rs : List (List V3)} {us : List Value} (h : RrO w N y rs us) (hs : w.heap.size ≤ w'.heap.size) (hb : ∀ b, N ≤ b → b < w.heap.size → w'.heap[b]? = w.heap[b]?) : RrO w' N y rs us :=
  ⟨h.ul, ownsRow_keep h.own fun b hv => hb b (ownsRow_lt h.own b hv).1 (ownsRow_lt h.own b hv).2, fun i r u hr hu => by
    obtain ⟨g, h1, h2, h3⟩ := h.row i r u hr hu
    have k := fun b hg => hb b (h2.2.1 b hg) (h1.lt b hg)
    exact ⟨g, h1.keep hs k, h2.keep k, h3⟩⟩
theorem RrO.push {w w' : World} {N : Nat} {y y' u : Value} {rs : List (List V3)} {us : List Value} {r : List V3} {g : List Nat} (h : RrO w N y rs us) (hR : RowF w u r g) (hg : Own w N g) (hd : ∀ b ∈ g, y.ownBlock ≠ some b)
    (ho : w'.ownsRow N 37 1 y' (rs.length + 1) (us ++ [u])) (hgr : w.grownBy w' y.ownBlock) (hat : ∀ b, y'.ownBlock = some b → y.ownBlock = some b ∨ w.heap.size ≤ b) : RrO w' N y' (rs ++ [r]) (us ++ [u]) := by
  have key : ∀ (u : Value) (r : List V3) (g : List Nat), RowF w u r g → Own w N g → (∀ b ∈ g, y.ownBlock ≠ some b) → RowF w' u r g ∧ Own w' N g ∧ ∀ b ∈ g, y'.ownBlock ≠ some b := fun u r g h1 h0 h2 => by
    have k := fun b hb => hgr.block b (h1.lt b hb) (fun e => h2 b hb e.symm)
    refine ⟨h1.keep hgr.size k, h0.keep k, fun b hb e => ?_⟩
    rcases hat b e with e' | e'
    · exact h2 b hb e'
    · have := h1.lt b hb; omega
  refine ⟨by simp [h.ul], by simpa using ho, fun i r' u' hr hu => ?_⟩
  rcases Nat.lt_or_ge i rs.length with hi | hi
  · rw [List.getElem?_append_left hi] at hr
    rw [List.getElem?_append_left (by rw [h.ul]; exact hi)] at hu
    obtain ⟨g', h1, h2, h3⟩ := h.row i r' u' hr hu
    obtain ⟨k1, k2, k3⟩ := key u' r' g' h1 h2 h3
    exact ⟨g', k1, k2, k3⟩
  · rw [List.getElem?_append_right hi] at hr
    rw [List.getElem?_append_right (by rw [h.ul]; exact hi)] at hu
    have hi0 : i - rs.length = 0 := by
      rcases Nat.eq_zero_or_pos (i - rs.length) with e | e
      · exact e
      · rw [List.getElem?_eq_none (by simp; omega)] at hr; cases hr
    rw [h.ul] at hu
    rw [hi0] at hr hu
    simp at hr hu
    subst hr hu
    obtain ⟨k1, k2, k3⟩ := key u r g hR hg hd
    exact ⟨g, k1, k2, k3⟩
theorem infoVal9 : (Tryz.prog.info? 48).map (fun i => (i.zero, i.size, i.bytes)) = some (some (.agg #[.int .i64 0, .int .i64 0, .string ⟨#[]⟩]), 3, 32) := by kernel_rfl
theorem infoRow9 : (Tryz.prog.info? 37).map (fun i => (i.zero, i.size, i.bytes)) = some (some (.slice none 0 0), 1, 24) := by kernel_rfl
set_option maxHeartbeats 4000000 in
set_option maxRecDepth 100000 in
theorem l02Rows_any (B : Nat) (v : Value) (l : Nat) (W n : Nat) (w : World) (h : Cur w B v l) (hW : W ≤ 100) (hn : n ≤ 100) :
    Calls Tryz.prog 38 #[.pointer (some ⟨B, 0, none⟩), .int .i64 W, .int .i64 n] w fun e w' => (∃ (y : Value) (rs : List (List V3)) (us : List Value), e = .returned y ∧ rs.length = n ∧ (∀ r ∈ rs, r.length = W ∧ VsOk r) ∧ RrO w' w.heap.size y rs us) ∧ Drew B v l w w' := by
  obtain ⟨i0, hi, hz0, hz1, hz2⟩ := info_parts infoVal9
  obtain ⟨j0, hj, hy0, hy1, hy2⟩ := info_parts infoRow9
  have hBl := h.lt
  go_enter Tryz.func38, Tryz.ntmps38
  go_wp2
  go_loopw [7, 8] (fun y i wr => ∃ (k : Nat) (rs : List (List V3)) (us : List Value), k ≤ n ∧ i = .int .i64 k ∧ rs.length = k ∧ (∀ r ∈ rs, r.length = W ∧ VsOk r) ∧ RrO wr w.heap.size y rs us ∧ Drew B v l w wr) (fun _ i _ => n - (intOf i).toNat)
  case atStart =>
    refine ⟨0, [], [], Nat.zero_le _, rfl, rfl, (fun r hr => by cases hr), ⟨rfl, ⟨rfl, .inr ⟨w.heap.size, 0, #[], rfl, Nat.le_refl _, heap_alloc_new w _, Nat.le_refl _, by unfold maxLen; omega, by simp, by simp⟩⟩, fun i r u hr => by simp at hr⟩, h.start.alloc _⟩
  case round =>
    clear h
    obtain ⟨k, rs, us, hk, rfl, rfl, hro, hR, hD⟩ := hrel
    have hzr := hD.chg.size
    generalize wr = wo at *
    by_cases hlt : rs.length < n
    · go_wp2
      go_loopw [9, 10] (fun x j w2 => ∃ (q : Nat) (vs : List V3), q ≤ W ∧ j = .int .i64 q ∧ vs.length = q ∧ VsOk vs ∧ w2.ownsRow wo.heap.size 48 3 x q (rc vs) ∧ Drew B v l w w2 ∧ wo.heap.size ≤ w2.heap.size ∧ ∀ b, b < wo.heap.size → b ≠ B → w2.heap[b]? = wo.heap[b]?) (fun _ j _ => W - (intOf j).toNat)
      case atStart =>
        refine ⟨0, [], Nat.zero_le _, rfl, rfl, (fun y hy => by cases hy), ⟨by simp [rc], .inr ⟨wo.heap.size, 0, #[], rfl, Nat.le_refl _, heap_alloc_new wo _, Nat.le_refl _, by unfold maxLen; omega, by simp, by simp [rc]⟩⟩, hD.alloc _, by simp, fun b hb _ => Below.heap_alloc _ _ _ hb⟩
      case round =>
        obtain ⟨q, vs, hq, rfl, hvl, hvo, hown, hD2, hz2', hk2⟩ := hrel
        have hol := ownsRow_lt hown
        by_cases hlt2 : q < W
        · go_wp2_with fail
          refine Calls.mono (l01Value_any B v l wr hD2.cur) ?_
          rintro e w3 ⟨⟨kk, nn, ss, rfl, k0, k1, n0, n1, hs⟩, hd3⟩
          have hz3 := hd3.chg.size
          have hown3 : w3.ownsRow wo.heap.size 48 3 _ q (rc vs) := ownsRow_keep hown fun b hb => hd3.old (hol b hb).2 (by have := (hol b hb).1; omega)
          have hol3 := ownsRow_lt hown3
          obtain ⟨ax, cx, rfl⟩ := ret_slice hown
          have bal : Below w3.heap.size w3 (w3.alloc (.cells #[.int .i64 kk, .int .i64 nn, .string ss] 48)) := (Below.refl _ _).alloc (Nat.le_refl _) _
          have hown4 := ownsRow_keep (w' := w3.alloc (.cells #[.int .i64 kk, .int .i64 nn, .string ss] 48)) hown3 fun b hb => bal.block b (hol3 b hb).2
          have hnb := heap_alloc_new w3 (.cells #[.int .i64 kk, .int .i64 nn, .string ss] 48)
          have hDm := hD2.trans hd3
          have hk3 : ∀ b, b < wo.heap.size → b ≠ B → w3.heap[b]? = wo.heap[b]? := fun b hb hne => (hd3.old (by omega) hne).trans (hk2 b hb hne)
          clear hown hown3 hD2 hd3 hk2 hR hD
          go_wp2_with (at_builtin; refine wpList_append_own_at _ rfl _ _ 37 rfl wo.heap.size 48 i0 _ 3 32 Tryz.underlying37 hi hz0 hz1 hz2 rfl (by decide) (.slice ax q cx) q (rc vs) rfl hown4 ⟨w3.heap.size, 0, none⟩ 1 1 [.int .i64 kk, .int .i64 nn, .string ss] rfl (by simp) ?c1 ?c2 ?c3 ?c4 ?c5 ?_)
          case c1 => exact World.news_of_block (cs := #[.int .i64 kk, .int .i64 nn, .string ss]) (t := 48) (fr := (0, 0)) hnb
          case c2 => simp [Value.oneCell']
          case c3 => unfold maxLen; omega
          case c4 => omega
          case c5 => simp; omega
          intro v5 w5 hown5 hgr5 _ hat5
          have hsz5 := hgr5.size
          simp at hsz5
          have hD5 : Drew B v l w w5 := hDm.up (((Below.refl _ w3).alloc (by omega) _).grown hgr5 (by simp; omega) (fun k hk => by have := (hol3 k hk).1; omega))
          have hk5 : ∀ b, b < wo.heap.size → b ≠ B → w5.heap[b]? = wo.heap[b]? := fun b hb hne => (hgr5.block b (by simp; omega) (fun e => by have := (hol3 b e.symm).1; omega)).trans ((bal.block b (by omega)).trans (hk3 b hb hne))
          have hown6 : w5.ownsRow wo.heap.size 48 3 v5 (q + 1) (rc (vs ++ [⟨kk, nn, ss⟩])) := by rw [rc_push]; exact hown5
          obtain ⟨a5, c5, rfl⟩ := ret_slice hown6
          clear hown5 hgr5 hat5 hown4 hnb bal hDm hk3
          go_wp2
          exact ⟨⟨q + 1, vs ++ [⟨kk, nn, ss⟩], hlt2, by simp, by simp [hvl], hvo.push ⟨k0, k1, n0, n1, hs⟩, hown6, hD5, by omega, hk5⟩, by simp [intOf]; omega⟩
        · obtain rfl : q = W := by omega
          obtain ⟨g, hRF, hOg⟩ := own_rowF hown
          have hR2 := hR.keep hz2' fun b h1 h2 => hk2 b h2 (by omega)
          have hul := ownsRow_lt hR.own
          obtain ⟨ax, cx, rfl⟩ := ret_slice hown
          obtain ⟨ay, cy, rfl⟩ := ret_slice hR.own
          have bal : Below wr.heap.size wr (wr.alloc (.cells #[.slice ax q cx] 37)) := (Below.refl _ _).alloc (Nat.le_refl _) _
          have hR3 := hR2.keep bal.size fun b _ h2 => bal.block b h2
          have hRF3 := hRF.keep bal.size fun b hb => bal.block b (hRF.lt b hb)
          have hnb := heap_alloc_new wr (.cells #[.slice ax q cx] 37)
          have hge : ∀ b ∈ g, wo.heap.size ≤ b := fun b hb => hOg.2.1 b hb
          have hO3 := hOg.keep fun b hb => bal.block b (hRF.lt b hb)
          clear hown hRF hR hR2 hk2 hOg hD hol
          go_wp2_with (at_builtin; refine wpList_append_own_at _ rfl _ _ 69 rfl w.heap.size 37 j0 _ 1 24 Tryz.underlying69 hj hy0 hy1 hy2 rfl (by decide) (.slice ay rs.length cy) rs.length us rfl hR3.own ⟨wr.heap.size, 0, none⟩ 1 1 [.slice ax q cx] rfl (by simp) ?c1 ?c2 ?c3 ?c4 ?c5 ?_)
          case c1 => exact World.news_of_block (cs := #[.slice ax q cx]) (t := 37) (fr := (0, 0)) hnb
          case c2 => simp [Value.oneCell']
          case c3 => unfold maxLen; omega
          case c4 => omega
          case c5 => simp; omega
          intro v5 w5 hown5 hgr5 _ hat5
          have hsz5 := hgr5.size
          simp at hsz5
          have hP := hR3.push hRF3 ⟨hO3.1, fun b hb => by have := hge b hb; omega, hO3.2.2⟩ (fun b hb e => by have := hge b hb; have := (hul b e).2; omega) hown5 hgr5 (fun b hb5 => by
            rcases hat5 with h | h
            · left; rw [← h]; exact hb5
            · right; rw [h] at hb5; cases hb5; (first | exact Nat.le_refl _ | (simp; done) | (simp; omega)))
          have hD5 : Drew B v l w w5 := hD2.up (((Below.refl _ wr).alloc (by omega) _).grown hgr5 (by simp; omega) (fun k hk => by have := (hul k hk).1; omega))
          obtain ⟨a5, c5, rfl⟩ := ret_slice hP.own
          clear hown5 hgr5 hat5 hnb bal hR3 hRF3
          go_wp2
          exact ⟨⟨rs.length + 1, rs ++ [vs], us ++ [.slice ax q cx], hlt, by simp, by simp, fun r hr => by
            rcases List.mem_append.1 hr with hr | hr
            · exact hro r hr
            · rcases List.mem_singleton.1 hr with rfl; exact ⟨hvl, hvo⟩, hP, hD5⟩, by simp [intOf]; omega⟩
    · have hrl : rs.length = n := by omega
      obtain ⟨ay, cy, rfl⟩ := ret_slice hR.own
      have HR : Hid (RrO wo w.heap.size (.slice ay rs.length cy) rs us) := hR
      clear hR
      go_wp2
      go_returns
      exact ⟨⟨_, rs, us, rfl, hrl, hro, HR.out⟩, hD⟩
end Go.Proofs.YtiaafgmjigbjlaaGreatDoor
/- Own text. A bag that is drawn: the contract of spec.l02Bag. -/
namespace Go.Proofs.YtiaafgmjigbjlaaGreatDoor
open Go.RowKit Go.Deep Go.ChangeShapes Go.WideShapes
set_option linter.unusedVariables false
theorem putC_mem {cs : List C2} {row : List V3} {n : Int} : ∀ c ∈ putC cs row n, c ∈ cs ∨ (c.r = row ∧ (c.n = n ∨ ∃ c' ∈ cs, c.n = n + c'.n)) := by
  intro c hc
  unfold putC at hc
  have mid : ∀ (i : Nat), c ∈ cs.take i ++ ⟨row, n⟩ :: cs.drop i → c ∈ cs ∨ (c.r = row ∧ (c.n = n ∨ ∃ c' ∈ cs, c.n = n + c'.n)) := fun i h => by
    rcases List.mem_append.1 h with h | h
    · exact .inl (List.mem_of_mem_take h)
    · rcases List.mem_cons.1 h with rfl | h
      · exact .inr ⟨rfl, .inl rfl⟩
      · exact .inl (List.mem_of_mem_drop h)
  split at hc
  · rename_i c0 h0
    split at hc
    · rename_i h1
      have e := (cmpRow_0 _ _).1 h1
      split at hc
      · rcases List.mem_or_eq_of_mem_set hc with h | rfl
        · exact .inl h
        · exact .inr ⟨e, .inr ⟨c0, List.mem_of_getElem? h0, rfl⟩⟩
      · rcases List.mem_append.1 hc with h | h
        · exact .inl (List.mem_of_mem_take h)
        · exact .inl (List.mem_of_mem_drop h)
    · split at hc
      · exact mid _ hc
      · exact .inl hc
  · split at hc
    · exact mid _ hc
    · exact .inl hc
theorem putC_len (cs : List C2) (row : List V3) (n : Int) : (putC cs row n).length ≤ cs.length + 1 := by
  unfold putC
  have hl := ahead_le cs row
  split
  · split
    · split
      · simp
      · simp; omega
    · split
      · simp; omega
      · omega
  · split
    · simp; omega
    · omega
/-- a bag as it is drawn: rows of W values, in order. -/
structure BgI (W M : Nat) (cs : List C2) : Prop where
  asc : Asc cs
  nz : ∀ c ∈ cs, c.n ≠ 0
  num : ∀ c ∈ cs, -(M : Int) ≤ c.n ∧ c.n ≤ M
  row : ∀ c ∈ cs, c.r.length = W ∧ VsOk c.r
  len : cs.length ≤ M
theorem BgI.nil (W : Nat) : BgI W 0 [] := ⟨by simp [Asc], fun c h => (by cases h), fun c h => (by cases h), fun c h => (by cases h), by simp⟩
theorem BgI.put {W M : Nat} {cs : List C2} {row : List V3} {n : Int} (h : BgI W M cs) (hr : row.length = W ∧ VsOk row) (h0 : -3 ≤ n) (h1 : n ≤ 3) : BgI W (M + 3) (putC cs row n) := by
  obtain ⟨p1, p2, _⟩ := put_all row n h.asc h.nz
  refine ⟨p1, p2, fun c hc => ?_, fun c hc => ?_, ?_⟩
  · rcases putC_mem c hc with hc | ⟨_, e | ⟨c', hc', e⟩⟩
    · have := h.num c hc; omega
    · omega
    · have := h.num c' hc'; omega
  · rcases putC_mem c hc with hc | ⟨e, _⟩
    · exact h.row c hc
    · rw [e]; exact hr
  · have := putC_len cs row n
    have := h.len
    omega
theorem BgI.up {W M M' : Nat} {cs : List C2} (h : BgI W M cs) (hM : M ≤ M') : BgI W M' cs := ⟨h.asc, h.nz, fun c hc => by have := h.num c hc; omega, h.row, Nat.le_trans h.len hM⟩
theorem bag2 {w : World} {b : Nat} {a0 a1 : Value} {t : TypeId} (h : w.heap[b]? = some (.cells #[a0, a1] t (0, 0))) : w.cell? ⟨b, 0, none⟩ = some a0 ∧ w.cell? ⟨b, 1, none⟩ = some a1 ∧ ∀ i, w.frozen? ⟨b, i, none⟩ = false :=
  ⟨by rw [Lib.cell_of_heap h]; rfl, by rw [Lib.cell_of_heap h]; rfl, fun i => Lib.frozen_of_heap h i⟩
theorem set2 {w : World} {b : Nat} {a0 a1 : Value} {t : TypeId} (h : w.heap[b]? = some (.cells #[a0, a1] t (0, 0))) (b0 b1 : Value) : ((w.setCell ⟨b, 0, none⟩ b0).setCell ⟨b, 1, none⟩ b1).heap[b]? = some (.cells #[b0, b1] t (0, 0)) := by
  simp [World.setCell, Array.getElem?_modify, h]
theorem far2 {w : World} {b k : Nat} (b0 b1 : Value) (hk : k ≠ b) : ((w.setCell ⟨b, 0, none⟩ b0).setCell ⟨b, 1, none⟩ b1).heap[k]? = w.heap[k]? := by
  rw [Below.heap_setCell _ _ _ _ (by simpa using hk), Below.heap_setCell _ _ _ _ (by simpa using hk)]
theorem Drew.cellsB {w w' : World} {B : Nat} {v : Value} {l : Nat} (h : Drew B v l w w') {b : Nat} {o : Obj} (hb : w.heap[b]? = some o) (hne : b ≠ B) : w'.heap[b]? = some o := by
  have hlt : b < w.heap.size := by
    rcases Nat.lt_or_ge b w.heap.size with h' | h'
    · exact h'
    · simp [Array.getElem?_eq_none h'] at hb
  exact (h.old hlt hne).trans hb
theorem RrO.at {w : World} {N : Nat} {ay : Option Addr} {cy : Nat} {rs : List (List V3)} {us : List Value} (h : RrO w N (.slice ay rs.length cy) rs us) {k : Nat} (hk : k < rs.length) :
    ∃ yb r u g, ay = some ⟨yb, 0, none⟩ ∧ N ≤ yb ∧ yb < w.heap.size ∧ rs[k]? = some r ∧ w.cell? ⟨yb, k, none⟩ = some u ∧ RowF w u r g ∧ Own w N g ∧ rs.length ≤ cy ∧ cy ≤ maxLen := by
  obtain ⟨u, e2⟩ : ∃ u, us[k]? = some u := ⟨us[k]'(by rw [h.ul]; exact hk), by simp⟩
  obtain ⟨g, h1, h2, _⟩ := h.row k rs[k] u (by simp [hk]) e2
  have hlt := ownsRow_lt h.own
  rcases h.own.2 with ⟨_, h0⟩ | ⟨yb, cap, cur, e, hg, hc, hn, hm, _, ht⟩
  · omega
  · injection e with e1 _ e3
    subst e1 e3
    refine ⟨yb, rs[k], u, g, rfl, hg, (hlt yb rfl).2, by simp [hk], ?_, h1, h2, hn, hm⟩
    rw [Lib.cell_of_heap hc, ← Array.getElem?_toList]
    rw [← ht, List.getElem?_take] at e2
    split at e2
    · exact e2
    · cases e2
structure BgW (w w2 wr : World) (B : Nat) (v : Value) (l W : Nat) (u : Value) (cs : List C2) (us : List Value) (G : List (List Nat)) : Prop where
  X : wr.heap[w.heap.size + 1]? = some (.cells #[.int .i64 W, u] 26 (0, 0))
  R : wr.heap[w.heap.size]? = some (.cells #[.int .i64 0, .slice none 0 0] 26 (0, 0))
  own : BagOwn wr w2.heap.size u cs us G
  D : Drew B v l w wr
  z : w2.heap.size ≤ wr.heap.size
  kp : ∀ b, b < w2.heap.size → b ≠ B → b ≠ w.heap.size + 1 → wr.heap[b]? = w2.heap[b]?
theorem BgW.drew {w w2 wr wn : World} {B : Nat} {v : Value} {l W : Nat} {u : Value} {cs : List C2} {us : List Value} {G : List (List Nat)} (h : BgW w w2 wr B v l W u cs us G) (hd : Drew B v l wr wn) (hB : B < w.heap.size) (hw : w.heap.size + 1 < w2.heap.size) : BgW w w2 wn B v l W u cs us G := by
  have hz := h.z
  exact ⟨hd.cellsB h.X (by omega), hd.cellsB h.R (by omega), h.own.keep hd.chg.size fun b h1 h2 => hd.old h2 (by omega), h.D.trans hd, Nat.le_trans hz hd.chg.size, fun b h1 h2 h3 => (hd.old (by omega) h2).trans (h.kp b h1 h2 h3)⟩
theorem BgW.put {w w2 wr w5 : World} {B : Nat} {v : Value} {l W : Nat} {u u5 : Value} {cs P : List C2} {us us5 : List Value} {G G5 : List (List Nat)} (h : BgW w w2 wr B v l W u cs us G) (hw : w.heap.size + 1 < w2.heap.size) (hB5 : BagOwn w5 w2.heap.size u5 P us5 G5) (hb5 : Below w2.heap.size wr w5) :
    BgW w w2 ((w5.setCell ⟨w.heap.size + 1, 0, none⟩ (.int .i64 W)).setCell ⟨w.heap.size + 1, 1, none⟩ u5) B v l W u5 P us5 G5 := by
  have hz := h.z
  have hz5 := hb5.size
  refine ⟨set2 ((hb5.block _ hw).trans h.X) _ _, (far2 _ _ (by omega)).trans ((hb5.block _ (by omega)).trans h.R), hB5.keep (by simp) (fun b h1 h2 => far2 _ _ (by omega)), ((h.D.up (hb5.mono (by omega))).set (p := ⟨w.heap.size + 1, 0, none⟩) (by simp) _).set (p := ⟨w.heap.size + 1, 1, none⟩) (by simp) _, by simp; omega, fun b h1 h2 h3 => (far2 _ _ h3).trans ((hb5.block b h1).trans (h.kp b h1 h2 h3))⟩
set_option maxHeartbeats 4000000 in
set_option maxRecDepth 100000 in
theorem l02Bag_any (B : Nat) (v : Value) (l : Nat) (W : Nat) (minus : Bool) (w : World) (h : Cur w B v l) (hW : W ≤ 100) :
    Calls Tryz.prog 36 #[.pointer (some ⟨B, 0, none⟩), .int .i64 W, .bool minus] w fun e w' => (∃ (u : Value) (cs : List C2) (us : List Value) (G : List (List Nat)), e = .returned (.agg #[.int .i64 W, u]) ∧ BgI W 30 cs ∧ BagOwn w' w.heap.size u cs us G) ∧ Drew B v l w w' := by
  have hBl := h.lt
  have bal : Below w.heap.size w ((w.alloc (.cells #[.int .i64 0, .slice none 0 0] 26)).alloc (.cells #[.int .i64 W, .slice none 0 0] 26)) := ((Below.refl _ _).alloc (Nat.le_refl _) _).alloc (by simp) _
  have hD0 := h.start.below bal
  have hR0 : ((w.alloc (.cells #[.int .i64 0, .slice none 0 0] 26)).alloc (.cells #[.int .i64 W, .slice none 0 0] 26)).heap[w.heap.size]? = some (.cells #[.int .i64 0, .slice none 0 0] 26 (0, 0)) := (Below.heap_alloc _ _ _ (by simp)).trans (heap_alloc_new w _)
  have hX0 : ((w.alloc (.cells #[.int .i64 0, .slice none 0 0] 26)).alloc (.cells #[.int .i64 W, .slice none 0 0] 26)).heap[w.heap.size + 1]? = some (.cells #[.int .i64 W, .slice none 0 0] 26 (0, 0)) := by
    have h := heap_alloc_new (w.alloc (.cells #[.int .i64 0, .slice none 0 0] 26)) (.cells #[.int .i64 W, .slice none 0 0] 26)
    rwa [World.size_alloc] at h
  clear h bal
  go_enter Tryz.func36, Tryz.ntmps36
  go_wp2_with fail
  generalize (w.alloc (.cells #[.int .i64 0, .slice none 0 0] 26)).alloc (.cells #[.int .i64 W, .slice none 0 0] 26) = wa at *
  refine Calls.mono (l01Below_any 6 B v l wa hD0.cur (by omega) (by omega)) ?_
  rintro e w1 ⟨⟨m, rfl, m0, m1⟩, hd1⟩
  have hR1 := hd1.cellsB hR0 (by omega)
  have hX1 := hd1.cellsB hX0 (by omega)
  have hD1 := hD0.trans hd1
  obtain ⟨mn, rfl⟩ : ∃ mn : Nat, m = mn := ⟨m.toNat, by omega⟩
  clear hR0 hX0 hD0 hd1
  go_wp2_with fail
  refine Calls.mono (l02Rows_any B v l W mn w1 hD1.cur hW (by omega)) ?_
  rintro e w2 ⟨⟨y, rs, ru, rfl, rfl, hro, hRr⟩, hd2⟩
  have hR2 := hd2.cellsB hR1 (by omega)
  have hX2 := hd2.cellsB hX1 (by omega)
  have hD2 := hD1.trans hd2
  have hz1 := hD1.chg.size
  have hX1l : w.heap.size + 1 < w1.heap.size := by
    rcases Nat.lt_or_ge (w.heap.size + 1) w1.heap.size with h' | h'
    · exact h'
    · simp [Array.getElem?_eq_none h'] at hX1
  have hz2 := hd2.chg.size
  obtain ⟨ay, cy, rfl⟩ := ret_slice hRr.own
  have hX2l : w.heap.size + 1 < w2.heap.size := by
    rcases Nat.lt_or_ge (w.heap.size + 1) w2.heap.size with h' | h'
    · exact h'
    · simp [Array.getElem?_eq_none h'] at hX2
  clear hR1 hX1 hD1 hd2
  go_wp2_with fail
  go_loopw [9] (fun i wr => ∃ (k : Nat) (u : Value) (cs : List C2) (us : List Value) (G : List (List Nat)), k ≤ rs.length ∧ i = .int .i64 k ∧ BgI W (3 * k) cs ∧ BgW w w2 wr B v l W u cs us G) (fun i _ => rs.length - (intOf i).toNat)
  case atStart => exact ⟨0, .slice none 0 0, [], [], [], Nat.zero_le _, rfl, BgI.nil W, ⟨hX2, hR2, BagOwn.nil _ _, hD2, Nat.le_refl _, fun b _ _ _ => rfl⟩⟩
  case round =>
    clear hR2 hX2 hD2
    obtain ⟨k, u, cs, us, G, hk, rfl, hI, hS⟩ := hrel
    by_cases hlt : k < rs.length
    · obtain ⟨yb, r, ur, g, rfl, hyN, hyl, hrk, hcell, hrf, hgo, hlc, hcm⟩ := hRr.at hlt
      have hgg := hgo.2.1
      obtain ⟨ra, rc', rfl⟩ := hrf.shapeX
      unfold maxLen at hcm
      have HRow : Hid (r.length = W ∧ VsOk r) := hro r (List.mem_of_getElem? hrk)
      have hcn : ∀ c ∈ cs, -4000000000000000000 ≤ c.n ∧ c.n ≤ 4000000000000000000 := fun c hc => by have := hI.num c hc; omega
      have hcl : cs.length ≤ 2097152 := by have := hI.len; omega
      have hrn : r.length ≤ 1048576 := by have := HRow.out.1; omega
      have hkI : (k : Int) < rs.length := by omega
      clear hRr hro
      go_wp2_with fail
      refine Calls.mono (l01Below_any 3 B v l wr hS.D.cur (by omega) (by omega)) ?_
      rintro e w3 ⟨⟨x, rfl, x0, x1⟩, hd3⟩
      replace hS := hS.drew hd3 hBl hX2l
      clear hd3
      cases minus
      · obtain ⟨au, cu, rfl⟩ := hS.own.shape
        obtain ⟨p0, p1, pf⟩ := bag2 hS.X
        have hXl : w.heap.size + 1 < w3.heap.size := by have := hS.z; omega
        have kY := hS.kp yb hyl (by omega) (by omega)
        have c0 := (cell_blk (o := k) kY).trans hcell
        have hRF := hrf.keep (by have := hS.z; omega : w2.heap.size ≤ w3.heap.size) fun b hb => hS.kp b (hrf.lt b hb) (by have := hgg b hb; omega) (by have := hgg b hb; omega)
        have hYl : yb < w3.heap.size := by have := hS.z; omega
        go_wp2_with fail
        refine startE 7 (fun w' => w'.cell? ⟨w.heap.size + 1, 0, none⟩ = some (.int .i64 W) ∧ w'.cell? ⟨w.heap.size + 1, 1, none⟩ = some (.slice au cs.length cu) ∧ w'.cell? ⟨yb, k, none⟩ = some (.slice ra r.length rc')) (by kernel_rfl) ?_ (fun hHeld => ?_)
        · (try dsimp only)
          exact ⟨p0, p1, c0⟩
        refine takeE (i := 0) (d := 34) (v := ?_) rfl rfl (by kernel_rfl) (by kernel_rfl) (by kernel_rfl) (by kernel_rfl) (fun _ _ _ h => h) (by rfl) (by assumption) ?_ ?_
        rotate_left
        · intro w' hSw; (try dsimp only at hSw); go_simp; try exact rfl
        try simp only [List.setIfInBounds_toArray, List.set_cons_zero, List.set_cons_succ]
        refine takeE (i := 1) (d := 35) (v := ?_) rfl rfl (by kernel_rfl) (by kernel_rfl) (by kernel_rfl) (by kernel_rfl) (fun _ _ _ h => h) (by rfl) (by assumption) ?_ ?_
        rotate_left
        · intro w' hSw; (try dsimp only at hSw); go_simp; try exact rfl
        try simp only [List.setIfInBounds_toArray, List.set_cons_zero, List.set_cons_succ]
        refine takeE (i := 2) (d := 36) (v := ?_) rfl rfl (by kernel_rfl) (by kernel_rfl) (by kernel_rfl) (by kernel_rfl) (fun _ _ _ h => h) (by rfl) (by assumption) ?_ ?_
        rotate_left
        · intro w' hSw; (try dsimp only at hSw); go_simp; try exact rfl
        try simp only [List.setIfInBounds_toArray, List.set_cons_zero, List.set_cons_succ]
        refine takeE (i := 3) (d := 37) (v := ?_) rfl rfl (by kernel_rfl) (by kernel_rfl) (by kernel_rfl) (by kernel_rfl) (fun _ _ _ h => h) (by rfl) (by assumption) ?_ ?_
        rotate_left
        · intro w' hSw; (try dsimp only at hSw); go_simp; try exact rfl
        try simp only [List.setIfInBounds_toArray, List.set_cons_zero, List.set_cons_succ]
        refine takeE (i := 4) (d := 38) (v := ?_) rfl rfl (by kernel_rfl) (by kernel_rfl) (by kernel_rfl) (by kernel_rfl) (fun _ _ _ h => h) (by rfl) (by assumption) ?_ ?_
        rotate_left
        · intro w' hSw; (try dsimp only at hSw); go_simp; try exact rfl
        try simp only [List.setIfInBounds_toArray, List.set_cons_zero, List.set_cons_succ]
        refine takeE (i := 5) (d := 39) (v := ?_) rfl rfl (by kernel_rfl) (by kernel_rfl) (by kernel_rfl) (by kernel_rfl) (fun _ _ _ h => h) (by rfl) (by assumption) ?_ ?_
        rotate_left
        · intro w' hSw; (try dsimp only at hSw); go_simp; try exact rfl
        try simp only [List.setIfInBounds_toArray, List.set_cons_zero, List.set_cons_succ]
        refine oneE (i := 6) (by kernel_rfl) rfl (fun K hK => ?_)
        go_simp
        go_at_call 54
        refine Calls.mono (l02Put_any W (1 + x) (.slice au cs.length cu) (.slice ra r.length rc') cs us G r g w2.heap.size _ (hS.own.below (by repeat (first | (with_reducible exact Below.refl _ _) | (with_reducible refine Below.drew ?_) | (with_reducible refine Below.alloc ?_ ?hh _; case hh => first | (simp; done) | (simp; omega) | omega) | (with_reducible refine Below.setCell ?_ ?hh _; case hh => first | (simp; done) | (simp; omega) | omega) | refine bstep (by assumption) (by first | (simp; done) | (simp; omega) | omega) ?_))) (hRF.belowX (by repeat (first | (with_reducible exact Below.refl _ _) | (with_reducible refine Below.drew ?_) | (with_reducible refine Below.alloc ?_ ?hh _; case hh => first | (simp; done) | (simp; omega) | omega) | (with_reducible refine Below.setCell ?_ ?hh _; case hh => first | (simp; done) | (simp; omega) | omega) | refine bstep (by assumption) (by first | (simp; done) | (simp; omega) | omega) ?_))) hI.asc (by first | exact hS.z | (simp; exact hS.z)) hcl hrn (by omega) (by omega) hcn _ rfl) ?_
        rintro e w5 ⟨u5, us5, G5, rfl, hB5, _, _, hb5, _⟩
        obtain ⟨a5, c5, rfl⟩ := hB5.shape
        have hb5' : Below w2.heap.size w3 w5 := ⟨hb5.os, hb5.tape, hb5.output, hb5.size, hb5.block⟩
        have p05 := (cell_blk (hb5'.block (w.heap.size + 1) (by omega))).trans p0
        have p15 := (cell_blk (hb5'.block (w.heap.size + 1) (by omega))).trans p1
        have pf5 : ∀ q, w5.frozen? ⟨w.heap.size + 1, q, none⟩ = false := fun q => (frozen_blk (hb5'.block (w.heap.size + 1) (by omega))).trans (pf q)
        have c05 := (cell_blk (hb5'.block yb (by omega))).trans c0
        have hz5 : w3.heap.size ≤ w5.heap.size := hb5'.size
        try go_wp2_with fail
        refine hK.out _ _ ?_ (fun hHeld6 => ?_)
        · intro _
          (try dsimp only)
          exact ⟨p05, p15, c05⟩
        clear hK
        replace hHeld6 := hHeld6 (by decide)
        try simp only [List.setIfInBounds_toArray, List.set_cons_zero, List.set_cons_succ]
        refine oneE (i := 7) (by kernel_rfl) rfl (fun K hK => ?_)
        go_simp
        refine hK.out _ _ ?_ (fun hHeld7 => ?_)
        · exact fun h => absurd rfl h
        clear hK hHeld7
        try simp only [List.setIfInBounds_toArray, List.set_cons_zero, List.set_cons_succ]
        refine doneE (by kernel_rfl) ?_ _
        have hS5 := hS.put hX2l hB5 hb5'
        have hI5 : BgI W (3 * (k + 1)) (putC cs r (1 + x)) := (hI.put HRow.out (by omega) (by omega)).up (by omega)
        clear hS hB5 hb5 hb5' p05 p15 pf5 c05 hI hRF p0 p1 pf c0
        go_wp2
        exact ⟨⟨k + 1, _, _, _, _, hlt, by simp, hI5, hS5⟩, by simp [intOf]; omega⟩
      · go_wp2_with fail
        refine Calls.mono (l01Once_any 3 B v l w3 hS.D.cur (by omega) (by omega)) ?_
        rintro e w4 ⟨⟨bb, rfl⟩, hd4⟩
        replace hS := hS.drew hd4 hBl hX2l
        clear hd4
        obtain ⟨au, cu, rfl⟩ := hS.own.shape
        obtain ⟨p0, p1, pf⟩ := bag2 hS.X
        have hXl : w.heap.size + 1 < w4.heap.size := by have := hS.z; omega
        have kY := hS.kp yb hyl (by omega) (by omega)
        have c0 := (cell_blk (o := k) kY).trans hcell
        have hRF := hrf.keep (by have := hS.z; omega : w2.heap.size ≤ w4.heap.size) fun b hb => hS.kp b (hrf.lt b hb) (by have := hgg b hb; omega) (by have := hgg b hb; omega)
        have hYl : yb < w4.heap.size := by have := hS.z; omega
        cases bb
        · go_wp2_with fail
          refine startE 7 (fun w' => w'.cell? ⟨w.heap.size + 1, 0, none⟩ = some (.int .i64 W) ∧ w'.cell? ⟨w.heap.size + 1, 1, none⟩ = some (.slice au cs.length cu) ∧ w'.cell? ⟨yb, k, none⟩ = some (.slice ra r.length rc')) (by kernel_rfl) ?_ (fun hHeld => ?_)
          · (try dsimp only)
            exact ⟨p0, p1, c0⟩
          refine takeE (i := 0) (d := 34) (v := ?_) rfl rfl (by kernel_rfl) (by kernel_rfl) (by kernel_rfl) (by kernel_rfl) (fun _ _ _ h => h) (by rfl) (by assumption) ?_ ?_
          rotate_left
          · intro w' hSw; (try dsimp only at hSw); go_simp; try exact rfl
          try simp only [List.setIfInBounds_toArray, List.set_cons_zero, List.set_cons_succ]
          refine takeE (i := 1) (d := 35) (v := ?_) rfl rfl (by kernel_rfl) (by kernel_rfl) (by kernel_rfl) (by kernel_rfl) (fun _ _ _ h => h) (by rfl) (by assumption) ?_ ?_
          rotate_left
          · intro w' hSw; (try dsimp only at hSw); go_simp; try exact rfl
          try simp only [List.setIfInBounds_toArray, List.set_cons_zero, List.set_cons_succ]
          refine takeE (i := 2) (d := 36) (v := ?_) rfl rfl (by kernel_rfl) (by kernel_rfl) (by kernel_rfl) (by kernel_rfl) (fun _ _ _ h => h) (by rfl) (by assumption) ?_ ?_
          rotate_left
          · intro w' hSw; (try dsimp only at hSw); go_simp; try exact rfl
          try simp only [List.setIfInBounds_toArray, List.set_cons_zero, List.set_cons_succ]
          refine takeE (i := 3) (d := 37) (v := ?_) rfl rfl (by kernel_rfl) (by kernel_rfl) (by kernel_rfl) (by kernel_rfl) (fun _ _ _ h => h) (by rfl) (by assumption) ?_ ?_
          rotate_left
          · intro w' hSw; (try dsimp only at hSw); go_simp; try exact rfl
          try simp only [List.setIfInBounds_toArray, List.set_cons_zero, List.set_cons_succ]
          refine takeE (i := 4) (d := 38) (v := ?_) rfl rfl (by kernel_rfl) (by kernel_rfl) (by kernel_rfl) (by kernel_rfl) (fun _ _ _ h => h) (by rfl) (by assumption) ?_ ?_
          rotate_left
          · intro w' hSw; (try dsimp only at hSw); go_simp; try exact rfl
          try simp only [List.setIfInBounds_toArray, List.set_cons_zero, List.set_cons_succ]
          refine takeE (i := 5) (d := 39) (v := ?_) rfl rfl (by kernel_rfl) (by kernel_rfl) (by kernel_rfl) (by kernel_rfl) (fun _ _ _ h => h) (by rfl) (by assumption) ?_ ?_
          rotate_left
          · intro w' hSw; (try dsimp only at hSw); go_simp; try exact rfl
          try simp only [List.setIfInBounds_toArray, List.set_cons_zero, List.set_cons_succ]
          refine oneE (i := 6) (by kernel_rfl) rfl (fun K hK => ?_)
          go_simp
          go_at_call 54
          refine Calls.mono (l02Put_any W (1 + x) (.slice au cs.length cu) (.slice ra r.length rc') cs us G r g w2.heap.size _ (hS.own.below (by repeat (first | (with_reducible exact Below.refl _ _) | (with_reducible refine Below.drew ?_) | (with_reducible refine Below.alloc ?_ ?hh _; case hh => first | (simp; done) | (simp; omega) | omega) | (with_reducible refine Below.setCell ?_ ?hh _; case hh => first | (simp; done) | (simp; omega) | omega) | refine bstep (by assumption) (by first | (simp; done) | (simp; omega) | omega) ?_))) (hRF.belowX (by repeat (first | (with_reducible exact Below.refl _ _) | (with_reducible refine Below.drew ?_) | (with_reducible refine Below.alloc ?_ ?hh _; case hh => first | (simp; done) | (simp; omega) | omega) | (with_reducible refine Below.setCell ?_ ?hh _; case hh => first | (simp; done) | (simp; omega) | omega) | refine bstep (by assumption) (by first | (simp; done) | (simp; omega) | omega) ?_))) hI.asc (by first | exact hS.z | (simp; exact hS.z)) hcl hrn (by omega) (by omega) hcn _ rfl) ?_
          rintro e w5 ⟨u5, us5, G5, rfl, hB5, _, _, hb5, _⟩
          obtain ⟨a5, c5, rfl⟩ := hB5.shape
          have hb5' : Below w2.heap.size w4 w5 := ⟨hb5.os, hb5.tape, hb5.output, hb5.size, hb5.block⟩
          have p05 := (cell_blk (hb5'.block (w.heap.size + 1) (by omega))).trans p0
          have p15 := (cell_blk (hb5'.block (w.heap.size + 1) (by omega))).trans p1
          have pf5 : ∀ q, w5.frozen? ⟨w.heap.size + 1, q, none⟩ = false := fun q => (frozen_blk (hb5'.block (w.heap.size + 1) (by omega))).trans (pf q)
          have c05 := (cell_blk (hb5'.block yb (by omega))).trans c0
          have hz5 : w4.heap.size ≤ w5.heap.size := hb5'.size
          try go_wp2_with fail
          refine hK.out _ _ ?_ (fun hHeld6 => ?_)
          · intro _
            (try dsimp only)
            exact ⟨p05, p15, c05⟩
          clear hK
          replace hHeld6 := hHeld6 (by decide)
          try simp only [List.setIfInBounds_toArray, List.set_cons_zero, List.set_cons_succ]
          refine oneE (i := 7) (by kernel_rfl) rfl (fun K hK => ?_)
          go_simp
          refine hK.out _ _ ?_ (fun hHeld7 => ?_)
          · exact fun h => absurd rfl h
          clear hK hHeld7
          try simp only [List.setIfInBounds_toArray, List.set_cons_zero, List.set_cons_succ]
          refine doneE (by kernel_rfl) ?_ _
          have hS5 := hS.put hX2l hB5 hb5'
          have hI5 : BgI W (3 * (k + 1)) (putC cs r (1 + x)) := (hI.put HRow.out (by omega) (by omega)).up (by omega)
          clear hS hB5 hb5 hb5' p05 p15 pf5 c05 hI hRF p0 p1 pf c0
          go_wp2
          exact ⟨⟨k + 1, _, _, _, _, hlt, by simp, hI5, hS5⟩, by simp [intOf]; omega⟩
        · go_wp2_with fail
          refine startE 7 (fun w' => w'.cell? ⟨w.heap.size + 1, 0, none⟩ = some (.int .i64 W) ∧ w'.cell? ⟨w.heap.size + 1, 1, none⟩ = some (.slice au cs.length cu) ∧ w'.cell? ⟨yb, k, none⟩ = some (.slice ra r.length rc')) (by kernel_rfl) ?_ (fun hHeld => ?_)
          · (try dsimp only)
            exact ⟨p0, p1, c0⟩
          refine takeE (i := 0) (d := 34) (v := ?_) rfl rfl (by kernel_rfl) (by kernel_rfl) (by kernel_rfl) (by kernel_rfl) (fun _ _ _ h => h) (by rfl) (by assumption) ?_ ?_
          rotate_left
          · intro w' hSw; (try dsimp only at hSw); go_simp; try exact rfl
          try simp only [List.setIfInBounds_toArray, List.set_cons_zero, List.set_cons_succ]
          refine takeE (i := 1) (d := 35) (v := ?_) rfl rfl (by kernel_rfl) (by kernel_rfl) (by kernel_rfl) (by kernel_rfl) (fun _ _ _ h => h) (by rfl) (by assumption) ?_ ?_
          rotate_left
          · intro w' hSw; (try dsimp only at hSw); go_simp; try exact rfl
          try simp only [List.setIfInBounds_toArray, List.set_cons_zero, List.set_cons_succ]
          refine takeE (i := 2) (d := 36) (v := ?_) rfl rfl (by kernel_rfl) (by kernel_rfl) (by kernel_rfl) (by kernel_rfl) (fun _ _ _ h => h) (by rfl) (by assumption) ?_ ?_
          rotate_left
          · intro w' hSw; (try dsimp only at hSw); go_simp; try exact rfl
          try simp only [List.setIfInBounds_toArray, List.set_cons_zero, List.set_cons_succ]
          refine takeE (i := 3) (d := 37) (v := ?_) rfl rfl (by kernel_rfl) (by kernel_rfl) (by kernel_rfl) (by kernel_rfl) (fun _ _ _ h => h) (by rfl) (by assumption) ?_ ?_
          rotate_left
          · intro w' hSw; (try dsimp only at hSw); go_simp; try exact rfl
          try simp only [List.setIfInBounds_toArray, List.set_cons_zero, List.set_cons_succ]
          refine takeE (i := 4) (d := 38) (v := ?_) rfl rfl (by kernel_rfl) (by kernel_rfl) (by kernel_rfl) (by kernel_rfl) (fun _ _ _ h => h) (by rfl) (by assumption) ?_ ?_
          rotate_left
          · intro w' hSw; (try dsimp only at hSw); go_simp; try exact rfl
          try simp only [List.setIfInBounds_toArray, List.set_cons_zero, List.set_cons_succ]
          refine takeE (i := 5) (d := 39) (v := ?_) rfl rfl (by kernel_rfl) (by kernel_rfl) (by kernel_rfl) (by kernel_rfl) (fun _ _ _ h => h) (by rfl) (by assumption) ?_ ?_
          rotate_left
          · intro w' hSw; (try dsimp only at hSw); go_simp; try exact rfl
          try simp only [List.setIfInBounds_toArray, List.set_cons_zero, List.set_cons_succ]
          refine oneE (i := 6) (by kernel_rfl) rfl (fun K hK => ?_)
          go_simp
          go_at_call 54
          refine Calls.mono (l02Put_any W (-(1 + x)) (.slice au cs.length cu) (.slice ra r.length rc') cs us G r g w2.heap.size _ (hS.own.below (by repeat (first | (with_reducible exact Below.refl _ _) | (with_reducible refine Below.drew ?_) | (with_reducible refine Below.alloc ?_ ?hh _; case hh => first | (simp; done) | (simp; omega) | omega) | (with_reducible refine Below.setCell ?_ ?hh _; case hh => first | (simp; done) | (simp; omega) | omega) | refine bstep (by assumption) (by first | (simp; done) | (simp; omega) | omega) ?_))) (hRF.belowX (by repeat (first | (with_reducible exact Below.refl _ _) | (with_reducible refine Below.drew ?_) | (with_reducible refine Below.alloc ?_ ?hh _; case hh => first | (simp; done) | (simp; omega) | omega) | (with_reducible refine Below.setCell ?_ ?hh _; case hh => first | (simp; done) | (simp; omega) | omega) | refine bstep (by assumption) (by first | (simp; done) | (simp; omega) | omega) ?_))) hI.asc (by first | exact hS.z | (simp; exact hS.z)) hcl hrn (by omega) (by omega) hcn _ rfl) ?_
          rintro e w5 ⟨u5, us5, G5, rfl, hB5, _, _, hb5, _⟩
          obtain ⟨a5, c5, rfl⟩ := hB5.shape
          have hb5' : Below w2.heap.size w4 w5 := ⟨hb5.os, hb5.tape, hb5.output, hb5.size, hb5.block⟩
          have p05 := (cell_blk (hb5'.block (w.heap.size + 1) (by omega))).trans p0
          have p15 := (cell_blk (hb5'.block (w.heap.size + 1) (by omega))).trans p1
          have pf5 : ∀ q, w5.frozen? ⟨w.heap.size + 1, q, none⟩ = false := fun q => (frozen_blk (hb5'.block (w.heap.size + 1) (by omega))).trans (pf q)
          have c05 := (cell_blk (hb5'.block yb (by omega))).trans c0
          have hz5 : w4.heap.size ≤ w5.heap.size := hb5'.size
          try go_wp2_with fail
          refine hK.out _ _ ?_ (fun hHeld6 => ?_)
          · intro _
            (try dsimp only)
            exact ⟨p05, p15, c05⟩
          clear hK
          replace hHeld6 := hHeld6 (by decide)
          try simp only [List.setIfInBounds_toArray, List.set_cons_zero, List.set_cons_succ]
          refine oneE (i := 7) (by kernel_rfl) rfl (fun K hK => ?_)
          go_simp
          refine hK.out _ _ ?_ (fun hHeld7 => ?_)
          · exact fun h => absurd rfl h
          clear hK hHeld7
          try simp only [List.setIfInBounds_toArray, List.set_cons_zero, List.set_cons_succ]
          refine doneE (by kernel_rfl) ?_ _
          have hS5 := hS.put hX2l hB5 hb5'
          have hI5 : BgI W (3 * (k + 1)) (putC cs r (-(1 + x))) := (hI.put HRow.out (by omega) (by omega)).up (by omega)
          clear hS hB5 hb5 hb5' p05 p15 pf5 c05 hI hRF p0 p1 pf c0
          go_wp2
          exact ⟨⟨k + 1, _, _, _, _, hlt, by simp, hI5, hS5⟩, by simp [intOf]; omega⟩
    · obtain rfl : k = rs.length := by omega
      obtain ⟨hX, hR, hB, hD, hz, hkp⟩ := hS
      obtain ⟨au, cu, rfl⟩ := hB.shape
      obtain ⟨x0, x1, xf⟩ := bag2 hX
      obtain ⟨r0, r1, rf⟩ := bag2 hR
      have hXl : w.heap.size + 1 < wr.heap.size := by omega
      have HO : Hid (BagOwn ((wr.setCell ⟨w.heap.size, 0, none⟩ (.int .i64 W)).setCell ⟨w.heap.size, 1, none⟩ (.slice au cs.length cu)) w.heap.size (.slice au cs.length cu) cs us G) := by
        refine (hB.keep (by simp) fun b h1 h2 => far2 _ _ (by omega)).weak (by omega)
      have HD : Hid (Drew B v l w ((wr.setCell ⟨w.heap.size, 0, none⟩ (.int .i64 W)).setCell ⟨w.heap.size, 1, none⟩ (.slice au cs.length cu))) := (hD.set (p := ⟨w.heap.size, 0, none⟩) (Nat.le_refl _) _).set (p := ⟨w.heap.size, 1, none⟩) (Nat.le_refl _) _
      have HS := set2 hR (.int .i64 W) (.slice au cs.length cu)
      obtain ⟨s0, s1, _⟩ := bag2 HS
      have HI : Hid (BgI W 30 cs) := hI.up (by omega)
      have HZ0 : Hid _ := s0
      have HZ1 : Hid _ := s1
      clear hB hD hI hkp hX hR HS s0 s1
      go_wp2
      have z0 := HZ0.out
      have z1 := HZ1.out
      refine bodyPost_ret (v := .agg #[.int .i64 W, .slice au cs.length cu]) (by simp [results, Tryz.results36, go_sem, z0, z1]) rfl ⟨⟨_, cs, us, G, rfl, HI.out, HO.out⟩, HD.out⟩
end Go.Proofs.YtiaafgmjigbjlaaGreatDoor
/- Own text. Any bag that is drawn: the contract of spec.l02Any. -/
namespace Go.Proofs.YtiaafgmjigbjlaaGreatDoor
open Go.RowKit Go.Deep Go.ChangeShapes Go.WideShapes
set_option linter.unusedVariables false
theorem infoC9 : (Tryz.prog.info? 39).map (fun i => (i.zero, i.size, i.bytes)) = some (some (.agg #[.slice none 0 0, .int .i64 0]), 2, 32) := by kernel_rfl
structure BgJ (W : Int) (cs : List C2) : Prop where
  w0 : -1 ≤ W
  w1 : W ≤ 13
  num : ∀ c ∈ cs, -2000000000 ≤ c.n ∧ c.n ≤ 2000000000
  row : ∀ c ∈ cs, c.r.length ≤ 13 ∧ VsOk c.r
  len : cs.length ≤ 40
theorem BgI.j {W : Nat} {cs : List C2} (h : BgI W 30 cs) (hW : W ≤ 3) : BgJ W cs :=
  ⟨by omega, by omega, fun c hc => by have := h.num c hc; omega, fun c hc => ⟨by have := (h.row c hc).1; omega, (h.row c hc).2⟩, by have := h.len; omega⟩
section
variable {P : Program} {md : Region.Mode} {ops : Array Oper} {Q : Exit → Act → World → Prop} {S S' : World → Prop} {z : Nat}
/-- what holds under more is asked for less. -/
theorem monoE (hS : ∀ w, S' w → S w) : ∀ (fuel : Nat) (listed : Array Bool) (a : Act) (w : World), wpAnyE P md ops Q S' z fuel listed a w → wpAnyE P md ops Q S z fuel listed a w
  | 0, _, _, _, h => h
  | fuel + 1, _, _, _, h => ⟨h.1, fun i hi => wpOp_mono (fun a' w' h' => ⟨fun hz => hS _ (h'.1 hz), monoE hS fuel _ a' w' h'.2⟩) (h.2 i hi)⟩
end
structure AnW (w wr : World) (X B : Nat) (v : Value) (l : Nat) (W : Int) (u : Value) (cs : List C2) (us : List Value) (G : List (List Nat)) : Prop where
  xb : wr.heap[X]? = some (.cells #[.int .i64 W, u] 26 (0, 0))
  rb : wr.heap[w.heap.size]? = some (.cells #[.int .i64 0, .slice none 0 0] 26 (0, 0))
  xl : w.heap.size < X
  own : BagOwn wr (w.heap.size + 1) u cs us G
  xo : u.ownBlock ≠ some X
  xg : X ∉ G.flatten
  D : Drew B v l w wr
  J : BgJ W cs
section
variable {w wr wn : World} {X B : Nat} {v : Value} {l : Nat} {W : Int} {u : Value} {cs : List C2} {us : List Value} {G : List (List Nat)}
theorem heap_ltA {w : World} {b : Nat} {o : Obj} (h : w.heap[b]? = some o) : b < w.heap.size := by
  rcases Nat.lt_or_ge b w.heap.size with h' | h'
  · exact h'
  · simp [Array.getElem?_eq_none h'] at h
theorem AnW.rl (h : AnW w wr X B v l W u cs us G) : w.heap.size < wr.heap.size := heap_ltA h.rb
theorem AnW.xlt (h : AnW w wr X B v l W u cs us G) : X < wr.heap.size := heap_ltA h.xb
theorem AnW.drew (h : AnW w wr X B v l W u cs us G) (hd : Drew B v l wr wn) : AnW w wn X B v l W u cs us G := by
  have hB := h.D.lt
  have hx := h.xl
  exact ⟨hd.cellsB h.xb (by omega), hd.cellsB h.rb (by omega), h.xl, h.own.keep hd.chg.size fun b h1 h2 => hd.old h2 (by omega), h.xo, h.xg, h.D.trans hd, h.J⟩
theorem AnW.below (h : AnW w wr X B v l W u cs us G) (hb : Below wr.heap.size wr wn) : AnW w wn X B v l W u cs us G :=
  ⟨(hb.block _ h.xlt).trans h.xb, (hb.block _ h.rl).trans h.rb, h.xl, h.own.below hb, h.xo, h.xg, h.D.below hb, h.J⟩
theorem AnW.gcell {g cap ll : Nat} {c : C2} (h : AnW w wr X B v l W (.slice (some ⟨g, 0, none⟩) ll cap) cs us G) (hk : cs[0]? = some c) : wr.cell? ⟨g, 1, none⟩ = some (.int .i64 c.n) ∧ (∀ q, wr.frozen? ⟨g, q, none⟩ = false) ∧ g < wr.heap.size := by
  obtain ⟨g', cap', uu, gg, ev, _, _, _, hgl, _, _, _, xg, _, gf⟩ := h.own.cellsX hk
  injection ev with ev1 _ _
  injection ev1 with ev1
  injection ev1 with ev1
  subst ev1
  exact ⟨xg, gf, hgl⟩
theorem AnW.setW (h : AnW w wr X B v l W u cs us G) {x : Int} (h0 : -1 ≤ x) (h1 : x ≤ 13) : AnW w (wr.setCell ⟨X, 0, none⟩ (.int .i64 x)) X B v l x u cs us G := by
  have hx := h.xl
  refine ⟨by simp [World.setCell, Array.getElem?_modify, h.xb], (Below.heap_setCell _ _ _ _ (by simp; omega)).trans h.rb, h.xl, h.own.keepO (by simp) (fun b hb => Below.heap_setCell _ _ _ _ (by rintro rfl; exact h.xo hb)) (fun b hb => Below.heap_setCell _ _ _ _ (by rintro rfl; exact h.xg hb)), h.xo, h.xg, h.D.set (p := ⟨X, 0, none⟩) (by simp; omega) _, ⟨h0, h1, h.J.num, h.J.row, h.J.len⟩⟩
theorem AnW.setN {g cap ll : Nat} {c : C2} (h : AnW w wr X B v l W (.slice (some ⟨g, 0, none⟩) ll cap) cs us G) (hk : cs[0]? = some c) {x : Int} (h0 : -2000000000 ≤ x) (h1 : x ≤ 2000000000) : AnW w (wr.setCell ⟨g, 0 * 2 + 1, none⟩ (.int .i64 x)) X B v l W (.slice (some ⟨g, 0, none⟩) ll cap) (cs.set 0 ⟨c.r, x⟩) us G := by
  have hx := h.xl
  have hg := ownsRow_lt h.own.own g rfl
  have hgX : g ≠ X := fun e => h.xo (by rw [← e]; rfl)
  refine ⟨(Below.heap_setCell _ _ _ _ (by simpa using fun e => hgX e.symm)).trans h.xb, (Below.heap_setCell _ _ _ _ (by simp; omega)).trans h.rb, h.xl, h.own.setN hk x, h.xo, h.xg, h.D.set (p := ⟨g, 0 * 2 + 1, none⟩) (by simp; omega) _, ⟨h.J.w0, h.J.w1, fun d hd => ?_, fun d hd => ?_, by simpa using h.J.len⟩⟩
  · rcases List.mem_or_eq_of_mem_set hd with hd | rfl
    · exact h.J.num d hd
    · exact ⟨h0, h1⟩
  · rcases List.mem_or_eq_of_mem_set hd with hd | rfl
    · exact h.J.row d hd
    · exact h.J.row c (List.mem_of_getElem? hk)
theorem AnW.push {w5 wz w6 : World} {u6 uR : Value} {r : List V3} {g : List Nat} {nn : Int} (h : AnW w w5 X B v l W u cs us G) (hl : cs.length ≤ 30) (hb : Below w5.heap.size w5 wz) (ho : w6.ownsRow (w.heap.size + 1) 39 2 u6 (cs.length + 1) (cc us cs ++ [uR, .int .i64 nn])) (hgr : wz.grownBy w6 u.ownBlock) (hat : ∀ b, u6.ownBlock = some b → u.ownBlock = some b ∨ wz.heap.size ≤ b)
    (hR : RowF w5 uR r g) (hO : Own w5 (w.heap.size + 1) g) (hd1 : ∀ b ∈ G.flatten, b ∉ g) (hd2 : ∀ b, u.ownBlock = some b → b ∉ g) (hd3 : X ∉ g) (hn : 0 ≤ nn ∧ nn < 3) (hr : r.length ≤ 13 ∧ VsOk r) :
    AnW w (w6.setCell ⟨X, 1, none⟩ u6) X B v l W u6 (cs ++ [⟨r, nn⟩]) (us ++ [uR]) (G ++ [g]) := by
  have hx := h.xl
  have hX := h.xlt
  have hRl := h.rl
  have hz := hb.size
  have hol := ownsRow_lt h.own.own
  have hp := BagOwn.push (x := ⟨r, nn⟩) (h.own.below hb) (hR.keep hb.size fun b hg => hb.block b (hR.lt b hg)) (hO.keep fun b hg => hb.block b (hR.lt b hg)) hd1 hd2 ho hgr hat
  have hX6 : w6.heap[X]? = some (.cells #[.int .i64 W, u] 26 (0, 0)) := (hgr.block X (by omega) (fun e => h.xo e.symm)).trans ((hb.block X hX).trans h.xb)
  have hR6 : w6.heap[w.heap.size]? = some (.cells #[.int .i64 0, .slice none 0 0] 26 (0, 0)) := (hgr.block _ (by omega) (fun e => by have := (hol _ e.symm).1; omega)).trans ((hb.block _ hRl).trans h.rb)
  have hxo : u6.ownBlock ≠ some X := fun e => by
    rcases hat X e with e' | e'
    · exact h.xo e'
    · omega
  have hxg : X ∉ (G ++ [g]).flatten := by
    rw [List.flatten_append, List.mem_append, not_or]
    exact ⟨h.xg, by simpa using hd3⟩
  refine ⟨by simp [World.setCell, Array.getElem?_modify, hX6], (Below.heap_setCell _ _ _ _ (by simp; omega)).trans hR6, h.xl, hp.keepO (by simp) (fun b hb => Below.heap_setCell _ _ _ _ (by rintro rfl; exact hxo hb)) (fun b hb => Below.heap_setCell _ _ _ _ (by rintro rfl; exact hxg hb)), hxo, hxg, ?_, ⟨h.J.w0, h.J.w1, fun c hc => ?_, fun c hc => ?_, by simp; omega⟩⟩
  · exact ((h.D.below hb).up ((Below.refl _ wz).grown hgr (by omega) (fun k hk => by have := (hol k hk).1; omega))).set (p := ⟨X, 1, none⟩) (by simp; omega) _
  · rcases List.mem_append.1 hc with hc | hc
    · exact h.J.num c hc
    · rcases List.mem_singleton.1 hc with rfl; exact ⟨by simp; omega, by simp; omega⟩
  · rcases List.mem_append.1 hc with hc | hc
    · exact h.J.row c hc
    · rcases List.mem_singleton.1 hc with rfl; exact hr
theorem AnW.fin (h : AnW w wr X B v l W u cs us G) :
    ((wr.setCell ⟨w.heap.size, 0, none⟩ (.int .i64 W)).setCell ⟨w.heap.size, 1, none⟩ u).cell? ⟨w.heap.size, 0, none⟩ = some (.int .i64 W) ∧ ((wr.setCell ⟨w.heap.size, 0, none⟩ (.int .i64 W)).setCell ⟨w.heap.size, 1, none⟩ u).cell? ⟨w.heap.size, 1, none⟩ = some u ∧ BagOwn ((wr.setCell ⟨w.heap.size, 0, none⟩ (.int .i64 W)).setCell ⟨w.heap.size, 1, none⟩ u) w.heap.size u cs us G ∧ Drew B v l w ((wr.setCell ⟨w.heap.size, 0, none⟩ (.int .i64 W)).setCell ⟨w.heap.size, 1, none⟩ u) := by
  obtain ⟨s0, s1, _⟩ := bag2 (set2 h.rb (.int .i64 W) u)
  exact ⟨s0, s1, (h.own.keep (by simp) fun b h1 h2 => far2 _ _ (by omega)).weak (by omega), (h.D.set (p := ⟨w.heap.size, 0, none⟩) (Nat.le_refl _) _).set (p := ⟨w.heap.size, 1, none⟩) (Nat.le_refl _) _⟩
end
set_option maxHeartbeats 4000000 in
set_option maxRecDepth 100000 in
theorem l02Any_any (B : Nat) (v : Value) (l : Nat) (w : World) (h : Cur w B v l) :
    Calls Tryz.prog 15 #[.pointer (some ⟨B, 0, none⟩)] w fun e w' => (∃ (W : Int) (u : Value) (cs : List C2) (us : List Value) (G : List (List Nat)), e = .returned (.agg #[.int .i64 W, u]) ∧ BgJ W cs ∧ BagOwn w' w.heap.size u cs us G) ∧ Drew B v l w w' := by
  have hBl := h.lt
  have hD0 := h.start.alloc (.cells #[.int .i64 0, .slice none 0 0] 26)
  have hR0 := heap_alloc_new w (.cells #[.int .i64 0, .slice none 0 0] 26)
  have hz0 : (w.alloc (.cells #[.int .i64 0, .slice none 0 0] 26)).heap.size = w.heap.size + 1 := by simp
  clear h
  go_enter Tryz.func15, Tryz.ntmps15
  go_wp2_with fail
  generalize w.alloc (.cells #[.int .i64 0, .slice none 0 0] 26) = wa at *
  refine Calls.mono (l01Below_any 4 B v l wa hD0.cur (by omega) (by omega)) ?_
  rintro e w1 ⟨⟨m, rfl, m0, m1⟩, hd1⟩
  have hR1 := hd1.cellsB hR0 (by omega)
  have hD1 := hD0.trans hd1
  have hz1 := hd1.chg.size
  obtain ⟨W, rfl⟩ : ∃ W : Nat, m = W := ⟨m.toNat, by omega⟩
  clear hR0 hD0 hd1
  go_wp2_with fail
  refine Calls.mono (l02Bag_any B v l W true w1 hD1.cur (by omega)) ?_
  rintro e w2 ⟨⟨u, cs, us, G, rfl, hI, hB⟩, hd2⟩
  obtain ⟨au, cu, rfl⟩ := hB.shape
  have hz2 := hd2.chg.size
  have hS : AnW w (w2.alloc (.cells #[.int .i64 W, .slice au cs.length cu] 26)) w2.heap.size B v l W (.slice au cs.length cu) cs us G := by
    have bal : Below w2.heap.size w2 (w2.alloc (.cells #[.int .i64 W, .slice au cs.length cu] 26)) := (Below.refl _ _).alloc (Nat.le_refl _) _
    have hR2 := hd2.cellsB hR1 (by omega)
    exact ⟨heap_alloc_new w2 _, (bal.block _ (heap_ltA hR2)).trans hR2, by omega, (hB.below bal).weak (by omega), fun e => by have := (ownsRow_lt hB.own _ e).2; omega, fun hg => by have := hB.lt _ hg; omega, (hD1.trans hd2).below bal, hI.j (by omega)⟩
  have hW3 : W ≤ 3 := by omega
  have hl30 : cs.length ≤ 30 := hI.len
  clear hR1 hD1 hd2 hB hI
  go_wp2_with fail
  generalize w2.alloc (.cells #[.int .i64 W, .slice au cs.length cu] 26) = wb at *
  generalize w2.heap.size = X at *
  refine Calls.mono (l01Below_any 16 B v l wb hS.D.cur (by omega) (by omega)) ?_
  rintro e w3 ⟨⟨q, rfl, q0, q1⟩, hd3⟩
  replace hS := hS.drew hd3
  clear hd3
  by_cases h0 : q = 0
  · subst h0
    obtain ⟨x0, x1, xf⟩ := bag2 hS.xb
    have hXl := hS.xlt
    have hxw := hS.xl
    have hSb := hS.below ((Below.refl _ _).alloc (Nat.le_refl _) (.cells #[.int .i64 (-1), .int .i64 13, .int .i64 ((W : Int) + 1)] 3))
    have hcells : ∀ j, j < 3 → ∃ x : Int, (w3.alloc (.cells #[.int .i64 (-1), .int .i64 13, .int .i64 ((W : Int) + 1)] 3)).cell? ⟨w3.heap.size, j, none⟩ = some (.int .i64 x) ∧ (-1 ≤ x ∧ x ≤ 13) := fun j hj => by
      rw [cells_at]
      match j, hj with
      | 0, _ => exact ⟨_, rfl, by omega, by omega⟩
      | 1, _ => exact ⟨_, rfl, by omega, by omega⟩
      | 2, _ => exact ⟨_, rfl, by omega, by omega⟩
    go_wp2_with fail
    refine Calls.mono (l01PickInt_any (fun x => -1 ≤ x ∧ x ≤ 13) w3.heap.size 3 3 B v l _ hSb.D.cur (by omega) (by omega) (by omega) (by omega) (by simp) hcells) ?_
    rintro e w4 ⟨⟨x, rfl, y0, y1⟩, hd4⟩
    replace hS := hSb.drew hd4
    clear hSb hd4 hcells x0 x1 xf
    obtain ⟨x0, x1, xf⟩ := bag2 hS.xb
    have hX4 := hS.xlt
    replace hS := hS.setW y0 y1
    clear y0 y1
    go_upto_region 10 with fail
    generalize w4.setCell ⟨X, 0, none⟩ (.int .i64 x) = w5 at *
    clear x0 x1 xf hX4 hXl
    obtain ⟨x0, x1, xf⟩ := bag2 hS.xb
    obtain ⟨r0, r1, rf⟩ := bag2 hS.rb
    have hRl := hS.rl
    have hXl := hS.xlt
    have HF := hS.fin
    obtain ⟨HF0, HF1, HO, HDD⟩ := HF
    have HJ : Hid _ := hS.J
    have HG : Hid _ := HO
    have HH : Hid _ := HDD
    have HZ0 : Hid _ := HF0
    have HZ1 : Hid _ := HF1
    clear hS HF0 HF1 HO HDD
    go_wp2
    have z0 := HZ0.out
    have z1 := HZ1.out
    refine bodyPost_ret (v := .agg #[.int .i64 _, .slice au cs.length cu]) (by simp [results, Tryz.results15, go_sem, z0, z1]) rfl ⟨⟨_, _, cs, us, G, rfl, HJ.out, HG.out⟩, HH.out⟩
  have k0 : (q == 0) = false := by simpa using h0
  by_cases h1 : q = 1
  · subst h1
    obtain ⟨i0, hi, hz0', hz1', hz2'⟩ := info_parts infoC9
    obtain ⟨x0, x1, xf⟩ := bag2 hS.xb
    have hXl := hS.xlt
    have hxw := hS.xl
    go_upto_region 6 with fail
    refine startE 14 (fun w' => w'.cell? ⟨X, 0, none⟩ = some (.int .i64 W) ∧ w'.cell? ⟨X, 1, none⟩ = some (.slice au cs.length cu)) (by kernel_rfl) ?_ (fun hHeld => ?_)
    · (try dsimp only)
      exact ⟨x0, x1⟩
    refine takeE (i := 0) (d := 21) (v := ?_) rfl rfl (by kernel_rfl) (by kernel_rfl) (by kernel_rfl) (by kernel_rfl) (fun _ _ _ h => h) (by rfl) (by assumption) ?_ ?_
    rotate_left
    · intro w' hSw; (try dsimp only at hSw); go_simp; try exact rfl
    try simp only [List.setIfInBounds_toArray, List.set_cons_zero, List.set_cons_succ]
    refine takeE (i := 1) (d := 22) (v := ?_) rfl rfl (by kernel_rfl) (by kernel_rfl) (by kernel_rfl) (by kernel_rfl) (fun _ _ _ h => h) (by rfl) (by assumption) ?_ ?_
    rotate_left
    · intro w' hSw; (try dsimp only at hSw); go_simp; try exact rfl
    try simp only [List.setIfInBounds_toArray, List.set_cons_zero, List.set_cons_succ]
    refine takeE (i := 2) (d := 23) (v := ?_) rfl rfl (by kernel_rfl) (by kernel_rfl) (by kernel_rfl) (by kernel_rfl) (fun _ _ _ h => h) (by rfl) (by assumption) ?_ ?_
    rotate_left
    · intro w' hSw; (try dsimp only at hSw); go_simp; try exact rfl
    try simp only [List.setIfInBounds_toArray, List.set_cons_zero, List.set_cons_succ]
    refine takeE (i := 3) (d := 24) (v := ?_) rfl rfl (by kernel_rfl) (by kernel_rfl) (by kernel_rfl) (by kernel_rfl) (fun _ _ _ h => h) (by rfl) (by assumption) ?_ ?_
    rotate_left
    · intro w' hSw; (try dsimp only at hSw); go_simp; try exact rfl
    try simp only [List.setIfInBounds_toArray, List.set_cons_zero, List.set_cons_succ]
    refine takeE (i := 4) (d := 25) (v := ?_) rfl rfl (by kernel_rfl) (by kernel_rfl) (by kernel_rfl) (by kernel_rfl) (fun _ _ _ h => h) (by rfl) (by assumption) ?_ ?_
    rotate_left
    · intro w' hSw; (try dsimp only at hSw); go_simp; try exact rfl
    try simp only [List.setIfInBounds_toArray, List.set_cons_zero, List.set_cons_succ]
    refine takeE (i := 8) (d := 29) (v := ?_) rfl rfl (by kernel_rfl) (by kernel_rfl) (by kernel_rfl) (by kernel_rfl) (fun _ _ _ h => h) (by rfl) (by assumption) ?_ ?_
    rotate_left
    · intro w' hSw; (try dsimp only at hSw); go_simp; try exact rfl
    try simp only [List.setIfInBounds_toArray, List.set_cons_zero, List.set_cons_succ]
    refine oneE (i := 5) (by kernel_rfl) rfl (fun K hK => ?_)
    go_simp
    go_at_call 38
    refine Calls.mono (l02Rows_any B v l W 1 w3.drew (hS.D.cur.below (by repeat (first | (with_reducible exact Below.refl _ _) | (with_reducible refine Below.drew ?_) | (with_reducible refine Below.alloc ?_ ?hh _; case hh => first | (simp; done) | (simp; omega) | omega) | (with_reducible refine Below.setCell ?_ ?hh _; case hh => first | (simp; done) | (simp; omega) | omega) | refine bstep (by assumption) (by first | (simp; done) | (simp; omega) | omega) ?_))) (by omega) (by omega)) ?_
    rintro e w4 ⟨⟨yy, rs, ru, rfl, hrl, hro, hRr⟩, hd4⟩
    have hpos : 0 < rs.length := by omega
    clear hrl
    have hz4 : w3.heap.size ≤ w4.heap.size := hd4.chg.size
    have hS4 := (hS.below (wn := w3.drew) ((Below.refl _ _).drew)).drew hd4
    obtain ⟨ay, cy, rfl⟩ := ret_slice hRr.own
    obtain ⟨yb, r, ur, g, rfl, hyN, hyl, hrk, hcell, hrf, hgo, hlc, hcm⟩ := hRr.at hpos
    obtain ⟨ra, rc', rfl⟩ := hrf.shapeX
    unfold maxLen at hcm
    have HRow : Hid (r.length = W ∧ VsOk r) := hro r (List.mem_of_getElem? hrk)
    obtain ⟨x04, x14, xf4⟩ := bag2 hS4.xb
    have hyN' : w3.heap.size ≤ yb := hyN
    have hgg : ∀ b ∈ g, w3.heap.size ≤ b := hgo.2.1
    have hX4 := hS4.xlt
    try go_wp2_with fail
    refine hK.out _ _ ?_ (fun hHeld5 => ?_)
    · intro _
      (try dsimp only)
      exact ⟨x04, x14⟩
    clear hK
    replace hHeld5 := hHeld5 (by decide)
    try simp only [List.setIfInBounds_toArray, List.set_cons_zero, List.set_cons_succ]
    refine monoE (S' := (fun w' => (w'.cell? ⟨X, 0, none⟩ = some (.int .i64 W) ∧ w'.cell? ⟨X, 1, none⟩ = some (.slice au cs.length cu)) ∧ w'.cell? ⟨yb, 0, none⟩ = some (.slice ra r.length rc'))) (fun w h => h.1) _ _ _ _ ?_
    have hHy : (w4.cell? ⟨X, 0, none⟩ = some (.int .i64 W) ∧ w4.cell? ⟨X, 1, none⟩ = some (.slice au cs.length cu)) ∧ w4.cell? ⟨yb, 0, none⟩ = some (.slice ra r.length rc') := ⟨⟨x04, x14⟩, hcell⟩
    refine takeE (i := 6) (d := 27) (v := ?_) rfl rfl (by kernel_rfl) (by kernel_rfl) (by kernel_rfl) (by kernel_rfl) (fun _ _ _ h => h) (by rfl) (by assumption) ?_ ?_
    rotate_left
    · intro w' hSw; (try dsimp only at hSw); go_simp; try exact rfl
    try simp only [List.setIfInBounds_toArray, List.set_cons_zero, List.set_cons_succ]
    refine takeE (i := 7) (d := 28) (v := ?_) rfl rfl (by kernel_rfl) (by kernel_rfl) (by kernel_rfl) (by kernel_rfl) (fun _ _ _ h => h) (by rfl) (by assumption) ?_ ?_
    rotate_left
    · intro w' hSw; (try dsimp only at hSw); go_simp; try exact rfl
    try simp only [List.setIfInBounds_toArray, List.set_cons_zero, List.set_cons_succ]
    refine oneE (i := 9) (by kernel_rfl) rfl (fun K hK => ?_)
    go_simp
    go_at_call 20
    refine Calls.mono (l01Below_any 3 B v l w4 hS4.D.cur (by omega) (by omega)) ?_
    rintro e w5 ⟨⟨nn, rfl, n0, n1⟩, hd5⟩
    have hS5 := hS4.drew hd5
    obtain ⟨x05, x15, xf5⟩ := bag2 hS5.xb
    have kb : ∀ b, w3.heap.size ≤ b → b < w4.heap.size → w5.heap[b]? = w4.heap[b]? := fun b h1 h2 => hd5.old h2 (by omega)
    have hcell5 := (cell_blk (o := 0) (kb yb hyN' hyl)).trans hcell
    have hz5 := hd5.chg.size
    have hrf5 := hrf.keep hz5 fun b hb => kb b (hgg b hb) (hrf.lt b hb)
    have hgo5 := hgo.keep fun b hb => kb b (hgg b hb) (hrf.lt b hb)
    have hX5 := hS5.xlt
    try go_wp2_with fail
    refine hK.out _ _ ?_ (fun hHeld9 => ?_)
    · intro _
      (try dsimp only)
      exact ⟨⟨x05, x15⟩, hcell5⟩
    clear hK
    replace hHeld9 := hHeld9 (by decide)
    try simp only [List.setIfInBounds_toArray, List.set_cons_zero, List.set_cons_succ]
    refine oneE (i := 10) (by kernel_rfl) rfl (fun K hK => ?_)
    go_simp
    refine hK.out _ _ ?_ (fun hHeld10 => ?_)
    · intro _
      (try dsimp only)
      exact ⟨⟨x05, x15⟩, hcell5⟩
    clear hK
    replace hHeld10 := hHeld10 (by decide)
    try simp only [List.setIfInBounds_toArray, List.set_cons_zero, List.set_cons_succ]
    refine oneE (i := 11) (by kernel_rfl) rfl (fun K hK => ?_)
    go_simp
    refine hK.out _ _ ?_ (fun hHeld11 => ?_)
    · intro _
      (try dsimp only)
      exact ⟨⟨(cell_blk (Below.heap_alloc _ _ _ (by omega))).trans x05, (cell_blk (Below.heap_alloc _ _ _ (by omega))).trans x15⟩, (cell_blk (Below.heap_alloc _ _ _ (by omega))).trans hcell5⟩
    clear hK
    replace hHeld11 := hHeld11 (by decide)
    try simp only [List.setIfInBounds_toArray, List.set_cons_zero, List.set_cons_succ]
    refine oneE (i := 12) (by kernel_rfl) rfl (fun K hK => ?_)
    have hown5 := (hS5.own.below (w' := (w5.alloc (.cells #[.slice ra r.length rc', .int .i64 nn] 39))) ((Below.refl _ _).alloc (Nat.le_refl _) _)).own
    have hlb : w.heap.size + 1 ≤ w5.heap.size := by have := hS5.rl; omega
    refine step_append_lies _ (by rfl) _ _ _ (by rfl) (w.heap.size + 1) 39 i0 _ 2 32 Tryz.underlying24 hi hz0' hz1' hz2' rfl (by omega) (.slice au cs.length cu) cs.length (cc us cs) (by rfl) hown5 ⟨w5.heap.size, 0, none⟩ 1 1 [.slice ra r.length rc', .int .i64 nn] (by rfl) (by rfl) (World.news_of_block (cs := #[.slice ra r.length rc', .int .i64 nn]) (t := 39) (fr := (0, 0)) (heap_alloc_new w5 _)) (by simp [Value.oneCell']) (by omega) (by unfold maxLen; omega) (by omega) (by simp; omega) (w5.heap.size + 1) (by simp) ?_
    intro g6 cap6 w6 hown6 hgr6 hat6 hlt6
    have hz6 := hgr6.size
    simp at hz6
    have blk : ∀ t, t < w5.heap.size → (Value.slice au cs.length cu).ownBlock ≠ some t → w6.heap[t]? = w5.heap[t]? := fun t ht hne => (hgr6.block t (by simp; omega) (fun e => hne e.symm)).trans (Below.heap_alloc _ _ _ ht)
    have kX := blk X hX5 hS5.xo
    have hol5 := ownsRow_lt hS5.own.own
    have hGl5 := hS5.own.lt
    have hyo : (Value.slice au cs.length cu).ownBlock ≠ some yb := fun e => by have := (ownsRow_lt hS.own.own yb e).2; omega
    have kY := blk yb (by omega) hyo
    have x06 := (cell_blk (o := 0) kX).trans x05
    have x16 := (cell_blk (o := 1) kX).trans x15
    have xf6 : ∀ i, w6.frozen? ⟨X, i, none⟩ = false := fun i => (frozen_blk kX).trans (xf5 i)
    have hX6 : X < w6.heap.size := by omega
    have hS6 := hS5.push (r := r) (g := g) hl30 ((Below.refl _ _).alloc (Nat.le_refl _) _) hown6 hgr6 (fun b hb => by rcases hat6 with e | e; (left; rw [e]; exact hb.symm ▸ rfl); (right; cases hb; simp; omega)) hrf5 ⟨hgo5.1, fun b hb => by have := hgg b hb; have := hS.rl; omega, hgo5.2.2⟩ (fun b hb hb2 => by have := hgg b hb2; have := hS.own.lt b hb; omega) (fun b hb hb2 => by have := hgg b hb2; have := (ownsRow_lt hS.own.own b hb).2; omega) (fun hb2 => by have := hgg _ hb2; omega) ⟨n0, n1⟩ ⟨by have := HRow.out.1; omega, HRow.out.2⟩
    refine hK.out _ _ ?_ (fun hHeld12 => ?_)
    · intro _
      (try dsimp only)
      exact ⟨⟨(cell_blk kX).trans x05, (cell_blk kX).trans x15⟩, (cell_blk kY).trans hcell5⟩
    clear hK
    replace hHeld12 := hHeld12 (by decide)
    try simp only [List.setIfInBounds_toArray, List.set_cons_zero, List.set_cons_succ]
    refine oneE (i := 13) (by kernel_rfl) rfl (fun K hK => ?_)
    go_simp
    refine hK.out _ _ ?_ (fun hHeld13 => ?_)
    · intro _
      (try dsimp only)
      exact ⟨⟨(cell_blk kX).trans x05, (cell_blk kX).trans x15⟩, (cell_blk kY).trans hcell5⟩
    clear hK
    replace hHeld13 := hHeld13 (by decide)
    try simp only [List.setIfInBounds_toArray, List.set_cons_zero, List.set_cons_succ]
    refine oneE (i := 14) (by kernel_rfl) rfl (fun K hK => ?_)
    go_simp
    refine hK.out _ _ ?_ (fun hHeld14 => ?_)
    · exact fun h => absurd rfl h
    clear hK hHeld14
    try simp only [List.setIfInBounds_toArray, List.set_cons_zero, List.set_cons_succ]
    refine doneE (by kernel_rfl) ?_ _
    replace hS := hS6
    clear hS6 hS5 hS4 x0 x1 xf x04 x14 xf4 x05 x15 xf5 x06 x16 xf6 hown6 hgr6 hat6 hown5 blk kX kY hcell hcell5 hHy hRr hro hrf hrf5 hgo hgo5 hd4 hd5 hol5 hGl5
    go_upto_region 10 with fail
    generalize w6.setCell ⟨X, 1, none⟩ (.slice (some ⟨g6, 0, none⟩) (cs.length + 1) cap6) = w7 at *
    generalize cs ++ [⟨r, nn⟩] = cs2 at *
    generalize us ++ [.slice ra r.length rc'] = us2 at *
    generalize G ++ [g] = G2 at *
    obtain ⟨x0, x1, xf⟩ := bag2 hS.xb
    obtain ⟨r0, r1, rf⟩ := bag2 hS.rb
    have hRl := hS.rl
    have hXl := hS.xlt
    have HF := hS.fin
    obtain ⟨HF0, HF1, HO, HDD⟩ := HF
    have HJ : Hid _ := hS.J
    have HG : Hid _ := HO
    have HH : Hid _ := HDD
    have HZ0 : Hid _ := HF0
    have HZ1 : Hid _ := HF1
    clear hS HF0 HF1 HO HDD
    go_wp2
    have z0 := HZ0.out
    have z1 := HZ1.out
    refine bodyPost_ret (v := .agg #[.int .i64 _, .slice (some ⟨g6, 0, none⟩) (cs.length + 1) cap6]) (by simp [results, Tryz.results15, go_sem, z0, z1]) rfl ⟨⟨_, _, cs2, us2, G2, rfl, HJ.out, HG.out⟩, HH.out⟩
  have k1 : (q == 1) = false := by simpa using h1
  by_cases h2 : q = 2
  · subst h2
    obtain ⟨x0, x1, xf⟩ := bag2 hS.xb
    have hXl := hS.xlt
    have hxw := hS.xl
    by_cases hl : cs.length = 0
    · have hl2 : ¬ ((0 : Int) < (cs.length : Int)) := by omega
      clear x0 x1 xf hXl hxw hl
      obtain ⟨x0, x1, xf⟩ := bag2 hS.xb
      obtain ⟨r0, r1, rf⟩ := bag2 hS.rb
      have hRl := hS.rl
      have hXl := hS.xlt
      have HF := hS.fin
      obtain ⟨HF0, HF1, HO, HDD⟩ := HF
      have HJ : Hid _ := hS.J
      have HG : Hid _ := HO
      have HH : Hid _ := HDD
      have HZ0 : Hid _ := HF0
      have HZ1 : Hid _ := HF1
      clear hS HF0 HF1 HO HDD
      go_wp2
      have z0 := HZ0.out
      have z1 := HZ1.out
      refine bodyPost_ret (v := .agg #[.int .i64 _, .slice au cs.length cu]) (by simp [results, Tryz.results15, go_sem, z0, z1]) rfl ⟨⟨_, _, cs, us, G, rfl, HJ.out, HG.out⟩, HH.out⟩
    · have hl2 : ((0 : Int) < (cs.length : Int)) := by omega
      have hk : cs[0]? = some cs[0] := by simp
      generalize cs[0] = c0 at hk
      obtain ⟨g, cap, uu, gg, ev, hcl, hcm, hgN, hgl, _, _, _, xg, _, gf⟩ := hS.own.cellsX hk
      injection ev with ev1 _ ev3
      subst ev1 ev3
      unfold maxLen at hcm
      rw [show 0 * 2 + 1 = 1 from rfl] at xg
      have hSb := hS.below (wn := (w3.drew.alloc (.cells #[.int .i64 0, .int .i64 1000000000, .int .i64 1000000001, .int .i64 (-1000000000)] 3))) (((Below.refl _ _).drew).alloc (Nat.le_refl _) _)
      have hcells : ∀ j, j < 4 → ∃ x : Int, (w3.drew.alloc (.cells #[.int .i64 0, .int .i64 1000000000, .int .i64 1000000001, .int .i64 (-1000000000)] 3)).cell? ⟨w3.heap.size, j, none⟩ = some (.int .i64 x) ∧ (-2000000000 ≤ x ∧ x ≤ 2000000000) := fun j hj => by
        have e := cells_at w3.drew #[.int .i64 0, .int .i64 1000000000, .int .i64 1000000001, .int .i64 (-1000000000)] 3 j
        rw [show w3.drew.heap.size = w3.heap.size from rfl] at e
        rw [e]
        match j, hj with
        | 0, _ => exact ⟨_, rfl, by omega, by omega⟩
        | 1, _ => exact ⟨_, rfl, by omega, by omega⟩
        | 2, _ => exact ⟨_, rfl, by omega, by omega⟩
        | 3, _ => exact ⟨_, rfl, by omega, by omega⟩
      go_upto_region 9 with fail
      refine startE 7 (fun w' => w'.cell? ⟨X, 1, none⟩ = some (.slice (some ⟨g, 0, none⟩) cs.length cu) ∧ w'.cell? ⟨g, 1, none⟩ = some (.int .i64 c0.n)) (by kernel_rfl) ?_ (fun hHeld => ?_)
      · (try dsimp only)
        exact ⟨x1, xg⟩
      refine takeE (i := 0) (d := 41) (v := ?_) rfl rfl (by kernel_rfl) (by kernel_rfl) (by kernel_rfl) (by kernel_rfl) (fun _ _ _ h => h) (by rfl) (by assumption) ?_ ?_
      rotate_left
      · intro w' hSw; (try dsimp only at hSw); go_simp; try exact rfl
      try simp only [List.setIfInBounds_toArray, List.set_cons_zero, List.set_cons_succ]
      refine takeE (i := 1) (d := 42) (v := ?_) rfl rfl (by kernel_rfl) (by kernel_rfl) (by kernel_rfl) (by kernel_rfl) (fun _ _ _ h => h) (by rfl) (by assumption) ?_ ?_
      rotate_left
      · intro w' hSw; (try dsimp only at hSw); go_simp; try exact rfl
      try simp only [List.setIfInBounds_toArray, List.set_cons_zero, List.set_cons_succ]
      refine takeE (i := 2) (d := 43) (v := ?_) rfl rfl (by kernel_rfl) (by kernel_rfl) (by kernel_rfl) (by kernel_rfl) (fun _ _ _ h => h) (by rfl) (by assumption) ?_ ?_
      rotate_left
      · intro w' hSw; (try dsimp only at hSw); go_simp; try exact rfl
      try simp only [List.setIfInBounds_toArray, List.set_cons_zero, List.set_cons_succ]
      refine oneE (i := 3) (by kernel_rfl) rfl (fun K hK => ?_)
      go_simp
      refine hK.out _ _ ?_ (fun hHeld3 => ?_)
      · intro _
        (try dsimp only)
        exact ⟨by go_simp, by go_simp⟩
      clear hK
      replace hHeld3 := hHeld3 (by decide)
      try simp only [List.setIfInBounds_toArray, List.set_cons_zero, List.set_cons_succ]
      refine oneE (i := 4) (by kernel_rfl) rfl (fun K hK => ?_)
      go_simp
      go_at_call 37
      refine Calls.mono (l01PickInt_any (fun x => -2000000000 ≤ x ∧ x ≤ 2000000000) w3.heap.size 4 4 B v l (w3.drew.alloc (.cells #[.int .i64 0, .int .i64 1000000000, .int .i64 1000000001, .int .i64 (-1000000000)] 3)) hSb.D.cur (by omega) (by omega) (by omega) (by omega) (by simp) hcells) ?_
      rintro e w4 ⟨⟨x, rfl, y0, y1⟩, hd4⟩
      have hS4 := hSb.drew hd4
      obtain ⟨z0, z1, zf⟩ := bag2 hS4.xb
      have hX4 := hS4.xlt
      have zg := (hS4.gcell hk).1
      have zgf := (hS4.gcell hk).2.1
      have zgl := (hS4.gcell hk).2.2
      try go_wp2_with fail
      refine hK.out _ _ ?_ (fun hHeld4 => ?_)
      · intro _
        (try dsimp only)
        exact ⟨z1, zg⟩
      clear hK
      replace hHeld4 := hHeld4 (by decide)
      try simp only [List.setIfInBounds_toArray, List.set_cons_zero, List.set_cons_succ]
      refine oneE (i := 5) (by kernel_rfl) rfl (fun K hK => ?_)
      go_simp
      refine hK.out _ _ ?_ (fun hHeld5 => ?_)
      · intro _
        (try dsimp only)
        exact ⟨z1, zg⟩
      clear hK
      replace hHeld5 := hHeld5 (by decide)
      try simp only [List.setIfInBounds_toArray, List.set_cons_zero, List.set_cons_succ]
      refine oneE (i := 6) (by kernel_rfl) rfl (fun K hK => ?_)
      go_simp
      refine hK.out _ _ ?_ (fun hHeld6 => ?_)
      · intro _
        (try dsimp only)
        exact ⟨z1, zg⟩
      clear hK
      replace hHeld6 := hHeld6 (by decide)
      try simp only [List.setIfInBounds_toArray, List.set_cons_zero, List.set_cons_succ]
      refine oneE (i := 7) (by kernel_rfl) rfl (fun K hK => ?_)
      go_simp
      refine hK.out _ _ ?_ (fun hHeld7 => ?_)
      · exact fun h => absurd rfl h
      clear hK hHeld7
      try simp only [List.setIfInBounds_toArray, List.set_cons_zero, List.set_cons_succ]
      refine doneE (by kernel_rfl) ?_ _
      replace hS := hS4.setN hk y0 y1
      rw [show 0 * 2 + 1 = 1 from rfl] at hS
      clear hS4 hSb hd4 hcells z0 z1 zf zg zgf zgl x0 x1 xf xg gf hX4 hXl y0 y1
      go_upto_region 10 with fail
      generalize w4.setCell ⟨g, 1, none⟩ (.int .i64 x) = w5 at *
      generalize cs.set 0 ⟨c0.r, x⟩ = cs2 at *
      obtain ⟨x0, x1, xf⟩ := bag2 hS.xb
      obtain ⟨r0, r1, rf⟩ := bag2 hS.rb
      have hRl := hS.rl
      have hXl := hS.xlt
      have HF := hS.fin
      obtain ⟨HF0, HF1, HO, HDD⟩ := HF
      have HJ : Hid _ := hS.J
      have HG : Hid _ := HO
      have HH : Hid _ := HDD
      have HZ0 : Hid _ := HF0
      have HZ1 : Hid _ := HF1
      clear hS HF0 HF1 HO HDD
      go_wp2
      have z0 := HZ0.out
      have z1 := HZ1.out
      refine bodyPost_ret (v := .agg #[.int .i64 _, .slice (some ⟨g, 0, none⟩) cs.length cu]) (by simp [results, Tryz.results15, go_sem, z0, z1]) rfl ⟨⟨_, _, cs2, us, G, rfl, HJ.out, HG.out⟩, HH.out⟩
  have k2 : (q == 2) = false := by simpa using h2
  obtain ⟨x0, x1, xf⟩ := bag2 hS.xb
  obtain ⟨r0, r1, rf⟩ := bag2 hS.rb
  have hRl := hS.rl
  have hXl := hS.xlt
  have HF := hS.fin
  obtain ⟨HF0, HF1, HO, HDD⟩ := HF
  have HJ : Hid _ := hS.J
  have HG : Hid _ := HO
  have HH : Hid _ := HDD
  have HZ0 : Hid _ := HF0
  have HZ1 : Hid _ := HF1
  clear hS HF0 HF1 HO HDD
  go_wp2
  have z0 := HZ0.out
  have z1 := HZ1.out
  refine bodyPost_ret (v := .agg #[.int .i64 _, .slice au cs.length cu]) (by simp [results, Tryz.results15, go_sem, z0, z1]) rfl ⟨⟨_, _, cs, us, G, rfl, HJ.out, HG.out⟩, HH.out⟩
end Go.Proofs.YtiaafgmjigbjlaaGreatDoor
