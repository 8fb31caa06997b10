/- Own texts, joined: contracts that the law's proof goes by. -/
import Derived.Test.YtbmoimfimeiglaaGreatGLFnLog1
import Derived.Handy
import Derived.Laws.Bits64b
import Derived.OwnWalk
import Derived.Lib.SmallJoins
import Derived.Test.YtbmoimfimeiglaaGreatGLFnLog7
import Derived.Test.YtbmoimfimeiglaaGreatGLFnLog10
import Derived.Lib.AppendStr
import Derived.Laws.BytesArg
import Derived.Laws.OwnMore
namespace Go.Proofs.YtbmoimfimeiglaaGreat
open Go.RowKit
set_option linter.unusedVariables false
theorem info5 : (Tryz.prog.info? 5).map (fun i => (i.zero, i.size, i.bytes)) = some (some (.int .u8 0), 1, 1) := by kernel_rfl
def numB (n : Int) (j : Nat) : Int := IntKind.u64.wrap n / 2 ^ (8 * (7 - j)) % 256
def numL (n : Int) (j : Nat) : List Int := 1 :: (List.range j).map (numB n)
theorem numL_len (n : Int) (j : Nat) : (numL n j).length = 1 + j := by simp [numL]; omega
theorem numL_succ (n : Int) (j : Nat) : numL n (j + 1) = numL n j ++ [numB n j] := by simp [numL, List.range_succ]
theorem own_start (w : World) (x : Int) : (w.alloc (Obj.cells #[Value.int .u8 x] 5)).ownsRow w.heap.size 5 1 (.slice (some ⟨w.heap.size, 0, none⟩) 1 1) 1 ([x].map (Value.int .u8)) := by
  refine ⟨rfl, .inr ⟨w.heap.size, 1, #[Value.int .u8 x], rfl, Nat.le_refl _, heap_alloc_new w _, Nat.le_refl _, by unfold maxLen; decide, rfl, rfl⟩⟩
theorem own_grow {w wr w1 : World} {v : Value} {o : Obj} {B n : Nat} {xs : List Value} (hown : wr.ownsRow B 5 1 v n xs) (hbel : Below B w wr) (hB : B ≤ wr.heap.size) (hg : (wr.alloc o).grownBy w1 v.ownBlock) : Below B w w1 := by
  refine Below.grown (hbel.alloc hB o) hg (by simp; omega) ?_
  intro k hk
  rcases hown.2 with ⟨hv, _⟩ | ⟨g, cap, cur, hv, hb, _⟩
  · rw [hv] at hk; simp [Value.ownBlock] at hk
  · rw [hv] at hk; simp [Value.ownBlock] at hk; omega
set_option maxHeartbeats 2000000 in
set_option maxRecDepth 100000 in
theorem numberBytes_any (n : Int) (w : World)  :
    Calls Tryz.prog 61 #[.int .i64 n] w fun e w' => ∃ v, e = .returned v ∧ w'.ownsRow w.heap.size 5 1 v 9 ((numL n 8).map (Value.int .u8)) ∧ Below w.heap.size w w' := by
  obtain ⟨i0, hi, hz0, hz1, hz2⟩ := info_parts info5
  go_enter Tryz.func61, Tryz.ntmps61
  go_wp2
  go_loopw [3, 4] (fun v i wr => ∃ j : Nat, j ≤ 8 ∧ i = .int .i64 (7 - (j : Int)) ∧ wr.ownsRow w.heap.size 5 1 v (1 + j) ((numL n j).map (Value.int .u8)) ∧ Below w.heap.size w wr) (fun _ i _ => (intOf i + 1).toNat)
  case atStart => exact ⟨0, by omega, rfl, own_start w 1, (Below.refl _ _).alloc (Nat.le_refl _) _⟩
  case round =>
    obtain ⟨j, hj, rfl, hown, hbel⟩ := hrel
    have hB := hbel.size
    by_cases hlt : j < 8
    · go_wp2_with (at_builtin; refine wpList_append_own _ rfl _ _ 22 rfl w.heap.size 5 i0 (.int .u8 0) 1 1 Tryz.underlying22 hi hz0 hz1 hz2 rfl (by decide) _ _ _ rfl (hown.alloc _) ⟨wr.heap.size, 0, none⟩ 1 1 [.int .u8 (IntKind.u64.wrap n / 2 ^ (8 * (7 - j)) % 256)] rfl rfl ?c1 ?c2 ?c3 ?c4 ?c5 ?_)
      case c1 =>
        intro q u hq
        match q, hq with
        | 0, hq => simp at hq; subst hq; simp [Addr.add]
      case c2 => intro u hu; simp at hu; subst hu; rfl
      case c3 => unfold maxLen; omega
      case c4 => omega
      case c5 => simp; omega
      · intro v' w1 hown' hgrow _
        have R1 : w1.ownsRow w.heap.size 5 1 v' (1 + (j + 1)) ((numL n (j + 1)).map (Value.int .u8)) := by
          rw [numL_succ, List.map_append]; exact hown'
        have R2 := own_grow hown hbel hB hgrow
        clear hown' hgrow hown
        go_wp2
        go_roundw
        case rel => exact ⟨j + 1, by omega, by go_num, R1, R2⟩
        case measure => simp [intOf]; omega
    · have hj8 : j = 8 := by omega
      subst hj8
      go_wp2
      go_returns
      exact ⟨_, rfl, hown, hbel⟩
end Go.Proofs.YtbmoimfimeiglaaGreat
namespace Go.Proofs.YtbmoimfimeiglaaGreat
open Go.RowKit
set_option linter.unusedVariables false
attribute [local go_sem] ta_nullForm_nullForm ta_nullForm_intForm ta_nullForm_boolForm ta_nullForm_textForm ta_intForm_nullForm ta_intForm_intForm ta_intForm_boolForm ta_intForm_textForm ta_boolForm_nullForm ta_boolForm_intForm ta_boolForm_boolForm ta_boolForm_textForm ta_textForm_nullForm ta_textForm_intForm ta_textForm_boolForm ta_textForm_textForm ta_nil_nullForm ta_nil_intForm ta_nil_boolForm ta_nil_textForm
theorem ta_text1 (s : ByteArray) (w : World) : (Instr.typeAssert (.iface 194 (.agg #[.string s])) 170 194 false).run Tryz.prog w = .ok (.agg #[.string s]) w := by kernel_rfl
theorem fld_text (s : ByteArray) (w : World) : (Instr.field 194 (.agg #[.string s]) 0).run Tryz.prog w = .ok (.string s) w := by kernel_rfl
attribute [local go_sem] ta_text1 fld_text
theorem own_lit (W : World) (B : Nat) (xs : List Int) (hB : B ≤ W.heap.size) (hl : xs.length ≤ 100) : (W.alloc (Obj.cells (xs.map (Value.int .u8)).toArray 5)).ownsRow B 5 1 (.slice (some ⟨W.heap.size, 0, none⟩) xs.length xs.length) xs.length (xs.map (Value.int .u8)) := by
  refine ⟨by simp, .inr ⟨W.heap.size, xs.length, (xs.map (Value.int .u8)).toArray, rfl, hB, heap_alloc_new W _, Nat.le_refl _, by unfold maxLen; omega, by simp, ?_⟩⟩
  rw [List.take_of_length_le (by simp)]
theorem own_litg (W : World) (B g : Nat) (xs : List Int) (hg : g = W.heap.size) (hB : B ≤ W.heap.size) (hl : xs.length ≤ 100) : (W.alloc (Obj.cells (xs.map (Value.int .u8)).toArray 5)).ownsRow B 5 1 (.slice (some ⟨g, 0, none⟩) xs.length xs.length) xs.length (xs.map (Value.int .u8)) := by
  subst hg; exact own_lit W B xs hB hl
theorem own_base {w : World} {B B' e size n : Nat} {v : Value} {xs : List Value} (h : w.ownsRow B e size v n xs) (hb : B' ≤ B) : w.ownsRow B' e size v n xs := by
  obtain ⟨h1, h2⟩ := h
  refine ⟨h1, ?_⟩
  rcases h2 with h2 | ⟨g, cap, cur, hv, hg, r⟩
  · exact .inl h2
  · exact .inr ⟨g, cap, cur, hv, Nat.le_trans hb hg, r⟩
theorem conv_own {w : World} {B n : Nat} {v : Value} (xs : List Int) (h : w.ownsRow B 5 1 v n (xs.map (Value.int .u8))) (hn : 0 < n) : (convert 22 9 v).run Tryz.prog w = .ok (.string (strOfNums xs)) w := by
  have hlen : xs.length = n := by have := h.1; simpa using this
  obtain ⟨g, cap, rfl⟩ := Go.Joins.ownsRow_form h hn
  refine run_convert_bytes_arg w 22 5 Tryz.underlying22 Tryz.underlying5 g 0 n cap xs hlen ?_ 9 Tryz.underlying9
  intro i hi
  rw [Nat.zero_add, h.cellAt i (by omega)]
  have hi' : i < xs.length := by omega
  simp [List.getD, List.getElem?_eq_getElem hi']
set_option maxHeartbeats 1000000 in
set_option maxRecDepth 100000 in
theorem fb_0 (w : World) : Calls Tryz.prog 114 #[.iface 186 (.agg #[])] w fun e w' => ∃ v, e = .returned v ∧ w'.ownsRow w.heap.size 5 1 v 1 ([(0 : Int)].map (Value.int .u8)) ∧ Below w.heap.size w w' := by
  go_enter Tryz.func114, Tryz.ntmps114
  go_wp2
  go_returns
  refine ⟨_, rfl, own_litg _ _ _ [0] ?_ ?_ (by decide), ?_⟩
  · first | (simp; done) | (simp; omega)
  · first | (simp; done) | (simp; omega)
  · go_grown
set_option maxHeartbeats 1000000 in
set_option maxRecDepth 100000 in
theorem fb_1 (n : Int) (w : World) : Calls Tryz.prog 114 #[.iface 189 (.agg #[.int .i64 n])] w fun e w' => ∃ v, e = .returned v ∧ w'.ownsRow w.heap.size 5 1 v 9 ((numL n 8).map (Value.int .u8)) ∧ Below w.heap.size w w' := by
  go_enter Tryz.func114, Tryz.ntmps114
  go_wp2_with fail
  refine (numberBytes_any _ _).mono ?_
  rintro e w1 ⟨v, rfl, hown, hb1⟩
  have hz1 := hb1.size
  simp only [World.size_alloc] at hz1
  go_wp2_with fail
  go_returns
  refine ⟨_, rfl, own_base hown (by simp; omega), ?_⟩
  exact bela
set_option maxHeartbeats 1000000 in
set_option maxRecDepth 100000 in
theorem fb_2 (n : Int) (w : World) (h : n = 0 ∨ n = 1) : Calls Tryz.prog 114 #[.iface 191 (.agg #[.int .i64 n])] w fun e w' => ∃ v, e = .returned v ∧ w'.ownsRow w.heap.size 5 1 v 2 ([(2 : Int), n].map (Value.int .u8)) ∧ Below w.heap.size w w' := by
  have hm : n % 256 = n := by omega
  go_enter Tryz.func114, Tryz.ntmps114
  go_wp2
  go_returns
  refine ⟨_, rfl, own_litg _ _ _ [2, n] ?_ ?_ (by simp), ?_⟩
  · first | (simp; done) | (simp; omega)
  · first | (simp; done) | (simp; omega)
  · go_grown
set_option maxHeartbeats 1000000 in
set_option maxRecDepth 100000 in
theorem fb_3 (s : ByteArray) (w : World) (h : s.size ≤ 100) : Calls Tryz.prog 114 #[.iface 194 (.agg #[.string s])] w fun e w' => ∃ v, e = .returned v ∧ w'.ownsRow w.heap.size 5 1 v (2 + s.size) (([(3 : Int), (s.size : Int)] ++ s.data.toList.map (fun b => (b.toNat : Int))).map (Value.int .u8)) ∧ Below w.heap.size w w' := by
  have hm : (s.size : Int) % 256 = s.size := by omega
  obtain ⟨i0, hi, hz0, hz1, hz2⟩ := info_parts info5
  go_enter Tryz.func114, Tryz.ntmps114
  go_wp2_with (at_builtin; refine Go.Lib.wpList_append_own_string _ rfl _ _ 22 9 rfl w.heap.size 5 i0 Tryz.underlying22 Tryz.underlying9 hi hz0 hz1 hz2 _ 2 ([(3 : Int), (s.size : Int)].map (Value.int .u8)) rfl (own_litg _ _ _ [3, (s.size : Int)] ?c0 ?c1 (by simp)) s rfl ?c2 ?c3 ?c4 ?_)
  case c0 => first | (simp; done) | (simp; omega)
  case c1 => first | (simp; done) | (simp; omega)
  case c2 => unfold maxLen; omega
  case c3 => omega
  case c4 => first | (simp; done) | (simp; omega)
  intro v' w1 hown hgrow _
  go_wp2_with fail
  go_returns
  refine ⟨_, rfl, ?_, ?_⟩
  · simp only [List.map_cons, List.map_map]; exact hown
  · refine Below.grown ?_ hgrow (by simp; omega) ?_
    · go_grown
    · intro k hk; simp [Value.ownBlock] at hk; omega
end Go.Proofs.YtbmoimfimeiglaaGreat
