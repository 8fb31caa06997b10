/- Own texts, joined: contracts that the law's proof goes by. -/
import Derived.Test.YtbmoimfimeiglaaGreatGLFnLog45
import Derived.Test.YtbmoimfimeiglaaGreatGLFnLog5
import Derived.Handy
import Derived.Deep.DeepCutAuto
import Derived.Test.YtbmoimfimeiglaaGreatGLFnLog7
import Derived.Deep.RegionHeld3
namespace Go.Proofs.YtbmoimfimeiglaaGreat
open Go.RowKit Go.Deep
set_option linter.unusedVariables false
set_option maxHeartbeats 1000000 in
set_option maxRecDepth 100000 in
theorem l01Below_big (n : Int) (B : Nat) (v : Value) (l : Nat) (w : World) (h : Cur w B v l) (h1 : 256 < n) (h2 : n ≤ 1000000000) :
    Calls Tryz.prog 52 #[.pointer (some ⟨B, 0, none⟩), .int .i64 n] w fun e w' => (∃ x : Int, e = .returned (.int .i64 x) ∧ 0 ≤ x ∧ x < n) ∧ Drew B v l w w' := by
  go_enter Tryz.func52, Tryz.ntmps52
  go_wp2_with fail
  refine (l01Byte_any B v l w h).mono ?_
  rintro e w1 ⟨⟨x, rfl, x0, x1⟩, hd1⟩
  go_wp2_with fail
  refine (l01Byte_any B v l w1 hd1.cur).mono ?_
  rintro e w2 ⟨⟨y, rfl, y0, y1⟩, hd2⟩
  go_wp2_with fail
  refine (l01Byte_any B v l w2 hd2.cur).mono ?_
  rintro e w3 ⟨⟨z, rfl, z0, z1⟩, hd3⟩
  go_wp2_with fail
  refine (l01Byte_any B v l w3 hd3.cur).mono ?_
  rintro e w4 ⟨⟨u, rfl, u0, u1⟩, hd4⟩
  have a1 : wrap64 (x * 16777216) = x * 16777216 := by unfold wrap64; omega
  have a2 : wrap64 (y * 65536) = y * 65536 := by unfold wrap64; omega
  have a3 : wrap64 (z * 256) = z * 256 := by unfold wrap64; omega
  have a4 : wrap64 (x * 16777216 + y * 65536) = x * 16777216 + y * 65536 := by unfold wrap64; omega
  have a5 : wrap64 (x * 16777216 + y * 65536 + z * 256) = x * 16777216 + y * 65536 + z * 256 := by unfold wrap64; omega
  have a6 : wrap64 (x * 16777216 + y * 65536 + z * 256 + u) = x * 16777216 + y * 65536 + z * 256 + u := by unfold wrap64; omega
  go_wp2_with fail
  go_returns
  exact ⟨⟨_, rfl, Int.emod_nonneg _ (by omega), Int.emod_lt_of_pos _ (by omega)⟩, hd1.trans (hd2.trans (hd3.trans hd4))⟩
end Go.Proofs.YtbmoimfimeiglaaGreat
namespace Go.Proofs.YtbmoimfimeiglaaGreat
open Go.RowKit Go.Deep
set_option linter.unusedVariables false
theorem l01Below_all (n : Int) (B : Nat) (v : Value) (l : Nat) (w : World) (h : Cur w B v l) (h1 : 1 ≤ n) (h2 : n ≤ 1000000000) :
    Calls Tryz.prog 52 #[.pointer (some ⟨B, 0, none⟩), .int .i64 n] w fun e w' => (∃ x : Int, e = .returned (.int .i64 x) ∧ 0 ≤ x ∧ x < n) ∧ Drew B v l w w' := by
  by_cases hn : n ≤ 256
  · exact l01Below_any n B v l w h h1 hn
  · exact l01Below_big n B v l w h (by omega) h2
end Go.Proofs.YtbmoimfimeiglaaGreat
namespace Go.Proofs.YtbmoimfimeiglaaGreat
open Go.RowKit Go.Deep Go.ChangeShapes Go.WideShapes
set_option linter.unusedVariables false
def strLe (n : Nat) : Option Value → Bool
  | some (.string x) => decide (x.size ≤ n)
  | _ => false
theorem strLe_some {n : Nat} {v : Option Value} (h : strLe n v = true) : ∃ x : ByteArray, v = some (.string x) ∧ x.size ≤ n := by
  unfold strLe at h
  split at h
  · exact ⟨_, rfl, by simpa using h⟩
  · cases h
theorem pick_lit (n m : Nat) (c : Array Value) (B : Nat) (v : Value) (l : Nat) (w w1 : World) (h : Cur w B v l) (h1 : 1 ≤ m) (h2 : m ≤ 256) (hc : (List.range m).all (fun j => strLe n c[j]?) = true) (e1 : w1 = w.alloc (.cells c 9)) :
    Calls Tryz.prog 53 #[.pointer (some ⟨B, 0, none⟩), .slice (some ⟨w.heap.size, 0, none⟩) m m] w1 fun e w' => (∃ x : ByteArray, e = .returned (.string x) ∧ x.size ≤ n) ∧ Drew B v l w w' := by
  subst e1
  have hD := h.start.alloc (.cells c 9)
  have hlt := h.lt
  refine (l01Pick_any (fun x => x.size ≤ n) w.heap.size m m B v l _ hD.cur h1 h2 (Nat.le_refl _) (by omega) (by simp) (fun j hj => ?_)).mono ?_
  · rw [cells_at]
    exact strLe_some (List.all_eq_true.1 hc j (List.mem_range.2 hj))
  · rintro e w' ⟨h3, h4⟩
    exact ⟨h3, hD.trans h4⟩
theorem lit_size (c : Array UInt8) : (⟨c⟩ : ByteArray).size = c.size := rfl
def xB : Nat → Nat
  | 0 => 4
  | d + 1 => 2 * xB d + 20
theorem xB_le : ∀ d, d ≤ 4 → 4 ≤ xB d ∧ xB d ≤ 400
  | 0, _ => by decide
  | 1, _ => by decide
  | 2, _ => by decide
  | 3, _ => by decide
  | 4, _ => by decide
  | d + 5, h => by omega
set_option maxHeartbeats 4000000 in
set_option maxRecDepth 100000 in
theorem l08ExpText_any (B : Nat) (v : Value) (l : Nat) : ∀ (d : Nat) (w : World), d ≤ 4 → Cur w B v l →
    Calls Tryz.prog 83 #[.pointer (some ⟨B, 0, none⟩), .int .i64 d] w fun e w' => (∃ x : ByteArray, e = .returned (.string x) ∧ x.size ≤ xB d) ∧ Drew B v l w w'
  | 0, w, hd, h => by
    go_enter Tryz.func83, Tryz.ntmps83
    go_wp2_with fail
    refine (pick_lit 4 13 _ B v l w _ h (by omega) (by omega) (by rfl) rfl).mono ?_
    rintro e w1 ⟨⟨x, rfl, hx⟩, hd1⟩
    go_wp2
    go_returns
    exact ⟨⟨_, rfl, hx⟩, hd1⟩
  | d + 1, w, hd, h => by
    have ih := fun w1 => l08ExpText_any B v l d w1 (by omega)
    have hX := xB_le d (by omega)
    have hX1 : xB (d + 1) = 2 * xB d + 20 := rfl
    rw [hX1]
    have hdp : decide ((d : Int) + 1 ≤ 0) = false := by simp <;> omega
    have hwd : wrap64 ((d : Int) + 1 - 1) = (d : Int) := by unfold wrap64; omega
    go_enter Tryz.func83, Tryz.ntmps83
    go_wp2_with fail
    refine (l01Once_any 3 _ v l w h (by omega) (by omega)).mono ?_
    rintro e w1 ⟨⟨b, rfl⟩, hd1⟩
    cases b
    · go_wp2_with fail
      refine (ih w1 hd1.cur).mono ?_
      rintro e w2 ⟨⟨a, rfl, ha⟩, hd2⟩
      go_wp2_with fail
      refine (l01Below_any 9 _ v l w2 hd2.cur (by omega) (by omega)).mono ?_
      rintro e w3 ⟨⟨q, rfl, q0, q1⟩, hd3⟩
      have hD := hd1.trans (hd2.trans hd3)
      clear hd1 hd2 hd3 h
      by_cases e0 : q = 0
      · subst e0
        go_wp2
        go_returns
        exact ⟨⟨_, rfl, by simp only [ByteArray.size_append, lit_size, List.size_toArray, List.length_cons, List.length_nil]; omega⟩, hD⟩
      by_cases e1 : q = 1
      · subst e1
        go_wp2
        go_returns
        exact ⟨⟨_, rfl, by simp only [ByteArray.size_append, lit_size, List.size_toArray, List.length_cons, List.length_nil]; omega⟩, hD⟩
      by_cases e2 : q = 2
      · subst e2
        go_wp2
        go_returns
        exact ⟨⟨_, rfl, by simp only [ByteArray.size_append, lit_size, List.size_toArray, List.length_cons, List.length_nil]; omega⟩, hD⟩
      by_cases e3 : q = 3
      · subst e3
        clear e0 e1 e2 q0 q1
        go_wp2_with fail
        refine (ih w3 hD.cur).mono ?_
        rintro e w4 ⟨⟨b, rfl, hb⟩, hd4⟩
        replace hD := hD.trans hd4
        clear hd4
        go_wp2
        go_returns
        exact ⟨⟨_, rfl, by simp only [ByteArray.size_append, lit_size, List.size_toArray, List.length_cons, List.length_nil]; omega⟩, hD⟩
      have b0 : (q == 0) = false := by simp [e0]
      have b1 : (q == 1) = false := by simp [e1]
      have b2 : (q == 2) = false := by simp [e2]
      have b3 : (q == 3) = false := by simp [e3]
      clear e0 e1 e2 e3 q0 q1
      go_wp2_with fail
      refine (pick_lit 3 7 _ B v l w3 _ hD.cur (by omega) (by omega) (by rfl) rfl).mono ?_
      rintro e w4 ⟨⟨o, rfl, ho⟩, hd4⟩
      replace hD := hD.trans hd4
      clear hd4
      go_wp2_with fail
      refine (ih w4 hD.cur).mono ?_
      rintro e w5 ⟨⟨b, rfl, hb⟩, hd5⟩
      replace hD := hD.trans hd5
      clear hd5
      go_wp2
      go_returns
      exact ⟨⟨_, rfl, by simp only [ByteArray.size_append, lit_size, List.size_toArray, List.length_cons, List.length_nil]; omega⟩, hD⟩
    · go_wp2_with fail
      refine (pick_lit 4 13 _ B v l w1 _ hd1.cur (by omega) (by omega) (by rfl) rfl).mono ?_
      rintro e w2 ⟨⟨x, rfl, hx⟩, hd2⟩
      go_wp2
      go_returns
      exact ⟨⟨_, rfl, by omega⟩, hd1.trans hd2⟩
end Go.Proofs.YtbmoimfimeiglaaGreat
namespace Go.Proofs.YtbmoimfimeiglaaGreat
open Go.RowKit Go.Deep Go.ChangeShapes Go.WideShapes
set_option linter.unusedVariables false
theorem exp1 (B : Nat) (v : Value) (l : Nat) (w : World) (h : Cur w B v l) :
    Calls Tryz.prog 83 #[.pointer (some ⟨B, 0, none⟩), .int .i64 1] w fun e w' => (∃ x : ByteArray, e = .returned (.string x) ∧ x.size ≤ 28) ∧ Drew B v l w w' := l08ExpText_any B v l 1 w (by omega) h
theorem exp2 (B : Nat) (v : Value) (l : Nat) (w : World) (h : Cur w B v l) :
    Calls Tryz.prog 83 #[.pointer (some ⟨B, 0, none⟩), .int .i64 2] w fun e w' => (∃ x : ByteArray, e = .returned (.string x) ∧ x.size ≤ 76) ∧ Drew B v l w w' := l08ExpText_any B v l 2 w (by omega) h
set_option maxHeartbeats 4000000 in
set_option maxRecDepth 100000 in
theorem l08Query_any (B : Nat) (v : Value) (l : Nat) (w : World) (h : Cur w B v l) :
    Calls Tryz.prog 54 #[.pointer (some ⟨B, 0, none⟩)] w fun e w' => (∃ x : ByteArray, e = .returned (.string x) ∧ x.size ≤ 400) ∧ Drew B v l w w' := by
  go_enter Tryz.func54, Tryz.ntmps54
  go_wp2_with fail
  refine (pick_lit 4 6 _ B v l w _ h (by omega) (by omega) (by rfl) rfl).mono ?_
  rintro e w1 ⟨⟨f, rfl, hf⟩, hD⟩
  clear h
  go_wp2_with fail
  refine (l01Once_any 2 _ v l w1 hD.cur (by omega) (by omega)).mono ?_
  rintro e w2 ⟨⟨o1, rfl⟩, hd2⟩
  replace hD := hD.trans hd2
  clear hd2
  cases o1
  · as_aux_lemma =>
      go_wp2_with fail
      refine (l01Below_any 6 _ v l _ hD.cur (by omega) (by omega)).mono ?_
      rintro e w12 ⟨⟨q, rfl, q0, q1⟩, hd12⟩
      replace hD := hD.trans hd12
      clear hd12
      by_cases e0 : q = 0
      · subst e0
        go_wp2
        go_returns
        exact ⟨⟨_, rfl, by simp only [ByteArray.size_append, lit_size, List.size_toArray, List.length_cons, List.length_nil]; omega⟩, hD⟩
      by_cases e1 : q = 1
      · subst e1
        clear e0 q0 q1
        go_wp2_with fail
        refine (pick_lit 12 3 _ B v l w12 _ hD.cur (by omega) (by omega) (by rfl) rfl).mono ?_
        rintro e w13 ⟨⟨z, rfl, hz⟩, hd13⟩
        replace hD := hD.trans hd13
        clear hd13
        go_wp2
        go_returns
        exact ⟨⟨_, rfl, by simp only [ByteArray.size_append, lit_size, List.size_toArray, List.length_cons, List.length_nil]; omega⟩, hD⟩
      by_cases e2 : q = 2
      · subst e2
        go_wp2
        go_returns
        exact ⟨⟨_, rfl, by simp only [ByteArray.size_append, lit_size, List.size_toArray, List.length_cons, List.length_nil]; omega⟩, hD⟩
      by_cases e3 : q = 3
      · subst e3
        clear e0 e1 e2 q0 q1
        go_wp2_with fail
        refine (exp1 B v l w12 hD.cur).mono ?_
        rintro e w13 ⟨⟨z, rfl, hz⟩, hd13⟩
        replace hD := hD.trans hd13
        clear hd13
        go_wp2
        go_returns
        exact ⟨⟨_, rfl, by simp only [ByteArray.size_append, lit_size, List.size_toArray, List.length_cons, List.length_nil]; omega⟩, hD⟩
      have b0 : (q == 0) = false := by simp [e0]
      have b1 : (q == 1) = false := by simp [e1]
      have b2 : (q == 2) = false := by simp [e2]
      have b3 : (q == 3) = false := by simp [e3]
      clear e0 e1 e2 e3 q0 q1
      go_wp2_with fail
      refine (exp2 B v l w12 hD.cur).mono ?_
      rintro e w13 ⟨⟨z, rfl, hz⟩, hd13⟩
      replace hD := hD.trans hd13
      clear hd13
      go_wp2
      go_returns
      exact ⟨⟨_, rfl, by simp only [ByteArray.size_append, lit_size, List.size_toArray, List.length_cons, List.length_nil]; omega⟩, hD⟩
  go_wp2_with fail
  refine (pick_lit 4 3 _ B v l w2 _ hD.cur (by omega) (by omega) (by rfl) rfl).mono ?_
  rintro e w3 ⟨⟨a, rfl, ha⟩, hd3⟩
  replace hD := hD.trans hd3
  clear hd3
  go_wp2_with fail
  refine (exp1 B v l w3 hD.cur).mono ?_
  rintro e w4 ⟨⟨b, rfl, hb⟩, hd4⟩
  replace hD := hD.trans hd4
  clear hd4
  go_wp2_with fail
  refine (l01Once_any 2 _ v l w4 hD.cur (by omega) (by omega)).mono ?_
  rintro e w5 ⟨⟨o2, rfl⟩, hd5⟩
  replace hD := hD.trans hd5
  clear hd5
  cases o2
  · as_aux_lemma =>
      go_wp2_with fail
      refine (l01Below_any 6 _ v l _ hD.cur (by omega) (by omega)).mono ?_
      rintro e w12 ⟨⟨q, rfl, q0, q1⟩, hd12⟩
      replace hD := hD.trans hd12
      clear hd12
      by_cases e0 : q = 0
      · subst e0
        go_wp2
        go_returns
        exact ⟨⟨_, rfl, by simp only [ByteArray.size_append, lit_size, List.size_toArray, List.length_cons, List.length_nil]; omega⟩, hD⟩
      by_cases e1 : q = 1
      · subst e1
        clear e0 q0 q1
        go_wp2_with fail
        refine (pick_lit 12 3 _ B v l w12 _ hD.cur (by omega) (by omega) (by rfl) rfl).mono ?_
        rintro e w13 ⟨⟨z, rfl, hz⟩, hd13⟩
        replace hD := hD.trans hd13
        clear hd13
        go_wp2
        go_returns
        exact ⟨⟨_, rfl, by simp only [ByteArray.size_append, lit_size, List.size_toArray, List.length_cons, List.length_nil]; omega⟩, hD⟩
      by_cases e2 : q = 2
      · subst e2
        go_wp2
        go_returns
        exact ⟨⟨_, rfl, by simp only [ByteArray.size_append, lit_size, List.size_toArray, List.length_cons, List.length_nil]; omega⟩, hD⟩
      by_cases e3 : q = 3
      · subst e3
        clear e0 e1 e2 q0 q1
        go_wp2_with fail
        refine (exp1 B v l w12 hD.cur).mono ?_
        rintro e w13 ⟨⟨z, rfl, hz⟩, hd13⟩
        replace hD := hD.trans hd13
        clear hd13
        go_wp2
        go_returns
        exact ⟨⟨_, rfl, by simp only [ByteArray.size_append, lit_size, List.size_toArray, List.length_cons, List.length_nil]; omega⟩, hD⟩
      have b0 : (q == 0) = false := by simp [e0]
      have b1 : (q == 1) = false := by simp [e1]
      have b2 : (q == 2) = false := by simp [e2]
      have b3 : (q == 3) = false := by simp [e3]
      clear e0 e1 e2 e3 q0 q1
      go_wp2_with fail
      refine (exp2 B v l w12 hD.cur).mono ?_
      rintro e w13 ⟨⟨z, rfl, hz⟩, hd13⟩
      replace hD := hD.trans hd13
      clear hd13
      go_wp2
      go_returns
      exact ⟨⟨_, rfl, by simp only [ByteArray.size_append, lit_size, List.size_toArray, List.length_cons, List.length_nil]; omega⟩, hD⟩
  go_wp2_with fail
  refine (exp2 B v l w5 hD.cur).mono ?_
  rintro e w6 ⟨⟨d, rfl, hd⟩, hd6⟩
  replace hD := hD.trans hd6
  clear hd6
  as_aux_lemma =>
    go_wp2_with fail
    refine (l01Below_any 6 _ v l _ hD.cur (by omega) (by omega)).mono ?_
    rintro e w12 ⟨⟨q, rfl, q0, q1⟩, hd12⟩
    replace hD := hD.trans hd12
    clear hd12
    by_cases e0 : q = 0
    · subst e0
      go_wp2
      go_returns
      exact ⟨⟨_, rfl, by simp only [ByteArray.size_append, lit_size, List.size_toArray, List.length_cons, List.length_nil]; omega⟩, hD⟩
    by_cases e1 : q = 1
    · subst e1
      clear e0 q0 q1
      go_wp2_with fail
      refine (pick_lit 12 3 _ B v l w12 _ hD.cur (by omega) (by omega) (by rfl) rfl).mono ?_
      rintro e w13 ⟨⟨z, rfl, hz⟩, hd13⟩
      replace hD := hD.trans hd13
      clear hd13
      go_wp2
      go_returns
      exact ⟨⟨_, rfl, by simp only [ByteArray.size_append, lit_size, List.size_toArray, List.length_cons, List.length_nil]; omega⟩, hD⟩
    by_cases e2 : q = 2
    · subst e2
      go_wp2
      go_returns
      exact ⟨⟨_, rfl, by simp only [ByteArray.size_append, lit_size, List.size_toArray, List.length_cons, List.length_nil]; omega⟩, hD⟩
    by_cases e3 : q = 3
    · subst e3
      clear e0 e1 e2 q0 q1
      go_wp2_with fail
      refine (exp1 B v l w12 hD.cur).mono ?_
      rintro e w13 ⟨⟨z, rfl, hz⟩, hd13⟩
      replace hD := hD.trans hd13
      clear hd13
      go_wp2
      go_returns
      exact ⟨⟨_, rfl, by simp only [ByteArray.size_append, lit_size, List.size_toArray, List.length_cons, List.length_nil]; omega⟩, hD⟩
    have b0 : (q == 0) = false := by simp [e0]
    have b1 : (q == 1) = false := by simp [e1]
    have b2 : (q == 2) = false := by simp [e2]
    have b3 : (q == 3) = false := by simp [e3]
    clear e0 e1 e2 e3 q0 q1
    go_wp2_with fail
    refine (exp2 B v l w12 hD.cur).mono ?_
    rintro e w13 ⟨⟨z, rfl, hz⟩, hd13⟩
    replace hD := hD.trans hd13
    clear hd13
    go_wp2
    go_returns
    exact ⟨⟨_, rfl, by simp only [ByteArray.size_append, lit_size, List.size_toArray, List.length_cons, List.length_nil]; omega⟩, hD⟩
set_option maxHeartbeats 4000000 in
set_option maxRecDepth 100000 in
theorem l10Spoil_any (s : ByteArray) (B : Nat) (v : Value) (l : Nat) (w : World) (h : Cur w B v l) (hs : s.size ≤ 1000000) :
    Calls Tryz.prog 34 #[.pointer (some ⟨B, 0, none⟩), .string s] w fun e w' => (∃ x : ByteArray, e = .returned (.string x) ∧ x.size ≤ s.size + 1) ∧ Drew B v l w w' := by
  have hw : wrap64 ((s.size : Int) + 1) = (s.size : Int) + 1 := by unfold wrap64; omega
  go_enter Tryz.func34, Tryz.ntmps34
  go_wp2_with fail
  refine (l01Below_all ((s.size : Int) + 1) _ v l w h (by omega) (by omega)).mono ?_
  rintro e w4 ⟨⟨y, rfl, y0, y1⟩, hD4⟩
  obtain ⟨i, rfl⟩ : ∃ i : Nat, y = i := ⟨y.toNat, by omega⟩
  have hi : (i : Int) ≤ s.size := by omega
  have hin : i ≤ s.size := by omega
  clear h y0 y1 hw
  go_wp2_with fail
  refine (l01Below_any 6 _ v l _ hD4.cur (by omega) (by omega)).mono ?_
  rintro e w5 ⟨⟨q, rfl, q0, q1⟩, hd5⟩
  have hD5 := hD4.trans hd5
  have hlt5 := hD5.cur.lt
  clear hD4 hd5
  by_cases e0 : q = 0
  · subst e0
    go_wp2
    go_returns
    exact ⟨⟨_, rfl, by rw [ByteArray.size_extract]; omega⟩, hD5⟩
  have b0 : (q == 0) = false := by simp [e0]
  by_cases e1 : q = 1
  · subst e1
    clear b0 e0 q0 q1
    have hcells : ∀ j, j < 3 → ∃ x : ByteArray, (w5.alloc (.cells #[.string ⟨#[0]⟩, .string ⟨#[1]⟩, .string ⟨#[97]⟩] 9)).drew.cell? ⟨w5.heap.size, j, none⟩ = some (.string x) ∧ x.size ≤ 1 := fun j hj => by
      rw [World.cell?_drew, cells_at]
      match j, hj with
      | 0, _ => exact ⟨_, rfl, by decide⟩
      | 1, _ => exact ⟨_, rfl, by decide⟩
      | 2, _ => exact ⟨_, rfl, by decide⟩
    go_wp2_with fail
    go_region_with (first | (go_at_call 53; refine (l01Pick_any (fun x => x.size ≤ 1) w5.heap.size 3 3 B v l _ (hD5.below (bex)).cur (by omega) (by omega) (by omega) (by omega) (by simp) hcells).mono ?_; rintro e w6 ⟨⟨x, rfl, hx⟩, hd6⟩; have hD6 := (hD5.below (bex)).trans hd6))
    go_wp2
    go_returns
    refine ⟨⟨_, rfl, ?_⟩, hD6⟩
    rw [ByteArray.size_append, ByteArray.size_append, ByteArray.size_extract, ByteArray.size_extract]
    omega
  have b1 : (q == 1) = false := by simp [e1]
  go_wp2
  go_returns
  exact ⟨⟨_, rfl, by omega⟩, hD5⟩
end Go.Proofs.YtbmoimfimeiglaaGreat
