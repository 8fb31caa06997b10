/- Own texts, joined: contracts that the law's proof goes by. -/
import Derived.Test.YtbmoimfimeiglaaGreatGLFnLog5
import Derived.Handy
namespace Go.Proofs.YtbmoimfimeiglaaGreat
open Go.RowKit Go.Deep
set_option linter.unusedVariables false
set_option maxHeartbeats 1000000 in
set_option maxRecDepth 100000 in
theorem l01Once_any (n : Int) (B : Nat) (v : Value) (l : Nat) (w : World) (h : Cur w B v l) (h1 : 1 ≤ n) (h2 : n ≤ 256) :
    Calls Tryz.prog 82 #[.pointer (some ⟨B, 0, none⟩), .int .i64 n] w fun e w' => (∃ b : Bool, e = .returned (.bool b)) ∧ Drew B v l w w' := by
  go_enter Tryz.func82, Tryz.ntmps82
  go_wp2_with fail
  refine (l01Below_any n B v l w h h1 h2).mono ?_
  rintro e w1 ⟨⟨x, rfl, x0, x1⟩, hd1⟩
  go_wp2_with fail
  go_returns
  exact ⟨⟨_, rfl⟩, hd1⟩
set_option maxHeartbeats 1000000 in
set_option maxRecDepth 100000 in
theorem l01PickInt_any (P : Int → Prop) (S m c : Nat) (B : Nat) (v : Value) (l : Nat) (w : World) (h : Cur w B v l) (h1 : 1 ≤ m) (h2 : m ≤ 256) (hmc : m ≤ c) (hS : S ≠ B) (hlt : S < w.heap.size) (hx : ∀ j, j < m → ∃ x : Int, w.cell? ⟨S, j, none⟩ = some (.int .i64 x) ∧ P x) :
    Calls Tryz.prog 109 #[.pointer (some ⟨B, 0, none⟩), .slice (some ⟨S, 0, none⟩) m c] w fun e w' => (∃ x : Int, e = .returned (.int .i64 x) ∧ P x) ∧ Drew B v l w w' := by
  go_enter Tryz.func109, Tryz.ntmps109
  go_wp2_with fail
  refine (l01Below_any m B v l w h (by omega) (by omega)).mono ?_
  rintro e w1 ⟨⟨i, rfl, i0, i1⟩, hd1⟩
  obtain ⟨n, rfl⟩ : ∃ n : Nat, i = n := ⟨i.toNat, by omega⟩
  obtain ⟨x, hx1, hP⟩ := hx n (by omega)
  have hx2 : w1.cell? ⟨S, n, none⟩ = some (.int .i64 x) := (cell_blk (hd1.old hlt hS)).trans hx1
  have hnm : n < m := by omega
  clear hx hx1
  go_wp2_with fail
  go_returns
  exact ⟨⟨_, rfl, hP⟩, hd1⟩
set_option maxHeartbeats 1000000 in
set_option maxRecDepth 100000 in
theorem l01Pick_any (P : ByteArray → Prop) (S m c : Nat) (B : Nat) (v : Value) (l : Nat) (w : World) (h : Cur w B v l) (h1 : 1 ≤ m) (h2 : m ≤ 256) (hmc : m ≤ c) (hS : S ≠ B) (hlt : S < w.heap.size) (hx : ∀ j, j < m → ∃ x : ByteArray, w.cell? ⟨S, j, none⟩ = some (.string x) ∧ P x) :
    Calls Tryz.prog 53 #[.pointer (some ⟨B, 0, none⟩), .slice (some ⟨S, 0, none⟩) m c] w fun e w' => (∃ x : ByteArray, e = .returned (.string x) ∧ P x) ∧ Drew B v l w w' := by
  go_enter Tryz.func53, Tryz.ntmps53
  go_wp2_with fail
  refine (l01Below_any m B v l w h (by omega) (by omega)).mono ?_
  rintro e w1 ⟨⟨i, rfl, i0, i1⟩, hd1⟩
  obtain ⟨n, rfl⟩ : ∃ n : Nat, i = n := ⟨i.toNat, by omega⟩
  obtain ⟨x, hx1, hP⟩ := hx n (by omega)
  have hx2 : w1.cell? ⟨S, n, none⟩ = some (.string x) := (cell_blk (hd1.old hlt hS)).trans hx1
  have hnm : n < m := by omega
  clear hx hx1
  go_wp2_with fail
  go_returns
  exact ⟨⟨_, rfl, hP⟩, hd1⟩
end Go.Proofs.YtbmoimfimeiglaaGreat
namespace Go.Proofs.YtbmoimfimeiglaaGreat
open Go.RowKit Go.Deep
set_option linter.unusedVariables false
set_option maxHeartbeats 1000000 in
set_option maxRecDepth 100000 in
theorem l01IntV_any (n : Int) (w : World) : Calls Tryz.prog 73 #[.int .i64 n] w fun e w' => e = .returned (.agg #[.int .i64 1, .int .i64 n, .string ⟨#[]⟩]) ∧ Below w.heap.size w w' := by
  go_enter Tryz.func73, Tryz.ntmps73
  go_wp2_with fail
  go_returns
  exact ⟨rfl, by go_grown⟩
set_option maxHeartbeats 1000000 in
set_option maxRecDepth 100000 in
theorem l01BoolV_any (b : Bool) (w : World) : Calls Tryz.prog 126 #[.bool b] w fun e w' => (∃ n : Int, e = .returned (.agg #[.int .i64 2, .int .i64 n, .string ⟨#[]⟩]) ∧ 0 ≤ n ∧ n ≤ 1) ∧ Below w.heap.size w w' := by
  cases b
  all_goals
    go_enter Tryz.func126, Tryz.ntmps126
    go_wp2_with fail
    go_returns
    exact ⟨⟨_, rfl, by omega, by omega⟩, by go_grown⟩
theorem VarV.old {w w' : World} {N B : Nat} {v : Value} {l : Nat} {k n : Int} {s : ByteArray} (h : VarV w N k n s) (hd : Drew B v l w w') (hN : B < N) : N < w'.heap.size ∧ (∀ o, w'.frozen? ⟨N, o, none⟩ = false) ∧ w'.cell? ⟨N, 0, none⟩ = some (.int .i64 k) ∧ w'.cell? ⟨N, 1, none⟩ = some (.int .i64 n) ∧ w'.cell? ⟨N, 2, none⟩ = some (.string s) :=
  have h' := h.drew hd (by omega)
  ⟨h'.lt, h'.fr, h'.c0, h'.c1, h'.c2⟩
theorem cells_at (w : World) (c : Array Value) (t : TypeId) (j : Nat) : (w.alloc (.cells c t)).cell? ⟨w.heap.size, j, none⟩ = c[j]? := by simp
def ValD (a b : Int) (m : Nat) (e : Ending) : Prop := ∃ (k n : Int) (s : ByteArray), e = .returned (.agg #[.int .i64 k, .int .i64 n, .string s]) ∧ a ≤ k ∧ k ≤ b ∧ -9223372036854775808 ≤ n ∧ n ≤ 9223372036854775807 ∧ s.size ≤ m
set_option maxHeartbeats 4000000 in
set_option maxRecDepth 100000 in
theorem l01Value_any (B : Nat) (v : Value) (l : Nat) (w : World) (h : Cur w B v l) :
    Calls Tryz.prog 119 #[.pointer (some ⟨B, 0, none⟩)] w fun e w' => ValD 0 3 8 e ∧ Drew B v l w w' := by
  have hB := h.lt
  go_enter Tryz.func119, Tryz.ntmps119
  go_wp2_with fail
  refine (l01Below_any 9 B v l _ (h.below (by go_grown)) (by omega) (by omega)).mono ?_
  rintro e w1 ⟨⟨x, rfl, x0, x1⟩, hd1⟩
  have hV1 := (VarV.new w 0 0 ⟨#[]⟩ _).drew hd1 (by omega)
  have hD1 := ((h.start).alloc _).trans hd1
  have hx : x = 0 ∨ (x = 1 ∨ x = 2 ∨ x = 3) ∨ x = 4 ∨ x = 5 ∨ (x = 6 ∨ x = 7 ∨ x = 8) := by omega
  clear x0 x1
  rcases hx with rfl | hx | rfl | rfl | hx
  · obtain ⟨g1, g2, g3, g4, g5⟩ := hV1
    go_wp2_with fail
    refine bodyPost_ret (v := .agg #[.int .i64 0, .int .i64 0, .string ⟨#[]⟩]) (by simp [results, Tryz.results119, go_sem, *]) rfl ⟨⟨_, _, _, rfl, by omega, by omega, by omega, by omega, by decide⟩, ?_⟩
    repeat first | exact hD1 | refine Drew.set ?_ (by simp) _ | refine Drew.alloc ?_ _
  · rcases hx with rfl | rfl | rfl
    all_goals
      go_wp2_with fail
      refine (l01Below_any 5 B v l _ hD1.cur (by omega) (by omega)).mono ?_
      rintro e w2 ⟨⟨y, rfl, y0, y1⟩, hd2⟩
      have hV2 := hV1.drew hd2 (by omega)
      have hD2 := hD1.trans hd2
      go_wp2_with fail
      refine (l01IntV_any y _).mono ?_
      rintro e w3 ⟨rfl, hb3⟩
      have hD3 := hD2.below hb3
      obtain ⟨g1, g2, g3, g4, g5⟩ := hV2.below hb3
      go_wp2_with fail
      refine bodyPost_ret (v := .agg #[.int .i64 1, .int .i64 y, .string ⟨#[]⟩]) (by simp [results, Tryz.results119, go_sem, *]) rfl ⟨⟨_, _, _, rfl, by omega, by omega, by omega, by omega, by decide⟩, ?_⟩
      repeat first | exact hD3 | refine Drew.set ?_ (by simp) _ | refine Drew.alloc ?_ _
  · go_wp2_with fail
    refine (l01PickInt_any (fun x => -9223372036854775808 ≤ x ∧ x ≤ 9223372036854775807) w1.heap.size 6 6 B v l _ (hD1.alloc _).cur (by omega) (by omega) (by omega) (by have := hD1.cur.lt; omega) (by simp) ?_).mono ?_
    · intro j hj
      rw [cells_at]
      rcases j with _ | _ | _ | _ | _ | _ | j
      all_goals first | exact ⟨_, rfl, by decide, by decide⟩ | omega
    rintro e w2 ⟨⟨y, rfl, y0, y1⟩, hd2⟩
    have hV2 := (hV1.below ((Below.refl _ _).alloc (Nat.le_refl _) _)).drew hd2 (by omega)
    have hD2 := (hD1.alloc _).trans hd2
    go_wp2_with fail
    refine (l01IntV_any y _).mono ?_
    rintro e w3 ⟨rfl, hb3⟩
    have hD3 := hD2.below hb3
    obtain ⟨g1, g2, g3, g4, g5⟩ := hV2.below hb3
    go_wp2_with fail
    refine bodyPost_ret (v := .agg #[.int .i64 1, .int .i64 y, .string ⟨#[]⟩]) (by simp [results, Tryz.results119, go_sem, *]) rfl ⟨⟨_, _, _, rfl, by omega, by omega, by omega, by omega, by decide⟩, ?_⟩
    repeat first | exact hD3 | refine Drew.set ?_ (by simp) _ | refine Drew.alloc ?_ _
  · go_wp2_with fail
    refine (l01Once_any 2 B v l _ hD1.cur (by omega) (by omega)).mono ?_
    rintro e w2 ⟨⟨y, rfl⟩, hd2⟩
    have hV2 := hV1.drew hd2 (by omega)
    have hD2 := hD1.trans hd2
    go_wp2_with fail
    refine (l01BoolV_any y _).mono ?_
    rintro e w3 ⟨⟨n, rfl, n0, n1⟩, hb3⟩
    have hD3 := hD2.below hb3
    obtain ⟨g1, g2, g3, g4, g5⟩ := hV2.below hb3
    go_wp2_with fail
    refine bodyPost_ret (v := .agg #[.int .i64 2, .int .i64 n, .string ⟨#[]⟩]) (by simp [results, Tryz.results119, go_sem, *]) rfl ⟨⟨_, _, _, rfl, by omega, by omega, by omega, by omega, by decide⟩, ?_⟩
    repeat first | exact hD3 | refine Drew.set ?_ (by simp) _ | refine Drew.alloc ?_ _
  · rcases hx with rfl | rfl | rfl
    all_goals
      go_wp2_with fail
      refine (l01Pick_any (fun x => x.size ≤ 8) w1.heap.size 5 5 B v l _ (hD1.alloc _).cur (by omega) (by omega) (by omega) (by have := hD1.cur.lt; omega) (by simp) ?_).mono ?_
      · intro j hj
        rw [cells_at]
        rcases j with _ | _ | _ | _ | _ | j
        all_goals first | exact ⟨_, rfl, by decide⟩ | omega
      rintro e w2 ⟨⟨y, rfl, y0⟩, hd2⟩
      have hD2 := (hD1.alloc _).trans hd2
      obtain ⟨g1, g2, g3, g4, g5⟩ := (hV1.below ((Below.refl _ _).alloc (Nat.le_refl _) _)).drew hd2 (by omega)
      go_wp2_with fail
      refine bodyPost_ret (v := .agg #[.int .i64 3, .int .i64 0, .string y]) (by simp [results, Tryz.results119, go_sem, *]) rfl ⟨⟨_, _, _, rfl, by omega, by omega, by omega, by omega, y0⟩, ?_⟩
      repeat first | exact hD2 | refine Drew.set ?_ (by simp) _ | refine Drew.alloc ?_ _
end Go.Proofs.YtbmoimfimeiglaaGreat
