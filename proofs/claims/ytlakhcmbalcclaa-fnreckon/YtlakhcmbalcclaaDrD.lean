/- Own text. A value that is drawn, of a wrong kind now and then. -/
import Derived.Test.YtlakhcmbalcclaaDrC
import Derived.Handy
namespace Go.Proofs.Ytlakhcmbalcclaa
open Go.RowKit Go.Deep
set_option linter.unusedVariables false
theorem VarV.set0 {w : World} {N : Nat} {k n : Int} {s : ByteArray} (h : VarV w N k n s) (k' : Int) : VarV (w.setCell ⟨N, 0, none⟩ (.int .i64 k')) N k' n s :=
  ⟨by simpa using h.lt, fun o => by rw [World.frozen?_setCell]; exact h.fr o, World.cell?_setCell_same _ _ _ h.c0, (World.cell?_setCell_other _ _ _ _ (by simp)).trans h.c1, (World.cell?_setCell_other _ _ _ _ (by simp)).trans h.c2⟩
theorem VarV.put {w : World} {N : Nat} {k n : Int} {s : ByteArray} (h : VarV w N k n s) (k' n' : Int) (s' : ByteArray) : VarV (((w.setCell ⟨N, 0, none⟩ (.int .i64 k')).setCell ⟨N, 1, none⟩ (.int .i64 n')).setCell ⟨N, 2, none⟩ (.string s')) N k' n' s' := by
  refine ⟨by simpa using h.lt, fun o => by simp only [World.frozen?_setCell]; exact h.fr o, ?_, ?_, ?_⟩
  · exact (World.cell?_setCell_other _ _ _ _ (by simp)).trans ((World.cell?_setCell_other _ _ _ _ (by simp)).trans (World.cell?_setCell_same _ _ _ h.c0))
  · exact (World.cell?_setCell_other _ _ _ _ (by simp)).trans (World.cell?_setCell_same _ _ _ ((World.cell?_setCell_other _ _ _ _ (by simp)).trans h.c1))
  · exact World.cell?_setCell_same _ _ _ ((World.cell?_setCell_other _ _ _ _ (by simp)).trans ((World.cell?_setCell_other _ _ _ _ (by simp)).trans h.c2))
theorem VarV.other {w : World} {N : Nat} {k n : Int} {s : ByteArray} (h : VarV w N k n s) {p : Addr} (hp : N ≠ p.block) (u : Value) : VarV (w.setCell p u) N k n s := h.keep (by simp) (Below.heap_setCell _ _ _ _ hp)
theorem VarV.alloc {w : World} {N : Nat} {k n : Int} {s : ByteArray} (h : VarV w N k n s) (o : Obj) : VarV (w.alloc o) N k n s := h.below ((Below.refl _ _).alloc (Nat.le_refl _) _)
set_option maxHeartbeats 4000000 in
set_option maxRecDepth 100000 in
theorem l01Any_any (B : Nat) (v : Value) (l : Nat) (w : World) (h : Cur w B v l) :
    Calls Try.prog 19 #[.pointer (some ⟨B, 0, none⟩)] w fun e w' => ValD (-1) 4 9 e ∧ Drew B v l w w' := by
  have hB := h.lt
  go_enter Try.func19, Try.ntmps19
  go_wp2_with fail
  refine (l01Value_any B v l _ (h.start.alloc _).cur).mono ?_
  rintro e w1 ⟨⟨k, n, s, rfl, k0, k1, n0, n1, hs⟩, hd1⟩
  have hV1 := (VarV.new w 0 0 ⟨#[]⟩ _).drew hd1 (by omega)
  have hD1 := ((h.start).alloc _).trans hd1
  have hlt1 := hV1.lt
  go_wp2_with fail
  have hVx1 := VarV.new w1 k n s 25
  have hVr1 := hV1.alloc (.cells #[.int .i64 k, .int .i64 n, .string s] 25)
  have hDx1 := hD1.alloc (.cells #[.int .i64 k, .int .i64 n, .string s] 25)
  obtain ⟨N1, hN1⟩ : ∃ N1, N1 = w1.heap.size := ⟨_, rfl⟩
  rw [← hN1] at hVx1 hlt1 ⊢
  refine (l01Once_any 12 B v l _ hDx1.cur (by omega) (by omega)).mono ?_
  rintro e w2 ⟨⟨b, rfl⟩, hd2⟩
  have hVx := hVx1.drew hd2 (by omega)
  have hVr := hVr1.drew hd2 (by omega)
  have hDx := hDx1.trans hd2
  have hN2 : N1 < w2.heap.size := hVx.lt
  clear hVx1 hVr1 hDx1 hd2 hd1 hV1 hD1 h hN1
  cases b
  · go_wp2_with fail
    refine (l01Once_any 20 B v l _ hDx.cur (by omega) (by omega)).mono ?_
    rintro e w5 ⟨⟨b, rfl⟩, hd5⟩
    have hD5 := hDx.trans hd5
    obtain ⟨p1, p2, p3, p4, p5⟩ := hVr.drew hd5 (by omega)
    obtain ⟨q1, q2, q3, q4, q5⟩ := hVx.drew hd5 (by omega)
    have hNN : N1 ≠ w.heap.size := by omega
    cases b
    · go_wp2_with fail
      refine bodyPost_ret (v := .agg #[.int .i64 k, .int .i64 n, .string s]) (by simp [results, Try.results19, go_sem, *]) rfl ⟨⟨_, _, _, rfl, by omega, by omega, by omega, by omega, by omega⟩, ?_⟩
      repeat first | exact hD5 | refine Drew.set ?_ (by first | exact Nat.le_refl _ | (show w.heap.size ≤ N1; omega)) _
    · go_wp2_with fail
      refine bodyPost_ret (v := .agg #[.int .i64 k, .int .i64 n, .string (s ++ ⟨#[120]⟩)]) (by simp [results, Try.results19, go_sem, *]) rfl ⟨⟨_, _, _, rfl, by omega, by omega, by omega, by omega, by rw [ByteArray.size_append]; show s.size + 1 ≤ 9; omega⟩, ?_⟩
      repeat first | exact hD5 | refine Drew.set ?_ (by first | exact Nat.le_refl _ | (show w.heap.size ≤ N1; omega)) _
  · go_wp2_with fail
    refine (l01PickInt_any (fun x => -1 ≤ x ∧ x ≤ 4) w2.heap.size 4 4 B v l _ (hDx.alloc _).cur (by omega) (by omega) (by omega) (by omega) (by simp) ?_).mono ?_
    · intro j hj
      rw [cells_at]
      rcases j with _ | _ | _ | _ | j
      all_goals first | exact ⟨_, rfl, by decide, by decide⟩ | omega
    rintro e w3 ⟨⟨y, rfl, y0, y1⟩, hd3⟩
    have hVx3 := (hVx.alloc _).drew hd3 (by omega)
    have hVr3 := (hVr.alloc _).drew hd3 (by omega)
    have hDx3 := (hDx.alloc _).trans hd3
    clear hVx hVr hDx hd3
    have hVx3' := hVx3
    obtain ⟨q1, q2, q3, q4, q5⟩ := hVx3'
    go_wp2_with fail
    have hVx := hVx3.set0 y
    have hVr := hVr3.other (p := ⟨N1, 0, none⟩) (by show w.heap.size ≠ N1; omega) (.int .i64 y)
    have hDx := hDx3.set (p := ⟨N1, 0, none⟩) (by show w.heap.size ≤ N1; omega) (.int .i64 y)
    clear q1 q2 q3 q4 q5 hVx3 hVr3 hDx3
    refine (l01Once_any 20 B v l _ hDx.cur (by omega) (by omega)).mono ?_
    rintro e w5 ⟨⟨b, rfl⟩, hd5⟩
    have hD5 := hDx.trans hd5
    obtain ⟨p1, p2, p3, p4, p5⟩ := hVr.drew hd5 (by omega)
    obtain ⟨q1, q2, q3, q4, q5⟩ := hVx.drew hd5 (by omega)
    have hNN : N1 ≠ w.heap.size := by omega
    cases b
    · go_wp2_with fail
      refine bodyPost_ret (v := .agg #[.int .i64 y, .int .i64 n, .string s]) (by simp [results, Try.results19, go_sem, *]) rfl ⟨⟨_, _, _, rfl, by omega, by omega, by omega, by omega, by omega⟩, ?_⟩
      repeat first | exact hD5 | refine Drew.set ?_ (by first | exact Nat.le_refl _ | (show w.heap.size ≤ N1; omega)) _
    · go_wp2_with fail
      refine bodyPost_ret (v := .agg #[.int .i64 y, .int .i64 n, .string (s ++ ⟨#[120]⟩)]) (by simp [results, Try.results19, go_sem, *]) rfl ⟨⟨_, _, _, rfl, by omega, by omega, by omega, by omega, by rw [ByteArray.size_append]; show s.size + 1 ≤ 9; omega⟩, ?_⟩
      repeat first | exact hD5 | refine Drew.set ?_ (by first | exact Nat.le_refl _ | (show w.heap.size ≤ N1; omega)) _
end Go.Proofs.Ytlakhcmbalcclaa
