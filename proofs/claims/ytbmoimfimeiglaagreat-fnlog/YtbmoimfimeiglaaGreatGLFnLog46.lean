/- Own texts, joined: contracts that the law's proof goes by. -/
import Derived.Test.YtbmoimfimeiglaaGreatGLFnLog45
import Derived.Handy
import Derived.Test.YtbmoimfimeiglaaGreatGLFnLog5
namespace Go.Proofs.YtbmoimfimeiglaaGreat
open Go.RowKit Go.Deep
set_option linter.unusedVariables false
theorem VarV.set0 {w : World} {N : Nat} {k n : Int} {s : ByteArray} (h : VarV w N k n s) (k' : Int) : VarV (w.setCell ⟨N, 0, none⟩ (.int .i64 k')) N k' n s :=
  ⟨by simpa using h.lt, fun o => by rw [World.frozen?_setCell]; exact h.fr o, World.cell?_setCell_same _ _ _ h.c0, (World.cell?_setCell_other _ _ _ _ (by simp)).trans h.c1, (World.cell?_setCell_other _ _ _ _ (by simp)).trans h.c2⟩
theorem VarV.put {w : World} {N : Nat} {k n : Int} {s : ByteArray} (h : VarV w N k n s) (k' n' : Int) (s' : ByteArray) : VarV (((w.setCell ⟨N, 0, none⟩ (.int .i64 k')).setCell ⟨N, 1, none⟩ (.int .i64 n')).setCell ⟨N, 2, none⟩ (.string s')) N k' n' s' := by
  refine ⟨by simpa using h.lt, fun o => by simp only [World.frozen?_setCell]; exact h.fr o, ?_, ?_, ?_⟩
  · exact (World.cell?_setCell_other _ _ _ _ (by simp)).trans ((World.cell?_setCell_other _ _ _ _ (by simp)).trans (World.cell?_setCell_same _ _ _ h.c0))
  · exact (World.cell?_setCell_other _ _ _ _ (by simp)).trans (World.cell?_setCell_same _ _ _ ((World.cell?_setCell_other _ _ _ _ (by simp)).trans h.c1))
  · exact World.cell?_setCell_same _ _ _ ((World.cell?_setCell_other _ _ _ _ (by simp)).trans ((World.cell?_setCell_other _ _ _ _ (by simp)).trans h.c2))
theorem VarV.alloc {w : World} {N : Nat} {k n : Int} {s : ByteArray} (h : VarV w N k n s) (o : Obj) : VarV (w.alloc o) N k n s := h.below ((Below.refl _ _).alloc (Nat.le_refl _) _)
end Go.Proofs.YtbmoimfimeiglaaGreat
namespace Go.Proofs.YtbmoimfimeiglaaGreat
open Go.RowKit Go.Deep
set_option linter.unusedVariables false
theorem BytesB.up {w w' : World} {M M' : Nat} {v : Value} {l : Nat} (h : BytesB w M v l) (hb : Below M w w') (hM : M ≤ M') : BytesB w' M' v l := by
  obtain ⟨a, c, hv, hl, hm, hx⟩ := h
  refine ⟨a, c, hv, hl, hm, fun j hj => ?_⟩
  obtain ⟨b, o, ha, hlt, x, x0, x1, he⟩ := hx j hj
  exact ⟨b, o, ha, by omega, x, x0, x1, (cell_blk (hb.block b hlt)).trans he⟩
theorem Drew.new {w w0 w1 w2 : World} {v : Value} {l B : Nat} (h0 : Below w.heap.size w w0) (h1 : Below w0.heap.size w0 w1) (hB : B = w0.heap.size) (hs : B < w1.heap.size) (h2 : Drew B v l w1 w2) : Below w.heap.size w w2 := by
  subst hB
  have := h0.size
  exact h0.trans ((h1.mono this).trans (h2.chg.below (fun b hb => by rcases List.mem_singleton.1 hb with rfl; exact this) (by omega)))
theorem l01New_at (B : Nat) (v : Value) (l : Nat) (w : World) (hB : B = w.heap.size) (h : BytesB w B v l) :
    Calls Tryz.prog 22 #[v] w fun e w' => e = .returned (.pointer (some ⟨B, 0, none⟩)) ∧ Cur w' B v l ∧ Below w.heap.size w w' := by subst hB; exact l01New_any v l w h
end Go.Proofs.YtbmoimfimeiglaaGreat
namespace Go.Proofs.YtbmoimfimeiglaaGreat
open Go.RowKit Go.Deep
set_option linter.unusedVariables false
set_option maxHeartbeats 1000000 in
set_option maxRecDepth 100000 in
theorem l01Below_big (n : Int) (B : Nat) (v : Value) (l : Nat) (w : World) (h : Cur w B v l) (h1 : 256 < n) (h2 : n ≤ 1000000000) :
    Calls Tryz.prog 52 #[.pointer (some ⟨B, 0, none⟩), .int .i64 n] w fun e w' => (∃ x : Int, e = .returned (.int .i64 x) ∧ 0 ≤ x ∧ x < n) ∧ Drew B v l w w' := by
  go_enter Tryz.func52, Tryz.ntmps52
  go_wp2_with fail
  refine (l01Byte_any B v l w h).mono ?_
  rintro e w1 ⟨⟨x, rfl, x0, x1⟩, hd1⟩
  go_wp2_with fail
  refine (l01Byte_any B v l w1 hd1.cur).mono ?_
  rintro e w2 ⟨⟨y, rfl, y0, y1⟩, hd2⟩
  go_wp2_with fail
  refine (l01Byte_any B v l w2 hd2.cur).mono ?_
  rintro e w3 ⟨⟨z, rfl, z0, z1⟩, hd3⟩
  go_wp2_with fail
  refine (l01Byte_any B v l w3 hd3.cur).mono ?_
  rintro e w4 ⟨⟨u, rfl, u0, u1⟩, hd4⟩
  have a1 : wrap64 (x * 16777216) = x * 16777216 := by unfold wrap64; omega
  have a2 : wrap64 (y * 65536) = y * 65536 := by unfold wrap64; omega
  have a3 : wrap64 (z * 256) = z * 256 := by unfold wrap64; omega
  have a4 : wrap64 (x * 16777216 + y * 65536) = x * 16777216 + y * 65536 := by unfold wrap64; omega
  have a5 : wrap64 (x * 16777216 + y * 65536 + z * 256) = x * 16777216 + y * 65536 + z * 256 := by unfold wrap64; omega
  have a6 : wrap64 (x * 16777216 + y * 65536 + z * 256 + u) = x * 16777216 + y * 65536 + z * 256 + u := by unfold wrap64; omega
  go_wp2_with fail
  go_returns
  exact ⟨⟨_, rfl, Int.emod_nonneg _ (by omega), Int.emod_lt_of_pos _ (by omega)⟩, hd1.trans (hd2.trans (hd3.trans hd4))⟩
end Go.Proofs.YtbmoimfimeiglaaGreat
namespace Go.Proofs.YtbmoimfimeiglaaGreat
open Go.RowKit Go.Deep
set_option linter.unusedVariables false
theorem l01Below_all (n : Int) (B : Nat) (v : Value) (l : Nat) (w : World) (h : Cur w B v l) (h1 : 1 ≤ n) (h2 : n ≤ 1000000000) :
    Calls Tryz.prog 52 #[.pointer (some ⟨B, 0, none⟩), .int .i64 n] w fun e w' => (∃ x : Int, e = .returned (.int .i64 x) ∧ 0 ≤ x ∧ x < n) ∧ Drew B v l w w' := by
  by_cases hn : n ≤ 256
  · exact l01Below_any n B v l w h h1 hn
  · exact l01Below_big n B v l w h (by omega) h2
end Go.Proofs.YtbmoimfimeiglaaGreat
