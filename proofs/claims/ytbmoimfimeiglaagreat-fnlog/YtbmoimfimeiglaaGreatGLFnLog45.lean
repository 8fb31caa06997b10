/- Own texts, joined: contracts that the law's proof goes by. -/
import Derived.Test.YtbmoimfimeiglaaGreatGLFnLog5
import Derived.Handy
namespace Go.Proofs.YtbmoimfimeiglaaGreat
open Go.RowKit Go.Deep
set_option linter.unusedVariables false
theorem VarV.set0 {w : World} {N : Nat} {k n : Int} {s : ByteArray} (h : VarV w N k n s) (k' : Int) : VarV (w.setCell ⟨N, 0, none⟩ (.int .i64 k')) N k' n s :=
  ⟨by simpa using h.lt, fun o => by rw [World.frozen?_setCell]; exact h.fr o, World.cell?_setCell_same _ _ _ h.c0, (World.cell?_setCell_other _ _ _ _ (by simp)).trans h.c1, (World.cell?_setCell_other _ _ _ _ (by simp)).trans h.c2⟩
theorem VarV.put {w : World} {N : Nat} {k n : Int} {s : ByteArray} (h : VarV w N k n s) (k' n' : Int) (s' : ByteArray) : VarV (((w.setCell ⟨N, 0, none⟩ (.int .i64 k')).setCell ⟨N, 1, none⟩ (.int .i64 n')).setCell ⟨N, 2, none⟩ (.string s')) N k' n' s' := by
  refine ⟨by simpa using h.lt, fun o => by simp only [World.frozen?_setCell]; exact h.fr o, ?_, ?_, ?_⟩
  · exact (World.cell?_setCell_other _ _ _ _ (by simp)).trans ((World.cell?_setCell_other _ _ _ _ (by simp)).trans (World.cell?_setCell_same _ _ _ h.c0))
  · exact (World.cell?_setCell_other _ _ _ _ (by simp)).trans (World.cell?_setCell_same _ _ _ ((World.cell?_setCell_other _ _ _ _ (by simp)).trans h.c1))
  · exact World.cell?_setCell_same _ _ _ ((World.cell?_setCell_other _ _ _ _ (by simp)).trans ((World.cell?_setCell_other _ _ _ _ (by simp)).trans h.c2))
theorem VarV.alloc {w : World} {N : Nat} {k n : Int} {s : ByteArray} (h : VarV w N k n s) (o : Obj) : VarV (w.alloc o) N k n s := h.below ((Below.refl _ _).alloc (Nat.le_refl _) _)
end Go.Proofs.YtbmoimfimeiglaaGreat
namespace Go.Proofs.YtbmoimfimeiglaaGreat
open Go.RowKit Go.Deep
set_option linter.unusedVariables false
theorem Cur.new {w : World} {v : Value} {l : Nat} (h : BytesB w w.heap.size v l) (g : Int) (t : TypeId) : Cur (w.alloc (.cells #[v, .int .i64 0, .int .i64 g] t)) w.heap.size v l := by
  refine ⟨by simp, fun o => by simp, by simp, ⟨0, by simp, by omega, by omega⟩, ⟨g, by simp⟩, ?_⟩
  obtain ⟨a, c, hv, hl, hm, hb⟩ := h
  refine ⟨a, c, hv, hl, hm, fun j hj => ?_⟩
  obtain ⟨b, o, ha, hlt, x, x0, x1, hx⟩ := hb j hj
  exact ⟨b, o, ha, hlt, x, x0, x1, (cell_blk (Below.heap_alloc w _ _ hlt)).trans hx⟩
set_option maxHeartbeats 4000000 in
set_option maxRecDepth 100000 in
theorem l01New_any (v : Value) (l : Nat) (w : World) (h : BytesB w w.heap.size v l) :
    Calls Tryz.prog 22 #[v] w fun e w' => e = .returned (.pointer (some ⟨w.heap.size, 0, none⟩)) ∧ Cur w' w.heap.size v l ∧ Below w.heap.size w w' := by
  have h' := h
  obtain ⟨a, c, rfl, hl, hm, hb⟩ := h'
  go_enter Tryz.func22, Tryz.ntmps22
  go_wp2_with fail
  go_loopw [3, 4] (fun o i wr => ∃ (g : Int) (k : Nat), o = .int .i64 g ∧ i = .int .i64 k ∧ k ≤ l ∧ wr = w) (fun _ i _ => l - (intOf i).toNat)
  case atStart => exact ⟨_, 0, rfl, rfl, Nat.zero_le _, rfl⟩
  case round =>
    obtain ⟨g, k, rfl, rfl, hk, rfl⟩ := hrel
    by_cases hlt : k < l
    · obtain ⟨b, o, rfl, hbl, y, y0, y1, hy⟩ := hb k hlt
      by_cases h4 : k < 4000
      · clear hb
        go_wp2_with fail
        exact ⟨⟨_, k + 1, rfl, by simp, by omega, trivial⟩, by simp [intOf]; omega⟩
      · clear hb
        go_wp2_with fail
        go_returns
        exact ⟨rfl, Cur.new h _ _, by go_grown⟩
    · obtain rfl : k = l := by omega
      clear hb
      go_wp2_with fail
      go_returns
      exact ⟨rfl, Cur.new h _ _, by go_grown⟩
end Go.Proofs.YtbmoimfimeiglaaGreat
namespace Go.Proofs.YtbmoimfimeiglaaGreat
open Go.RowKit Go.Deep
set_option linter.unusedVariables false
theorem BytesB.up {w w' : World} {M M' : Nat} {v : Value} {l : Nat} (h : BytesB w M v l) (hb : Below M w w') (hM : M ≤ M') : BytesB w' M' v l := by
  obtain ⟨a, c, hv, hl, hm, hx⟩ := h
  refine ⟨a, c, hv, hl, hm, fun j hj => ?_⟩
  obtain ⟨b, o, ha, hlt, x, x0, x1, he⟩ := hx j hj
  exact ⟨b, o, ha, by omega, x, x0, x1, (cell_blk (hb.block b hlt)).trans he⟩
theorem Drew.new {w w0 w1 w2 : World} {v : Value} {l B : Nat} (h0 : Below w.heap.size w w0) (h1 : Below w0.heap.size w0 w1) (hB : B = w0.heap.size) (hs : B < w1.heap.size) (h2 : Drew B v l w1 w2) : Below w.heap.size w w2 := by
  subst hB
  have := h0.size
  exact h0.trans ((h1.mono this).trans (h2.chg.below (fun b hb => by rcases List.mem_singleton.1 hb with rfl; exact this) (by omega)))
theorem l01New_at (B : Nat) (v : Value) (l : Nat) (w : World) (hB : B = w.heap.size) (h : BytesB w B v l) :
    Calls Tryz.prog 22 #[v] w fun e w' => e = .returned (.pointer (some ⟨B, 0, none⟩)) ∧ Cur w' B v l ∧ Below w.heap.size w w' := by subst hB; exact l01New_any v l w h
end Go.Proofs.YtbmoimfimeiglaaGreat
