/- Own text. What DrawNot and DrawReckon draw. -/
import Derived.Test.YtlakhcmbalcclaaDrD
import Derived.Test.YtlakhcmbalcclaaDrN
import Derived.Handy
namespace Go.Proofs.Ytlakhcmbalcclaa
open Go.RowKit Go.Deep
set_option linter.unusedVariables false
theorem BytesB.up {w w' : World} {M M' : Nat} {v : Value} {l : Nat} (h : BytesB w M v l) (hb : Below M w w') (hM : M ≤ M') : BytesB w' M' v l := by
  obtain ⟨a, c, hv, hl, hm, hx⟩ := h
  refine ⟨a, c, hv, hl, hm, fun j hj => ?_⟩
  obtain ⟨b, o, ha, hlt, x, x0, x1, he⟩ := hx j hj
  exact ⟨b, o, ha, by omega, x, x0, x1, (cell_blk (hb.block b hlt)).trans he⟩
theorem Drew.new {w w0 w1 w2 : World} {v : Value} {l B : Nat} (h0 : Below w.heap.size w w0) (h1 : Below w0.heap.size w0 w1) (hB : B = w0.heap.size) (hs : B < w1.heap.size) (h2 : Drew B v l w1 w2) : Below w.heap.size w w2 := by
  subst hB
  have := h0.size
  exact h0.trans ((h1.mono this).trans (h2.chg.below (fun b hb => by rcases List.mem_singleton.1 hb with rfl; exact this) (by omega)))
theorem l01New_at (B : Nat) (v : Value) (l : Nat) (w : World) (hB : B = w.heap.size) (h : BytesB w B v l) :
    Calls Try.prog 17 #[v] w fun e w' => e = .returned (.pointer (some ⟨B, 0, none⟩)) ∧ Cur w' B v l ∧ Below w.heap.size w w' := by subst hB; exact l01New_any v l w h
set_option maxHeartbeats 1000000 in
set_option maxRecDepth 100000 in
theorem drawNot_any (v : Value) (l : Nat) (w : World) (h : BytesB w w.heap.size v l) :
    Calls Try.prog 7 #[v] w fun e w' => ValD (-1) 4 9 e ∧ Below w.heap.size w w' := by
  have hb0 := (Below.refl w.heap.size w).alloc (Nat.le_refl _) (.cells #[.int .i64 0, .int .i64 0, .string ⟨#[]⟩] 25)
  have hv0 := VarV.new w 0 0 ⟨#[]⟩ 25
  go_enter Try.func7, Try.ntmps7
  go_wp2_with fail
  refine (l01New_at (w.heap.size + 1) v l _ (by simp) (h.up hb0 (by omega))).mono ?_
  rintro e w1 ⟨rfl, hc1, hb1⟩
  have hv1 := hv0.below hb1
  have hB0 := fun w2 => Drew.new (w2 := w2) (v := v) (l := l) hb0 hb1 (by simp) hc1.lt
  clear hb1 hv0 hb0 h
  go_wp2_with fail
  refine (l01Any_any _ v l w1 hc1).mono ?_
  rintro e w2 ⟨⟨k, n, s, rfl, k0, k1, n0, n1, hs⟩, hd2⟩
  obtain ⟨g1, g2, g3, g4, g5⟩ := hv1.drew hd2 (by omega)
  have hB := hB0 w2 hd2
  clear hB0 hd2 hv1 hc1
  go_wp2_with fail
  refine bodyPost_ret (v := .agg #[.int .i64 k, .int .i64 n, .string s]) (by simp [results, Try.results7, go_sem, *]) rfl ⟨⟨_, _, _, rfl, k0, k1, n0, n1, hs⟩, ?_⟩
  exact ((hB.setCell (Nat.le_refl _) _).setCell (Nat.le_refl _) _).setCell (Nat.le_refl _) _
end Go.Proofs.Ytlakhcmbalcclaa
