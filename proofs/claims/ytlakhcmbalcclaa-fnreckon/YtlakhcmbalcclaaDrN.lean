/- Own text. A new cursor over bytes. -/
import Derived.Test.YtlakhcmbalcclaaDrA
import Derived.Handy
namespace Go.Proofs.Ytlakhcmbalcclaa
open Go.RowKit Go.Deep
set_option linter.unusedVariables false
theorem Cur.new {w : World} {v : Value} {l : Nat} (h : BytesB w w.heap.size v l) (g : Int) (t : TypeId) : Cur (w.alloc (.cells #[v, .int .i64 0, .int .i64 g] t)) w.heap.size v l := by
  refine ⟨by simp, fun o => by simp, by simp, ⟨0, by simp, by omega, by omega⟩, ⟨g, by simp⟩, ?_⟩
  obtain ⟨a, c, hv, hl, hm, hb⟩ := h
  refine ⟨a, c, hv, hl, hm, fun j hj => ?_⟩
  obtain ⟨b, o, ha, hlt, x, x0, x1, hx⟩ := hb j hj
  exact ⟨b, o, ha, hlt, x, x0, x1, (cell_blk (Below.heap_alloc w _ _ hlt)).trans hx⟩
set_option maxHeartbeats 4000000 in
set_option maxRecDepth 100000 in
theorem l01New_any (v : Value) (l : Nat) (w : World) (h : BytesB w w.heap.size v l) :
    Calls Try.prog 17 #[v] w fun e w' => e = .returned (.pointer (some ⟨w.heap.size, 0, none⟩)) ∧ Cur w' w.heap.size v l ∧ Below w.heap.size w w' := by
  have h' := h
  obtain ⟨a, c, rfl, hl, hm, hb⟩ := h'
  go_enter Try.func17, Try.ntmps17
  go_wp2_with fail
  go_loopw [3, 4] (fun o i wr => ∃ (g : Int) (k : Nat), o = .int .i64 g ∧ i = .int .i64 k ∧ k ≤ l ∧ wr = w) (fun _ i _ => l - (intOf i).toNat)
  case atStart => exact ⟨_, 0, rfl, rfl, Nat.zero_le _, rfl⟩
  case round =>
    obtain ⟨g, k, rfl, rfl, hk, rfl⟩ := hrel
    by_cases hlt : k < l
    · obtain ⟨b, o, rfl, hbl, y, y0, y1, hy⟩ := hb k hlt
      by_cases h4 : k < 4000
      · clear hb
        go_wp2_with fail
        exact ⟨⟨_, k + 1, rfl, by simp, by omega, trivial⟩, by simp [intOf]; omega⟩
      · clear hb
        go_wp2_with fail
        go_returns
        exact ⟨rfl, Cur.new h _ _, by go_grown⟩
    · obtain rfl : k = l := by omega
      clear hb
      go_wp2_with fail
      go_returns
      exact ⟨rfl, Cur.new h _ _, by go_grown⟩
end Go.Proofs.Ytlakhcmbalcclaa
