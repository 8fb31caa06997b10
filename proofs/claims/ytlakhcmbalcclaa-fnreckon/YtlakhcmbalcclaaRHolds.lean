/- Own text. The contract of l01Holds: it answers whether a text holds another one, in the shelf's own word. -/
import Derived.Test.YtlakhcmbalcclaaFirstA
import Derived.Test.YtlakhcmbalcclaaShelf
import Derived.Handy
import Derived.Lib.IndexLaws
import Derived.Lib.IndexMore
namespace Go.Proofs.Ytlakhcmbalcclaa
open Go.RowKit
set_option linter.unusedVariables false
theorem occ_iff (s t : ByteArray) (k : Nat) (h : k + t.size ≤ s.size) : ((s.extract k (k + t.size)).toList == t.toList) = Lib.occAt s.data.toList t.data.toList k := by
  rw [ByteArray.toList_eq, ByteArray.toList_eq, extract_list, Nat.add_sub_cancel_left, Lib.occAt, Bool.eq_iff_iff, beq_iff_eq, List.isPrefixOf_iff_prefix, List.prefix_iff_eq_take]
  have hl : t.data.toList.length = t.size := rfl
  rw [hl]
  exact eq_comm
theorem contains_hit (s t : ByteArray) (k : Nat) (hk : k ≤ s.size) (hn : Lib.NoOcc s.data.toList t.data.toList k) (ho : Lib.occAt s.data.toList t.data.toList k = true) : Lib.contains s.data.toList t.data.toList = true := by
  rw [Lib.contains, Lib.index_hit hn (by simpa using hk) ho]
  simp
theorem contains_past (s t : ByteArray) (k : Nat) (hn : Lib.NoOcc s.data.toList t.data.toList k) (hk : s.size < k + t.size) : Lib.contains s.data.toList t.data.toList = false := by
  by_cases ht : t.data.toList = []
  · have hz : t.size = 0 := by show t.data.toList.length = 0; rw [ht]; rfl
    have := hn 0 (by omega)
    rw [ht] at this
    simp [Lib.occAt] at this
  · have hl : t.data.toList.length = t.size := rfl
    have hl2 : s.data.toList.length = s.size := rfl
    rw [Lib.contains, Lib.index_past ht hn (by omega)]
    rfl
theorem NoOcc_succ (s t : List UInt8) (k : Nat) (hn : Lib.NoOcc s t k) (ho : Lib.occAt s t k = false) : Lib.NoOcc s t (k + 1) := by
  intro j hj
  by_cases e : j = k
  · subst e; exact ho
  · exact hn j (by omega)
set_option maxHeartbeats 1000000 in
set_option maxRecDepth 100000 in
theorem l01Holds_any (s t : ByteArray) (w : World) (hs : s.size ≤ 1048576) (ht : t.size ≤ 1048576) :
    Calls Try.prog 27 #[.string s, .string t] w fun e w' => e = .returned (.bool (Lib.contains s.data.toList t.data.toList)) ∧ w' = w := by
  go_enter Try.func27, Try.ntmps27
  go_wp2
  go_loop [5] (fun i => ∃ k : Nat, k ≤ s.size + 1 ∧ i = .int .i64 k ∧ Lib.NoOcc s.data.toList t.data.toList k) (fun i => s.size + 1 - (intOf i).toNat)
  case atStart => exact ⟨0, by omega, rfl, Lib.NoOcc.zero _ _⟩
  case round =>
    obtain ⟨k, hk, rfl, hn0⟩ := hrel
    have hn : Hid (Lib.NoOcc s.data.toList t.data.toList k) := hn0
    clear hn0
    by_cases hlt : k + t.size ≤ s.size
    · have hle : (k : Int) + t.size ≤ s.size := by omega
      have hen : ((k : Int) + (t.size : Int)).toNat = k + t.size := by omega
      have hoc : Hid (((s.extract k (k + t.size)).toList == t.toList) = Lib.occAt s.data.toList t.data.toList k) := occ_iff s t k hlt
      by_cases ho : ((s.extract k (k + t.size)).toList == t.toList) = true
      · have hfin : Hid (Lib.contains s.data.toList t.data.toList = true) := contains_hit s t k (by omega) hn.out (by rw [← hoc.out]; exact ho)
        go_wp2
        go_returns
        exact ⟨ret_bool hfin.out.symm, rfl⟩
      · have ho' : ((s.extract k (k + t.size)).toList == t.toList) = false := by simpa using ho
        have hno : Hid (Lib.NoOcc s.data.toList t.data.toList (k + 1)) := NoOcc_succ _ _ k hn.out (by rw [← hoc.out]; exact ho')
        clear ho
        go_wp2
        exact ⟨⟨k + 1, by omega, by go_num, hno.out⟩, by simp [intOf]; omega⟩
    · have hgt : (s.size : Int) < (k : Int) + t.size := by omega
      have hfin : Hid (Lib.contains s.data.toList t.data.toList = false) := contains_past s t k hn.out (by omega)
      go_wp2
      go_returns
      exact ⟨ret_bool hfin.out.symm, rfl⟩
end Go.Proofs.Ytlakhcmbalcclaa
