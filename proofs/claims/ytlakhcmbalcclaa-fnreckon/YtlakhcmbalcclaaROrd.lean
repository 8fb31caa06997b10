/- Own text. The contracts of boolValue, l01Bool, reckonOrder, reckonHolds, reckonChain and l01Logic. -/
import Derived.Test.YtlakhcmbalcclaaRInts
import Derived.Test.YtlakhcmbalcclaaCmp
import Derived.Test.YtlakhcmbalcclaaShelf
namespace Go.Proofs.Ytlakhcmbalcclaa
open Go.RowKit
set_option linter.unusedVariables false
attribute [local go_sem] ta_nullForm_nullForm ta_nullForm_intForm ta_nullForm_boolForm ta_nullForm_textForm ta_intForm_nullForm ta_intForm_intForm ta_intForm_boolForm ta_intForm_textForm ta_boolForm_nullForm ta_boolForm_intForm ta_boolForm_boolForm ta_boolForm_textForm ta_textForm_nullForm ta_textForm_intForm ta_textForm_boolForm ta_textForm_textForm ta_nil_nullForm ta_nil_intForm ta_nil_boolForm ta_nil_textForm
set_option maxHeartbeats 400000 in
theorem boolValue_true (w : World) : Calls Try.prog 30 #[.bool true] w fun e w' => e = .returned (.agg #[.int .i64 2, .int .i64 1, .string ⟨#[]⟩]) ∧ Below w.heap.size w w' := by
  go_enter Try.func30, Try.ntmps30
  go_wp2
  go_returns
  exact ⟨rfl, by go_grown⟩
set_option maxHeartbeats 400000 in
theorem boolValue_false (w : World) : Calls Try.prog 30 #[.bool false] w fun e w' => e = .returned (.agg #[.int .i64 2, .int .i64 0, .string ⟨#[]⟩]) ∧ Below w.heap.size w w' := by
  go_enter Try.func30, Try.ntmps30
  go_wp2
  go_returns
  exact ⟨rfl, by go_grown⟩
theorem boolValue_any (b : Bool) (w : World) : Calls Try.prog 30 #[.bool b] w fun e w' => e = .returned (.agg #[.int .i64 2, .int .i64 (bn b), .string ⟨#[]⟩]) ∧ Below w.heap.size w w' := by
  cases b
  · exact boolValue_false w
  · exact boolValue_true w
set_option maxHeartbeats 400000 in
theorem l01Bool_true (w : World) : Calls Try.prog 25 #[.bool true] w fun e w' => e = .returned (.agg #[.int .i64 2, .int .i64 1, .string ⟨#[]⟩]) ∧ Below w.heap.size w w' := by
  go_enter Try.func25, Try.ntmps25
  go_wp2
  go_returns
  exact ⟨rfl, by go_grown⟩
set_option maxHeartbeats 400000 in
theorem l01Bool_false (w : World) : Calls Try.prog 25 #[.bool false] w fun e w' => e = .returned (.agg #[.int .i64 2, .int .i64 0, .string ⟨#[]⟩]) ∧ Below w.heap.size w w' := by
  go_enter Try.func25, Try.ntmps25
  go_wp2
  go_returns
  exact ⟨rfl, by go_grown⟩
theorem l01Bool_any (b : Bool) (w : World) : Calls Try.prog 25 #[.bool b] w fun e w' => e = .returned (.agg #[.int .i64 2, .int .i64 (bn b), .string ⟨#[]⟩]) ∧ Below w.heap.size w w' := by
  cases b
  · exact l01Bool_false w
  · exact l01Bool_true w
set_option maxHeartbeats 2000000 in
set_option maxRecDepth 100000 in
theorem order_no (op : ByteArray) (k a k' b : Int) (s s' : ByteArray) (w : World) (h : ¬ (k = k' ∧ ¬ k = 0)) :
    Calls Try.prog 21 #[.string op, (.agg #[.int .i64 k, .int .i64 a, .string s]), (.agg #[.int .i64 k', .int .i64 b, .string s'])] w fun e w' => e = .returned (.agg #[.int .i64 0, .int .i64 0, .string ⟨#[]⟩]) ∧ Below w.heap.size w w' := by
  by_cases hk : k = k'
  · subst hk
    have h0 : k = 0 := by
      rcases Int.lt_trichotomy k 0 with h' | h' | h'
      · exact absurd ⟨rfl, by omega⟩ h
      · exact h'
      · exact absurd ⟨rfl, by omega⟩ h
    subst h0
    clear h
    go_enter Try.func21, Try.ntmps21
    go_wp2
    go_returns
    exact ⟨rfl, by go_grown⟩
  · have hn : (k != k') = true := by simp [hk]
    clear h hk
    go_enter Try.func21, Try.ntmps21
    go_wp2
    go_returns
    exact ⟨rfl, by go_grown⟩
set_option maxHeartbeats 2000000 in
set_option maxRecDepth 100000 in
theorem order_eq (op : ByteArray) (k a b : Int) (s s' : ByteArray) (w : World) (hop : op.toList = [61]) (h0 : (k == 0) = false) :
    Calls Try.prog 21 #[.string op, (.agg #[.int .i64 k, .int .i64 a, .string s]), (.agg #[.int .i64 k, .int .i64 b, .string s'])] w fun e w' => e = .returned (.agg #[.int .i64 2, .int .i64 (bn (cmpV k a s k b s' == 0)), .string ⟨#[]⟩]) ∧ Below w.heap.size w w' := by
  have hn : (k != k) = false := by simp
  go_enter Try.func21, Try.ntmps21
  go_wp2_with (first | (go_at_call 41; refine (implCmp_any _ _ _ _ _ _ _).mono ?_; rintro e w1 ⟨rfl, hb1⟩; have hf1 := (bcell hb1).2; have hz1 := hb1.size; (try simp at hz1); have hy1 : w.heap.size + 1 + 1 < w1.heap.size := (by omega); have hy1_0 : w.heap.size < w1.heap.size := (by omega); have hy1_1 : w.heap.size + 1 < w1.heap.size := (by omega); have q1_2_0 : w1.cell? ⟨w.heap.size + 1 + 1, 0, none⟩ = some (.int .i64 0) := cell_later hb1 (by go_simp); have q1_2_1 : w1.cell? ⟨w.heap.size + 1 + 1, 1, none⟩ = some (.int .i64 0) := cell_later hb1 (by go_simp); have q1_2_2 : w1.cell? ⟨w.heap.size + 1 + 1, 2, none⟩ = some (.string ⟨#[]⟩) := cell_later hb1 (by go_simp)) | (go_at_call 30; refine (boolValue_any _ _).mono ?_; rintro e w2 ⟨rfl, hb2⟩; have hf2 := (bcell hb2).2; have hz2 := hb2.size; (try simp at hz2); have hy2 : w.heap.size + 1 + 1 < w2.heap.size := (by omega); have hy2_0 : w.heap.size < w2.heap.size := (by omega); have hy2_1 : w.heap.size + 1 < w2.heap.size := (by omega); have q2_2_0 : w2.cell? ⟨w.heap.size + 1 + 1, 0, none⟩ = some (.int .i64 0) := cell_later hb2 (by go_simp); have q2_2_1 : w2.cell? ⟨w.heap.size + 1 + 1, 1, none⟩ = some (.int .i64 0) := cell_later hb2 (by go_simp); have q2_2_2 : w2.cell? ⟨w.heap.size + 1 + 1, 2, none⟩ = some (.string ⟨#[]⟩) := cell_later hb2 (by go_simp)))
  refine bodyPost_ret (v := (.agg #[.int .i64 2, .int .i64 (bn (cmpV k a s k b s' == 0)), .string ⟨#[]⟩])) (by simp [results, Try.results21, go_sem, *]) rfl ⟨?_, ?_⟩
  · rfl
  · repeat (first | exact Below.refl _ _ | refine Below.drew ?_ | refine Below.alloc ?_ (by first | (simp; done) | (simp; omega) | omega) _ | refine Below.setCell ?_ (by first | (simp; done) | (simp; omega) | omega) _ | refine bstep (by assumption) (by first | (simp; done) | (simp; omega) | omega) ?_)
set_option maxHeartbeats 2000000 in
set_option maxRecDepth 100000 in
theorem order_lt (op : ByteArray) (k a b : Int) (s s' : ByteArray) (w : World) (hop : op.toList = [60]) (h0 : (k == 0) = false) :
    Calls Try.prog 21 #[.string op, (.agg #[.int .i64 k, .int .i64 a, .string s]), (.agg #[.int .i64 k, .int .i64 b, .string s'])] w fun e w' => e = .returned (.agg #[.int .i64 2, .int .i64 (bn (decide (cmpV k a s k b s' < 0))), .string ⟨#[]⟩]) ∧ Below w.heap.size w w' := by
  have hn : (k != k) = false := by simp
  go_enter Try.func21, Try.ntmps21
  go_wp2_with (first | (go_at_call 41; refine (implCmp_any _ _ _ _ _ _ _).mono ?_; rintro e w1 ⟨rfl, hb1⟩; have hf1 := (bcell hb1).2; have hz1 := hb1.size; (try simp at hz1); have hy1 : w.heap.size + 1 + 1 < w1.heap.size := (by omega); have hy1_0 : w.heap.size < w1.heap.size := (by omega); have hy1_1 : w.heap.size + 1 < w1.heap.size := (by omega); have q1_2_0 : w1.cell? ⟨w.heap.size + 1 + 1, 0, none⟩ = some (.int .i64 0) := cell_later hb1 (by go_simp); have q1_2_1 : w1.cell? ⟨w.heap.size + 1 + 1, 1, none⟩ = some (.int .i64 0) := cell_later hb1 (by go_simp); have q1_2_2 : w1.cell? ⟨w.heap.size + 1 + 1, 2, none⟩ = some (.string ⟨#[]⟩) := cell_later hb1 (by go_simp)) | (go_at_call 30; refine (boolValue_any _ _).mono ?_; rintro e w2 ⟨rfl, hb2⟩; have hf2 := (bcell hb2).2; have hz2 := hb2.size; (try simp at hz2); have hy2 : w.heap.size + 1 + 1 < w2.heap.size := (by omega); have hy2_0 : w.heap.size < w2.heap.size := (by omega); have hy2_1 : w.heap.size + 1 < w2.heap.size := (by omega); have q2_2_0 : w2.cell? ⟨w.heap.size + 1 + 1, 0, none⟩ = some (.int .i64 0) := cell_later hb2 (by go_simp); have q2_2_1 : w2.cell? ⟨w.heap.size + 1 + 1, 1, none⟩ = some (.int .i64 0) := cell_later hb2 (by go_simp); have q2_2_2 : w2.cell? ⟨w.heap.size + 1 + 1, 2, none⟩ = some (.string ⟨#[]⟩) := cell_later hb2 (by go_simp)))
  refine bodyPost_ret (v := (.agg #[.int .i64 2, .int .i64 (bn (decide (cmpV k a s k b s' < 0))), .string ⟨#[]⟩])) (by simp [results, Try.results21, go_sem, *]) rfl ⟨?_, ?_⟩
  · rfl
  · repeat (first | exact Below.refl _ _ | refine Below.drew ?_ | refine Below.alloc ?_ (by first | (simp; done) | (simp; omega) | omega) _ | refine Below.setCell ?_ (by first | (simp; done) | (simp; omega) | omega) _ | refine bstep (by assumption) (by first | (simp; done) | (simp; omega) | omega) ?_)
set_option maxHeartbeats 2000000 in
set_option maxRecDepth 100000 in
theorem holds_33 (a b : Int) (s s' : ByteArray) (m : Int) (w : World) (hs : s.size < 4294967281) (hm : w.cell? ⟨0, 0, none⟩ = some (.int .i64 m)) :
    Calls Try.prog 22 #[(.agg #[.int .i64 3, .int .i64 a, .string s]), (.agg #[.int .i64 3, .int .i64 b, .string s'])] w fun e w' => e = .returned (.agg #[.int .i64 2, .int .i64 (bn (Lib.contains s.data.toList s'.data.toList)), .string ⟨#[]⟩]) ∧ Below w.heap.size w w' := by
  have h0 : 0 < w.heap.size := World.block_lt_of_cell? w ⟨0, 0, none⟩ hm
  generalize hcc : Lib.contains s.data.toList s'.data.toList = cc
  have Hcc : Hid (Lib.contains s.data.toList s'.data.toList = cc) := hcc
  clear hcc
  go_enter Try.func22, Try.ntmps22
  go_wp2_with (first | (go_at_call 29; refine (formOf_3 _ _ _).mono ?_; rintro e w1 ⟨rfl, rfl⟩))
  refine Calls.mono (Try.strings_Contains _ _ m _ hs ?hmm) ?_
  case hmm => go_simp
  rintro e w1 ⟨rfl, rfl⟩
  rw [Hcc.out]
  go_wp2_with (first | (go_at_call 30; refine (boolValue_any _ _).mono ?_; rintro e w2 ⟨rfl, hb2⟩; have hf2 := (bcell hb2).2; have hz2 := hb2.size; (try simp at hz2); have hy2 : w.heap.size + 1 + 1 < w2.heap.size := (by omega); have hy2_0 : w.heap.size < w2.heap.size := (by omega); have hy2_1 : w.heap.size + 1 < w2.heap.size := (by omega); have q2_2_0 : w2.cell? ⟨w.heap.size + 1 + 1, 0, none⟩ = some (.int .i64 0) := cell_later hb2 (by go_simp); have q2_2_1 : w2.cell? ⟨w.heap.size + 1 + 1, 1, none⟩ = some (.int .i64 0) := cell_later hb2 (by go_simp); have q2_2_2 : w2.cell? ⟨w.heap.size + 1 + 1, 2, none⟩ = some (.string ⟨#[]⟩) := cell_later hb2 (by go_simp)))
  refine bodyPost_ret (v := (.agg #[.int .i64 2, .int .i64 (bn cc), .string ⟨#[]⟩])) (by simp [results, Try.results22, go_sem, *]) rfl ⟨?_, ?_⟩
  · rfl
  · repeat (first | exact Below.refl _ _ | refine Below.drew ?_ | refine Below.alloc ?_ (by first | (simp; done) | (simp; omega) | omega) _ | refine Below.setCell ?_ (by first | (simp; done) | (simp; omega) | omega) _ | refine bstep (by assumption) (by first | (simp; done) | (simp; omega) | omega) ?_)
set_option maxHeartbeats 2000000 in
set_option maxRecDepth 100000 in
theorem holds_3x (a k' b : Int) (s s' : ByteArray) (w : World) (hk' : ¬ k' = 3) :
    Calls Try.prog 22 #[(.agg #[.int .i64 3, .int .i64 a, .string s]), (.agg #[.int .i64 k', .int .i64 b, .string s'])] w fun e w' => e = .returned (.agg #[.int .i64 0, .int .i64 0, .string ⟨#[]⟩]) ∧ Below w.heap.size w w' := by
  go_enter Try.func22, Try.ntmps22
  go_wp2_with fail
  refine (formOf_3 _ _ _).mono ?_
  rintro e w1 ⟨rfl, rfl⟩
  go_wp2_with fail
  refine (formOf_not3 _ _ _ _ hk').mono ?_
  rintro e w1 ⟨fhk', rfl, htahk', rfl⟩
  go_wp2_with fail
  go_returns
  exact ⟨rfl, by go_grown⟩
set_option maxHeartbeats 2000000 in
set_option maxRecDepth 100000 in
theorem holds_x3 (k a b : Int) (s s' : ByteArray) (w : World) (hk : ¬ k = 3) :
    Calls Try.prog 22 #[(.agg #[.int .i64 k, .int .i64 a, .string s]), (.agg #[.int .i64 3, .int .i64 b, .string s'])] w fun e w' => e = .returned (.agg #[.int .i64 0, .int .i64 0, .string ⟨#[]⟩]) ∧ Below w.heap.size w w' := by
  go_enter Try.func22, Try.ntmps22
  go_wp2_with fail
  refine (formOf_not3 _ _ _ _ hk).mono ?_
  rintro e w1 ⟨fhk, rfl, htahk, rfl⟩
  go_wp2_with fail
  refine (formOf_3 _ _ _).mono ?_
  rintro e w1 ⟨rfl, rfl⟩
  go_wp2_with fail
  go_returns
  exact ⟨rfl, by go_grown⟩
set_option maxHeartbeats 2000000 in
set_option maxRecDepth 100000 in
theorem holds_xx (k a k' b : Int) (s s' : ByteArray) (w : World) (hk : ¬ k = 3) (hk' : ¬ k' = 3) :
    Calls Try.prog 22 #[(.agg #[.int .i64 k, .int .i64 a, .string s]), (.agg #[.int .i64 k', .int .i64 b, .string s'])] w fun e w' => e = .returned (.agg #[.int .i64 0, .int .i64 0, .string ⟨#[]⟩]) ∧ Below w.heap.size w w' := by
  go_enter Try.func22, Try.ntmps22
  go_wp2_with fail
  refine (formOf_not3 _ _ _ _ hk).mono ?_
  rintro e w1 ⟨fhk, rfl, htahk, rfl⟩
  go_wp2_with fail
  refine (formOf_not3 _ _ _ _ hk').mono ?_
  rintro e w1 ⟨fhk', rfl, htahk', rfl⟩
  go_wp2_with fail
  go_returns
  exact ⟨rfl, by go_grown⟩
theorem holds_no (k a k' b : Int) (s s' : ByteArray) (w : World) (h : ¬ (k = 3 ∧ k' = 3)) :
    Calls Try.prog 22 #[(.agg #[.int .i64 k, .int .i64 a, .string s]), (.agg #[.int .i64 k', .int .i64 b, .string s'])] w fun e w' => e = .returned (.agg #[.int .i64 0, .int .i64 0, .string ⟨#[]⟩]) ∧ Below w.heap.size w w' := by
  by_cases h1 : k = 3
  · subst h1; exact holds_3x a k' b s s' w (fun e => h ⟨rfl, e⟩)
  by_cases h2 : k' = 3
  · subst h2; exact holds_x3 k a b s s' w h1
  · exact holds_xx k a k' b s s' w h1 h2
end Go.Proofs.Ytlakhcmbalcclaa
