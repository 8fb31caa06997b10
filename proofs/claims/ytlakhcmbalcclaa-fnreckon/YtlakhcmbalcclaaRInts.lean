/- Own text. The contract of the program's reckonInts at each sign. -/
import Derived.Test.YtlakhcmbalcclaaVForm
import Derived.Test.YtlakhcmbalcclaaArithS
namespace Go.Proofs.Ytlakhcmbalcclaa
open Go.RowKit
set_option linter.unusedVariables false
attribute [local go_sem] ta_nullForm_nullForm ta_nullForm_intForm ta_nullForm_boolForm ta_nullForm_textForm ta_intForm_nullForm ta_intForm_intForm ta_intForm_boolForm ta_intForm_textForm ta_boolForm_nullForm ta_boolForm_intForm ta_boolForm_boolForm ta_boolForm_textForm ta_textForm_nullForm ta_textForm_intForm ta_textForm_boolForm ta_textForm_textForm ta_nil_nullForm ta_nil_intForm ta_nil_boolForm ta_nil_textForm
theorem formOf_not1 (k n : Int) (s : ByteArray) (w : World) (h : ¬ k = 1) :
    Calls Try.prog 29 #[(.agg #[.int .i64 k, .int .i64 n, .string s])] w fun e w' => ∃ f, e = .returned f ∧ (∀ W : World, (Instr.typeAssert f 47 61 true).run Try.prog W = .ok (.tuple #[.agg #[.int .i64 0], .bool false]) W) ∧ w' = w.alloc (.cells #[.int .i64 k, .int .i64 n, .string s] 25) := by
  by_cases h0 : k = 0
  · subst h0
    refine (formOf_0 n s w).mono ?_
    rintro e w1 ⟨rfl, rfl⟩
    exact ⟨_, rfl, fun W => ta_nullForm_intForm W, rfl⟩
  by_cases h2 : k = 2
  · subst h2
    refine (formOf_2 n s w).mono ?_
    rintro e w1 ⟨rfl, rfl⟩
    exact ⟨_, rfl, fun W => ta_boolForm_intForm n W, rfl⟩
  by_cases h3 : k = 3
  · subst h3
    refine (formOf_3 n s w).mono ?_
    rintro e w1 ⟨rfl, rfl⟩
    exact ⟨_, rfl, fun W => ta_textForm_intForm s W, rfl⟩
  refine (formOf_x k n s w (by simp [h0]) (by simp [h]) (by simp [h2]) (by simp [h3])).mono ?_
  rintro e w1 ⟨rfl, rfl⟩
  exact ⟨_, rfl, fun W => ta_nil_intForm W, rfl⟩
theorem formOf_not3 (k n : Int) (s : ByteArray) (w : World) (h : ¬ k = 3) :
    Calls Try.prog 29 #[(.agg #[.int .i64 k, .int .i64 n, .string s])] w fun e w' => ∃ f, e = .returned f ∧ (∀ W : World, (Instr.typeAssert f 47 66 true).run Try.prog W = .ok (.tuple #[.agg #[.string ⟨#[]⟩], .bool false]) W) ∧ w' = w.alloc (.cells #[.int .i64 k, .int .i64 n, .string s] 25) := by
  by_cases h0 : k = 0
  · subst h0
    refine (formOf_0 n s w).mono ?_
    rintro e w1 ⟨rfl, rfl⟩
    exact ⟨_, rfl, fun W => ta_nullForm_textForm W, rfl⟩
  by_cases h1 : k = 1
  · subst h1
    refine (formOf_1 n s w).mono ?_
    rintro e w1 ⟨rfl, rfl⟩
    exact ⟨_, rfl, fun W => ta_intForm_textForm n W, rfl⟩
  by_cases h2 : k = 2
  · subst h2
    refine (formOf_2 n s w).mono ?_
    rintro e w1 ⟨rfl, rfl⟩
    exact ⟨_, rfl, fun W => ta_boolForm_textForm n W, rfl⟩
  refine (formOf_x k n s w (by simp [h0]) (by simp [h1]) (by simp [h2]) (by simp [h])).mono ?_
  rintro e w1 ⟨rfl, rfl⟩
  exact ⟨_, rfl, fun W => ta_nil_textForm W, rfl⟩
set_option maxHeartbeats 2000000 in
set_option maxRecDepth 100000 in
theorem ints_add (op : ByteArray) (a b : Int) (s s' : ByteArray) (w : World) (hop : op.toList = [43]) :
    Calls Try.prog 20 #[.string op, (.agg #[.int .i64 1, .int .i64 a, .string s]), (.agg #[.int .i64 1, .int .i64 b, .string s'])] w fun e w' => e = .returned (.agg #[.int .i64 (kO (addO a b)), .int .i64 (nO (addO a b)), .string ⟨#[]⟩]) ∧ Below w.heap.size w w' := by
  go_enter Try.func20, Try.ntmps20
  go_wp2_with (first | (go_at_call 29; refine (formOf_1 _ _ _).mono ?_; rintro e w1 ⟨rfl, rfl⟩))
  refine (addInts_any _ _ _).mono ?_
  rintro e w1 ⟨x, t, rfl, ht, rfl⟩
  cases t
  · have ht' : Hid (addO a b = none) := by show _ = _; simpa [Tells] using ht
    clear ht
    go_wp2_with fail
    go_returns
    exact ⟨retO_none ht'.out, by go_grown⟩
  · have ht' : Hid (addO a b = some x) := by show _ = _; simpa [Tells] using ht
    clear ht
    go_wp2_with fail
    go_returns
    exact ⟨retO_some ht'.out, by go_grown⟩
set_option maxHeartbeats 2000000 in
set_option maxRecDepth 100000 in
theorem ints_sub (op : ByteArray) (a b : Int) (s s' : ByteArray) (w : World) (hop : op.toList = [45]) :
    Calls Try.prog 20 #[.string op, (.agg #[.int .i64 1, .int .i64 a, .string s]), (.agg #[.int .i64 1, .int .i64 b, .string s'])] w fun e w' => e = .returned (.agg #[.int .i64 (kO (subO a b)), .int .i64 (nO (subO a b)), .string ⟨#[]⟩]) ∧ Below w.heap.size w w' := by
  go_enter Try.func20, Try.ntmps20
  go_wp2_with (first | (go_at_call 29; refine (formOf_1 _ _ _).mono ?_; rintro e w1 ⟨rfl, rfl⟩))
  refine (subInts_any _ _ _).mono ?_
  rintro e w1 ⟨x, t, rfl, ht, rfl⟩
  cases t
  · have ht' : Hid (subO a b = none) := by show _ = _; simpa [Tells] using ht
    clear ht
    go_wp2_with fail
    go_returns
    exact ⟨retO_none ht'.out, by go_grown⟩
  · have ht' : Hid (subO a b = some x) := by show _ = _; simpa [Tells] using ht
    clear ht
    go_wp2_with fail
    go_returns
    exact ⟨retO_some ht'.out, by go_grown⟩
set_option maxHeartbeats 2000000 in
set_option maxRecDepth 100000 in
theorem ints_mul (op : ByteArray) (a b : Int) (s s' : ByteArray) (w : World) (hop : op.toList = [42]) :
    Calls Try.prog 20 #[.string op, (.agg #[.int .i64 1, .int .i64 a, .string s]), (.agg #[.int .i64 1, .int .i64 b, .string s'])] w fun e w' => e = .returned (.agg #[.int .i64 (kO (mulO a b)), .int .i64 (nO (mulO a b)), .string ⟨#[]⟩]) ∧ Below w.heap.size w w' := by
  go_enter Try.func20, Try.ntmps20
  go_wp2_with (first | (go_at_call 29; refine (formOf_1 _ _ _).mono ?_; rintro e w1 ⟨rfl, rfl⟩))
  refine (mulInts_any _ _ _).mono ?_
  rintro e w1 ⟨x, t, rfl, ht, hb1⟩
  have hf1 := (bcell hb1).2
  have hz1 := hb1.size
  (try simp at hz1)
  have hy1 : w.heap.size + 1 + 1 < w1.heap.size := (by omega)
  have hy1_0 : w.heap.size < w1.heap.size := (by omega)
  have hy1_1 : w.heap.size + 1 < w1.heap.size := (by omega)
  have q1_2_0 : w1.cell? ⟨w.heap.size + 1 + 1, 0, none⟩ = some (.int .i64 0) := cell_later hb1 (by go_simp)
  have q1_2_1 : w1.cell? ⟨w.heap.size + 1 + 1, 1, none⟩ = some (.int .i64 0) := cell_later hb1 (by go_simp)
  have q1_2_2 : w1.cell? ⟨w.heap.size + 1 + 1, 2, none⟩ = some (.string ⟨#[]⟩) := cell_later hb1 (by go_simp)
  cases t
  · have ht' : Hid (mulO a b = none) := by show _ = _; simpa [Tells] using ht
    clear ht
    go_wp2_with fail
    refine bodyPost_ret (v := (.agg #[.int .i64 0, .int .i64 0, .string ⟨#[]⟩])) (by simp [results, Try.results20, go_sem, *]) rfl ⟨?_, ?_⟩
    · exact retO_none ht'.out
    · repeat (first | exact Below.refl _ _ | refine Below.drew ?_ | refine Below.alloc ?_ (by first | (simp; done) | (simp; omega) | omega) _ | refine Below.setCell ?_ (by first | (simp; done) | (simp; omega) | omega) _ | refine bstep (by assumption) (by first | (simp; done) | (simp; omega) | omega) ?_)
  · have ht' : Hid (mulO a b = some x) := by show _ = _; simpa [Tells] using ht
    clear ht
    go_wp2_with fail
    refine bodyPost_ret (v := (.agg #[.int .i64 1, .int .i64 x, .string ⟨#[]⟩])) (by simp [results, Try.results20, go_sem, *]) rfl ⟨?_, ?_⟩
    · exact retO_some ht'.out
    · repeat (first | exact Below.refl _ _ | refine Below.drew ?_ | refine Below.alloc ?_ (by first | (simp; done) | (simp; omega) | omega) _ | refine Below.setCell ?_ (by first | (simp; done) | (simp; omega) | omega) _ | refine bstep (by assumption) (by first | (simp; done) | (simp; omega) | omega) ?_)
set_option maxHeartbeats 2000000 in
set_option maxRecDepth 100000 in
theorem ints_div (op : ByteArray) (a b : Int) (s s' : ByteArray) (w : World) (hop : op.toList = [47]) :
    Calls Try.prog 20 #[.string op, (.agg #[.int .i64 1, .int .i64 a, .string s]), (.agg #[.int .i64 1, .int .i64 b, .string s'])] w fun e w' => e = .returned (.agg #[.int .i64 (kO (divO a b)), .int .i64 (nO (divO a b)), .string ⟨#[]⟩]) ∧ Below w.heap.size w w' := by
  go_enter Try.func20, Try.ntmps20
  go_wp2_with (first | (go_at_call 29; refine (formOf_1 _ _ _).mono ?_; rintro e w1 ⟨rfl, rfl⟩))
  refine (divInts_any _ _ _).mono ?_
  rintro e w1 ⟨x, t, rfl, ht, hb1⟩
  have hf1 := (bcell hb1).2
  have hz1 := hb1.size
  (try simp at hz1)
  have hy1 : w.heap.size + 1 + 1 < w1.heap.size := (by omega)
  have hy1_0 : w.heap.size < w1.heap.size := (by omega)
  have hy1_1 : w.heap.size + 1 < w1.heap.size := (by omega)
  have q1_2_0 : w1.cell? ⟨w.heap.size + 1 + 1, 0, none⟩ = some (.int .i64 0) := cell_later hb1 (by go_simp)
  have q1_2_1 : w1.cell? ⟨w.heap.size + 1 + 1, 1, none⟩ = some (.int .i64 0) := cell_later hb1 (by go_simp)
  have q1_2_2 : w1.cell? ⟨w.heap.size + 1 + 1, 2, none⟩ = some (.string ⟨#[]⟩) := cell_later hb1 (by go_simp)
  cases t
  · have ht' : Hid (divO a b = none) := by show _ = _; simpa [Tells] using ht
    clear ht
    go_wp2_with fail
    refine bodyPost_ret (v := (.agg #[.int .i64 0, .int .i64 0, .string ⟨#[]⟩])) (by simp [results, Try.results20, go_sem, *]) rfl ⟨?_, ?_⟩
    · exact retO_none ht'.out
    · repeat (first | exact Below.refl _ _ | refine Below.drew ?_ | refine Below.alloc ?_ (by first | (simp; done) | (simp; omega) | omega) _ | refine Below.setCell ?_ (by first | (simp; done) | (simp; omega) | omega) _ | refine bstep (by assumption) (by first | (simp; done) | (simp; omega) | omega) ?_)
  · have ht' : Hid (divO a b = some x) := by show _ = _; simpa [Tells] using ht
    clear ht
    go_wp2_with fail
    refine bodyPost_ret (v := (.agg #[.int .i64 1, .int .i64 x, .string ⟨#[]⟩])) (by simp [results, Try.results20, go_sem, *]) rfl ⟨?_, ?_⟩
    · exact retO_some ht'.out
    · repeat (first | exact Below.refl _ _ | refine Below.drew ?_ | refine Below.alloc ?_ (by first | (simp; done) | (simp; omega) | omega) _ | refine Below.setCell ?_ (by first | (simp; done) | (simp; omega) | omega) _ | refine bstep (by assumption) (by first | (simp; done) | (simp; omega) | omega) ?_)
set_option maxHeartbeats 2000000 in
set_option maxRecDepth 100000 in
theorem ints_1x (op : ByteArray) (a k b : Int) (s s' : ByteArray) (w : World) (hk : ¬ k = 1) :
    Calls Try.prog 20 #[.string op, (.agg #[.int .i64 1, .int .i64 a, .string s]), (.agg #[.int .i64 k, .int .i64 b, .string s'])] w fun e w' => e = .returned (.agg #[.int .i64 0, .int .i64 0, .string ⟨#[]⟩]) ∧ Below w.heap.size w w' := by
  go_enter Try.func20, Try.ntmps20
  go_wp2_with fail
  refine (formOf_1 _ _ _).mono ?_
  rintro e w1 ⟨rfl, rfl⟩
  go_wp2_with fail
  refine (formOf_not1 _ _ _ _ hk).mono ?_
  rintro e w1 ⟨f, rfl, hta, rfl⟩
  go_wp2_with fail
  go_returns
  exact ⟨rfl, by go_grown⟩
set_option maxHeartbeats 2000000 in
set_option maxRecDepth 100000 in
theorem ints_x1 (op : ByteArray) (k a b : Int) (s s' : ByteArray) (w : World) (hk : ¬ k = 1) :
    Calls Try.prog 20 #[.string op, (.agg #[.int .i64 k, .int .i64 a, .string s]), (.agg #[.int .i64 1, .int .i64 b, .string s'])] w fun e w' => e = .returned (.agg #[.int .i64 0, .int .i64 0, .string ⟨#[]⟩]) ∧ Below w.heap.size w w' := by
  go_enter Try.func20, Try.ntmps20
  go_wp2_with fail
  refine (formOf_not1 _ _ _ _ hk).mono ?_
  rintro e w1 ⟨f, rfl, hta, rfl⟩
  go_wp2_with fail
  refine (formOf_1 _ _ _).mono ?_
  rintro e w1 ⟨rfl, rfl⟩
  go_wp2_with fail
  go_returns
  exact ⟨rfl, by go_grown⟩
set_option maxHeartbeats 2000000 in
set_option maxRecDepth 100000 in
theorem ints_xx (op : ByteArray) (k a k' b : Int) (s s' : ByteArray) (w : World) (hk : ¬ k = 1) (hk' : ¬ k' = 1) :
    Calls Try.prog 20 #[.string op, (.agg #[.int .i64 k, .int .i64 a, .string s]), (.agg #[.int .i64 k', .int .i64 b, .string s'])] w fun e w' => e = .returned (.agg #[.int .i64 0, .int .i64 0, .string ⟨#[]⟩]) ∧ Below w.heap.size w w' := by
  go_enter Try.func20, Try.ntmps20
  go_wp2_with fail
  refine (formOf_not1 _ _ _ _ hk).mono ?_
  rintro e w1 ⟨f, rfl, hta, rfl⟩
  go_wp2_with fail
  refine (formOf_not1 _ _ _ _ hk').mono ?_
  rintro e w1 ⟨f', rfl, hta', rfl⟩
  go_wp2_with fail
  go_returns
  exact ⟨rfl, by go_grown⟩
theorem ints_no (op : ByteArray) (k a k' b : Int) (s s' : ByteArray) (w : World) (h : ¬ (k = 1 ∧ k' = 1)) :
    Calls Try.prog 20 #[.string op, (.agg #[.int .i64 k, .int .i64 a, .string s]), (.agg #[.int .i64 k', .int .i64 b, .string s'])] w fun e w' => e = .returned (.agg #[.int .i64 0, .int .i64 0, .string ⟨#[]⟩]) ∧ Below w.heap.size w w' := by
  by_cases h1 : k = 1
  · subst h1; exact ints_1x op a k' b s s' w (fun e => h ⟨rfl, e⟩)
  by_cases h2 : k' = 1
  · subst h2; exact ints_x1 op k a b s s' w h1
  · exact ints_xx op k a k' b s s' w h1 h2
end Go.Proofs.Ytlakhcmbalcclaa
