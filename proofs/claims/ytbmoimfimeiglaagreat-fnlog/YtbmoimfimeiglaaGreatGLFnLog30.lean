/- Own texts, joined: contracts that the law's proof goes by. -/
import Derived.Test.YtbmoimfimeiglaaGreatGLFnLog29
import Derived.Test.YtbmoimfimeiglaaGreatGLFnLog7
import Derived.Handy
import Derived.Deep.RegionHeld3
import Derived.Deep.DeepCutAuto
namespace Go.Proofs.YtbmoimfimeiglaaGreat
open Go.RowKit Go.Deep
set_option linter.unusedVariables false
theorem Pushed.c1 {w w' : World} {C E cap n : Nat} {s : ByteArray} {q : Nat × Bool} {xs : List Int} (h : Pushed w w' C E cap s q xs n) : w'.cell? ⟨C, 1, none⟩ = some (.int .i64 q.1) := by
  obtain ⟨_, _, h, _⟩ := h
  exact h.cells.2.1
def enQ (e : Nat) (n : Nat) (q : Nat × Bool) : Nat × Bool := if q.1 + n ≤ e then q else (q.1, true)
def enX (e : Nat) (n : Nat) (q : Nat × Bool) : Nat := if q.1 + n ≤ e then q.1 + n else q.1
set_option maxHeartbeats 2000000 in
set_option maxRecDepth 100000 in
theorem enter_any (C E cap : Nat) (s : ByteArray) (q : Nat × Bool) (xs : List Int) (e n : Nat) (w : World) (h : Ct w C E cap s q (xs ++ [(e : Int)])) (hq : q.1 ≤ e) (he : e ≤ s.size) (hn : n ≤ 4294967296) (hs : s.size ≤ 1048576) (hl : xs.length ≤ 10000) :
    Calls Tryz.prog 59 #[.pointer (some ⟨C, 0, none⟩), .int .i64 n] w fun r w' => r = .returned (.tuple #[]) ∧ Pushed w w' C E cap s (enQ e n q) (xs ++ [(e : Int)] ++ [(enX e n q : Int)]) (xs.length + 1) := by
  go_enter Tryz.func59, Tryz.ntmps59
  go_wp2_with fail
  refine Calls.mono (left_any C E cap s q xs e w h hq he) ?_
  rintro r w1 ⟨rfl, m, rfl⟩
  have hsz : ((s.extract q.1 e).size : Int) = (e : Int) - (q.1 : Int) := by rw [ByteArray.size_extract]; omega
  have hln : (xs ++ [(e : Int)]).length = xs.length + 1 := by simp
  have hA := h.drewN m
  have hK : Kc C E w (w.drewN m) := (Kc.refl C E w).drewN m
  generalize w.drewN m = w1 at *
  by_cases hle : q.1 + n ≤ e
  · have hcmp : ¬ ((e : Int) - (q.1 : Int) < (n : Int)) := by omega
    obtain ⟨y, HY⟩ : ∃ y : Int, Hid (y = ((q.1 + n : Nat) : Int)) := ⟨_, rfl⟩
    have hw : IntKind.i64.wrap ((q.1 : Int) + (n : Int)) = y := by rw [HY.out, IntKind.wrap_i64]; omega
    have hQ : Hid (enQ e n q = q) := by show _ = _; unfold enQ; rw [if_pos hle]
    have hX : Hid (enX e n q = q.1 + n) := by show _ = _; unfold enX; rw [if_pos hle]
    obtain ⟨_, c1, _, _, _⟩ := hA.cells
    have HP : Hid (∀ wz : World, Ct wz C E cap s q (xs ++ [(e : Int)]) → Kc C E w wz → Calls Tryz.prog 57 #[.pointer (some ⟨C, 2, none⟩), .int .i64 y] wz fun r w' => r = .returned (.tuple #[]) ∧ Pushed w w' C E cap s q (xs ++ [(e : Int)] ++ [y]) (xs.length + 1)) := by
      intro wz hz hkz
      refine Calls.mono (push_any C E cap s q (xs ++ [(e : Int)]) _ wz hz (by rw [hln]; omega)) ?_
      rintro r w' ⟨rfl, E', cap', hC, hk2, hr, hE, hn⟩
      rw [hln] at hr hn
      exact ⟨rfl, E', cap', hC, hkz.trans hk2 (.inl rfl), hr, hE.elim .inl (fun hh => .inr (Nat.le_trans hkz.size hh)), hn⟩
    have HA : Hid (Ct w1 C E cap s q (xs ++ [(e : Int)])) := hA
    have HK : Hid (Kc C E w w1) := hK
    clear hA hK h hle hln
    obtain ⟨a, t⟩ := q
    dsimp only at hsz c1 HP HA hw hcmp hQ hX HY
    go_wp2_with fail
    go_region_held3 (fun w' => w'.cell? ⟨C, 1, none⟩ = some (.int .i64 a)) (first | (with_reducible assumption) | (go_simp; done)) (first | (go_at_call 57; (try rw [hw]); with_reducible refine Calls.mono (HP.out _ (HA.out.below (bex)) (HK.out.trans (Kc.of_below (bex)) (.inl rfl))) ?_; rintro r w2 ⟨rfl, hPu⟩; have s1 := hPu.c1; dsimp only at s1) | fail)
    all_goals go_wp2
    all_goals go_end0
    all_goals exact ⟨rfl, by rw [hQ.out, hX.out, ← HY.out]; exact hPu⟩
  · have hcmp : ((e : Int) - (q.1 : Int) < (n : Int)) := by omega
    have hw : IntKind.i64.wrap ((q.1 : Int) + 0) = (q.1 : Int) := by rw [IntKind.wrap_i64]; omega
    have hw' : IntKind.i64.wrap (q.1 : Int) = (q.1 : Int) := by rw [IntKind.wrap_i64]; omega
    have hQ : Hid (enQ e n q = (q.1, true)) := by show _ = _; unfold enQ; rw [if_neg hle]
    have hX : Hid (enX e n q = q.1) := by show _ = _; unfold enX; rw [if_neg hle]
    obtain ⟨_, _, _, c3, hf⟩ := hA.cells
    have f3 := hf 3
    have hB := hA.torn true
    obtain ⟨_, c1, _, _, _⟩ := hB.cells
    have HP : Hid (∀ wz : World, Ct wz C E cap s (q.1, true) (xs ++ [(e : Int)]) → Kc C E w wz → Calls Tryz.prog 57 #[.pointer (some ⟨C, 2, none⟩), .int .i64 (q.1 : Int)] wz fun r w' => r = .returned (.tuple #[]) ∧ Pushed w w' C E cap s (q.1, true) (xs ++ [(e : Int)] ++ [(q.1 : Int)]) (xs.length + 1)) := by
      intro wz hz hkz
      refine Calls.mono (push_any C E cap s (q.1, true) (xs ++ [(e : Int)]) _ wz hz (by rw [hln]; omega)) ?_
      rintro r w' ⟨rfl, E', cap', hC, hk2, hr, hE, hn⟩
      rw [hln] at hr hn
      exact ⟨rfl, E', cap', hC, hkz.trans hk2 (.inl rfl), hr, hE.elim .inl (fun hh => .inr (Nat.le_trans hkz.size hh)), hn⟩
    have HA : Hid (Ct (w1.setCell ⟨C, 3, none⟩ (.bool true)) C E cap s (q.1, true) (xs ++ [(e : Int)])) := hB
    have HK : Hid (Kc C E w (w1.setCell ⟨C, 3, none⟩ (.bool true))) := hK.setCell 3 _
    clear hA hK h hle hln hB hf
    obtain ⟨a, t⟩ := q
    dsimp only at hsz c1 HP HA hw hw' hcmp hQ hX
    go_upto_region 3 with fail
    generalize w1.setCell ⟨C, 3, none⟩ (.bool true) = w2 at *
    go_region_held3 (fun w' => w'.cell? ⟨C, 1, none⟩ = some (.int .i64 a)) (first | (with_reducible assumption) | (go_simp; done)) (first | (go_at_call 57; (try rw [hw]); with_reducible refine Calls.mono (HP.out _ (HA.out.below (bex)) (HK.out.trans (Kc.of_below (bex)) (.inl rfl))) ?_; rintro r w2 ⟨rfl, hPu⟩; have s1 := hPu.c1; dsimp only at s1) | fail)
    all_goals go_wp2
    all_goals go_end0
    all_goals exact ⟨rfl, by rw [hQ.out, hX.out]; exact hPu⟩
end Go.Proofs.YtbmoimfimeiglaaGreat
namespace Go.Proofs.YtbmoimfimeiglaaGreat
open Go.RowKit Go.Deep
set_option linter.unusedVariables false
def Took (w w' : World) (C E cap : Nat) (s : ByteArray) (q : Nat × Bool) (xs : List Int) : Prop := ∃ E' cap', Ct w' C E' cap' s q xs ∧ Kc C E w w' ∧ (xs.length + 1 ≤ cap → E' = E ∧ cap' = cap) ∧ (E' = E ∨ w.heap.size ≤ E') ∧ xs.length + 1 ≤ cap'
theorem Took.room {w w' : World} {C E cap : Nat} {s : ByteArray} {q : Nat × Bool} {xs : List Int} (h : Took w w' C E cap s q xs) (hr : xs.length + 1 ≤ cap) : Ct w' C E cap s q xs ∧ Kc C E w w' := by
  obtain ⟨E', cap', h1, h2, h3, _⟩ := h
  obtain ⟨rfl, rfl⟩ := h3 hr
  exact ⟨h1, h2⟩
theorem tk_en {s : ByteArray} {e n : Nat} {q : Nat × Bool} : (s.extract (enQ e n q).1 (enX e n q)) = (tk s e n q).1 ∧ (tk s e n q).2 = (enX e n q, (enQ e n q).2) ∧ (enQ e n q).1 = q.1 := by
  unfold enQ enX tk
  split
  · exact ⟨rfl, rfl, rfl⟩
  · refine ⟨?_, rfl, rfl⟩
    apply ByteArray.ext
    simp [ByteArray.extract, ByteArray.copySlice]
    omega
set_option maxHeartbeats 4000000 in
set_option maxRecDepth 100000 in
theorem take_any (C E cap : Nat) (s : ByteArray) (q : Nat × Bool) (xs : List Int) (e n : Nat) (w : World) (h : Ct w C E cap s q (xs ++ [(e : Int)])) (hq : q.1 ≤ e) (he : e ≤ s.size) (hn : n ≤ 4294967296) (hs : s.size ≤ 1048576) (hl : xs.length ≤ 10000) :
    Calls Tryz.prog 88 #[.pointer (some ⟨C, 0, none⟩), .int .i64 n] w fun r w' => r = .returned (.string (tk s e n q).1) ∧ Took w w' C E cap s (tk s e n q).2 (xs ++ [(e : Int)]) := by
  obtain ⟨t1, t2, t3⟩ := tk_en (s := s) (e := e) (n := n) (q := q)
  have hXe : enX e n q ≤ e := by unfold enX; split <;> omega
  have hqX : q.1 ≤ enX e n q := by unfold enX; split <;> omega
  have hln : (xs ++ [(e : Int)]).length = xs.length + 1 := by simp
  have hsz : ((tk s e n q).1.size : Int) = (enX e n q : Int) - (q.1 : Int) := by rw [← t1, ByteArray.size_extract, t3]; omega
  have hqs : q.1 ≤ 1048576 := by omega
  have hw : IntKind.i64.wrap ((q.1 : Int) + ((tk s e n q).1.size : Int)) = (enX e n q : Int) := by rw [hsz, IntKind.wrap_i64]; omega
  rw [t2]
  go_enter Tryz.func88, Tryz.ntmps88
  go_wp2_with fail
  refine Calls.mono (enter_any C E cap s q xs e n w h hq he hn hs hl) ?_
  rintro r w1 ⟨rfl, E', cap', hC1, hK1, hr, hE, hn1⟩
  go_wp2_with fail
  refine Calls.mono (left_any C E' cap' s (enQ e n q) (xs ++ [(e : Int)]) (enX e n q) w1 hC1 (by rw [t3]; exact hqX) (by omega)) ?_
  rintro r w2 ⟨rfl, m, rfl⟩
  rw [t1]
  have hC2 := hC1.drewN m
  have hK2 := hK1.drewN m
  generalize w1.drewN m = w2 at *
  obtain ⟨_, c1, _, _, hf⟩ := hC2.cells
  rw [t3] at c1
  have f1 := hf 1
  have hC3 := hC2.at (enX e n q)
  have hK3 := hK2.setCell 1 (.int .i64 (enX e n q))
  have HL : Hid (∀ wz : World, wz = w2.setCell ⟨C, 1, none⟩ (.int .i64 (enX e n q)) → Calls Tryz.prog 70 #[.pointer (some ⟨C, 0, none⟩)] wz fun r w' => r = .returned (.tuple #[]) ∧ Took w w' C E cap s (enX e n q, (enQ e n q).2) (xs ++ [(e : Int)])) := by
    rintro wz rfl
    refine Calls.mono (leave_any C E' cap' s _ (xs ++ [(e : Int)]) (enX e n q) _ hC3) ?_
    rintro r w' ⟨rfl, hC4, hK4⟩
    refine ⟨rfl, E', cap', hC4.eqQ (by simp), hK3.trans hK4 hE, ?_, hE, ?_⟩
    · rw [hln]; exact hr
    · rw [hln]; exact hn1
  generalize hx : enX e n q = X at *
  generalize ht : (tk s e n q).1 = T at *
  clear hC1 hK1 hC2 hK2 hC3 hK3 hf h t1 t2
  generalize hq1 : q.1 = a at *
  go_wp2_with fail
  (try rw [hw])
  refine Calls.mono (HL.out _ (by congr 2; omega)) ?_
  rintro r w3 ⟨rfl, hT⟩
  go_wp2
  go_returns
  subst hx ht
  exact ⟨rfl, hT⟩
set_option maxHeartbeats 4000000 in
set_option maxRecDepth 100000 in
theorem cnum_any (C E cap : Nat) (s : ByteArray) (q : Nat × Bool) (xs : List Int) (e k : Nat) (w : World) (h : Ct w C E cap s q (xs ++ [(e : Int)])) (hq : q.1 ≤ e) (he : e ≤ s.size) (hk : k ≤ 4) (hs : s.size ≤ 1048576) (hl : xs.length ≤ 10000) :
    Calls Tryz.prog 58 #[.pointer (some ⟨C, 0, none⟩), .int .i64 k] w fun r w' => r = .returned (.int .i64 (nm s e k q).1) ∧ Took w w' C E cap s (nm s e k q).2 (xs ++ [(e : Int)]) := by
  have hsz : (tk s e k q).1.size ≤ 7 := Nat.le_trans (tk_le he hq) (by omega)
  go_enter Tryz.func58, Tryz.ntmps58
  go_wp2_with fail
  refine Calls.mono (take_any C E cap s q xs e k w h hq he (by omega) hs hl) ?_
  rintro r w1 ⟨rfl, hT⟩
  have HT : Hid (Took w w1 C E cap s (tk s e k q).2 (xs ++ [(e : Int)])) := hT
  clear hT h
  go_wp2_with fail
  refine Calls.mono (numberOf_le _ w1 hsz) ?_
  rintro r w2 ⟨rfl, hw2⟩
  obtain rfl : w1 = w2 := hw2.symm
  go_wp2
  go_returns
  exact ⟨rfl, HT.out⟩
set_option maxHeartbeats 4000000 in
set_option maxRecDepth 100000 in
theorem ctext_any (C E cap : Nat) (s : ByteArray) (q : Nat × Bool) (xs : List Int) (e : Nat) (w : World) (h : Ct w C E cap s q (xs ++ [(e : Int)])) (hr : xs.length + 2 ≤ cap) (hq : q.1 ≤ e) (he : e ≤ s.size) (hs : s.size ≤ 1048576) (hl : xs.length ≤ 10000) :
    Calls Tryz.prog 66 #[.pointer (some ⟨C, 0, none⟩)] w fun r w' => r = .returned (.string (tx s e 2 q).1) ∧ Ct w' C E cap s (tx s e 2 q).2 (xs ++ [(e : Int)]) ∧ Kc C E w w' := by
  have hln : (xs ++ [(e : Int)]).length + 1 ≤ cap := by simp; omega
  have hbd := nm_bd (s := s) (k := 2) he hq (by omega)
  have hn : (nm s e 2 q).1 = ((nm s e 2 q).1.toNat : Int) := by omega
  have hsz : (tx s e 2 q).1.size ≤ 1048576 := Nat.le_trans (tk_size he (nm_at hq)) hs
  have HX : Hid (tk s e (nm s e 2 q).1.toNat (nm s e 2 q).2 = tx s e 2 q) := rfl
  go_enter Tryz.func66, Tryz.ntmps66
  go_wp2_with fail
  refine Calls.mono (cnum_any C E cap s q xs e 2 w h hq he (by omega) hs hl) ?_
  rintro r w1 ⟨rfl, hT⟩
  obtain ⟨hC1, hK1⟩ := hT.room hln
  rw [hn]
  have hq1 : (nm s e 2 q).2.1 ≤ e := nm_at hq
  have hm : (nm s e 2 q).1.toNat ≤ 4294967296 := by omega
  clear hn
  generalize hN : (nm s e 2 q).1.toNat = n at *
  generalize hQ : (nm s e 2 q).2 = q1 at *
  go_wp2_with fail
  refine Calls.mono (take_any C E cap s q1 xs e n w1 hC1 hq1 he hm hs hl) ?_
  rintro r w2 ⟨rfl, hT2⟩
  obtain ⟨hC2, hK2⟩ := hT2.room hln
  rw [HX.out] at hC2 ⊢
  have HC : Hid (Ct w2 C E cap s (tx s e 2 q).2 (xs ++ [(e : Int)])) := hC2
  have HK : Hid (Kc C E w w2) := hK1.trans hK2 (.inl rfl)
  clear hT hT2 hC1 hC2 hK1 hK2 h
  generalize hT : (tx s e 2 q).1 = T at *
  go_wp2_with fail
  refine Calls.mono (clone_any T w2 (by omega)) ?_
  rintro r w3 ⟨rfl, hb3⟩
  have HC3 : Hid (Ct w3 C E cap s (tx s e 2 q).2 (xs ++ [(e : Int)])) := HC.out.below hb3
  have HK3 : Hid (Kc C E w w3) := HK.out.trans (Kc.of_below hb3) (.inl rfl)
  clear hb3
  go_wp2
  go_returns
  subst hT
  exact ⟨rfl, HC3.out, HK3.out⟩
end Go.Proofs.YtbmoimfimeiglaaGreat
