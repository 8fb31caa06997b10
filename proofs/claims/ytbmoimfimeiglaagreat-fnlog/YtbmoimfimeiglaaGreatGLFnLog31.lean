/- Own texts, joined: contracts that the law's proof goes by. -/
import Derived.Test.YtbmoimfimeiglaaGreatGLFnLog30
import Derived.Test.YtbmoimfimeiglaaGreatGLFnLog7
import Derived.Handy
import Derived.Deep.RegionHeld3
import Derived.Deep.DeepCutAuto
import Derived.Test.YtbmoimfimeiglaaGreatGLFnLog3
namespace Go.Proofs.YtbmoimfimeiglaaGreat
open Go.RowKit Go.Deep
set_option linter.unusedVariables false
theorem Pushed.c1 {w w' : World} {C E cap n : Nat} {s : ByteArray} {q : Nat × Bool} {xs : List Int} (h : Pushed w w' C E cap s q xs n) : w'.cell? ⟨C, 1, none⟩ = some (.int .i64 q.1) := by
  obtain ⟨_, _, h, _⟩ := h
  exact h.cells.2.1
def enQ (e : Nat) (n : Nat) (q : Nat × Bool) : Nat × Bool := if q.1 + n ≤ e then q else (q.1, true)
def enX (e : Nat) (n : Nat) (q : Nat × Bool) : Nat := if q.1 + n ≤ e then q.1 + n else q.1
set_option maxHeartbeats 2000000 in
set_option maxRecDepth 100000 in
theorem enter_any (C E cap : Nat) (s : ByteArray) (q : Nat × Bool) (xs : List Int) (e n : Nat) (w : World) (h : Ct w C E cap s q (xs ++ [(e : Int)])) (hq : q.1 ≤ e) (he : e ≤ s.size) (hn : n ≤ 4294967296) (hs : s.size ≤ 1048576) (hl : xs.length ≤ 10000) :
    Calls Tryz.prog 59 #[.pointer (some ⟨C, 0, none⟩), .int .i64 n] w fun r w' => r = .returned (.tuple #[]) ∧ Pushed w w' C E cap s (enQ e n q) (xs ++ [(e : Int)] ++ [(enX e n q : Int)]) (xs.length + 1) := by
  go_enter Tryz.func59, Tryz.ntmps59
  go_wp2_with fail
  refine Calls.mono (left_any C E cap s q xs e w h hq he) ?_
  rintro r w1 ⟨rfl, m, rfl⟩
  have hsz : ((s.extract q.1 e).size : Int) = (e : Int) - (q.1 : Int) := by rw [ByteArray.size_extract]; omega
  have hln : (xs ++ [(e : Int)]).length = xs.length + 1 := by simp
  have hA := h.drewN m
  have hK : Kc C E w (w.drewN m) := (Kc.refl C E w).drewN m
  generalize w.drewN m = w1 at *
  by_cases hle : q.1 + n ≤ e
  · have hcmp : ¬ ((e : Int) - (q.1 : Int) < (n : Int)) := by omega
    obtain ⟨y, HY⟩ : ∃ y : Int, Hid (y = ((q.1 + n : Nat) : Int)) := ⟨_, rfl⟩
    have hw : IntKind.i64.wrap ((q.1 : Int) + (n : Int)) = y := by rw [HY.out, IntKind.wrap_i64]; omega
    have hQ : Hid (enQ e n q = q) := by show _ = _; unfold enQ; rw [if_pos hle]
    have hX : Hid (enX e n q = q.1 + n) := by show _ = _; unfold enX; rw [if_pos hle]
    obtain ⟨_, c1, _, _, _⟩ := hA.cells
    have HP : Hid (∀ wz : World, Ct wz C E cap s q (xs ++ [(e : Int)]) → Kc C E w wz → Calls Tryz.prog 57 #[.pointer (some ⟨C, 2, none⟩), .int .i64 y] wz fun r w' => r = .returned (.tuple #[]) ∧ Pushed w w' C E cap s q (xs ++ [(e : Int)] ++ [y]) (xs.length + 1)) := by
      intro wz hz hkz
      refine Calls.mono (push_any C E cap s q (xs ++ [(e : Int)]) _ wz hz (by rw [hln]; omega)) ?_
      rintro r w' ⟨rfl, E', cap', hC, hk2, hr, hE, hn⟩
      rw [hln] at hr hn
      exact ⟨rfl, E', cap', hC, hkz.trans hk2 (.inl rfl), hr, hE.elim .inl (fun hh => .inr (Nat.le_trans hkz.size hh)), hn⟩
    have HA : Hid (Ct w1 C E cap s q (xs ++ [(e : Int)])) := hA
    have HK : Hid (Kc C E w w1) := hK
    clear hA hK h hle hln
    obtain ⟨a, t⟩ := q
    dsimp only at hsz c1 HP HA hw hcmp hQ hX HY
    go_wp2_with fail
    go_region_held3 (fun w' => w'.cell? ⟨C, 1, none⟩ = some (.int .i64 a)) (first | (with_reducible assumption) | (go_simp; done)) (first | (go_at_call 57; (try rw [hw]); with_reducible refine Calls.mono (HP.out _ (HA.out.below (bex)) (HK.out.trans (Kc.of_below (bex)) (.inl rfl))) ?_; rintro r w2 ⟨rfl, hPu⟩; have s1 := hPu.c1; dsimp only at s1) | fail)
    all_goals go_wp2
    all_goals go_end0
    all_goals exact ⟨rfl, by rw [hQ.out, hX.out, ← HY.out]; exact hPu⟩
  · have hcmp : ((e : Int) - (q.1 : Int) < (n : Int)) := by omega
    have hw : IntKind.i64.wrap ((q.1 : Int) + 0) = (q.1 : Int) := by rw [IntKind.wrap_i64]; omega
    have hw' : IntKind.i64.wrap (q.1 : Int) = (q.1 : Int) := by rw [IntKind.wrap_i64]; omega
    have hQ : Hid (enQ e n q = (q.1, true)) := by show _ = _; unfold enQ; rw [if_neg hle]
    have hX : Hid (enX e n q = q.1) := by show _ = _; unfold enX; rw [if_neg hle]
    obtain ⟨_, _, _, c3, hf⟩ := hA.cells
    have f3 := hf 3
    have hB := hA.torn true
    obtain ⟨_, c1, _, _, _⟩ := hB.cells
    have HP : Hid (∀ wz : World, Ct wz C E cap s (q.1, true) (xs ++ [(e : Int)]) → Kc C E w wz → Calls Tryz.prog 57 #[.pointer (some ⟨C, 2, none⟩), .int .i64 (q.1 : Int)] wz fun r w' => r = .returned (.tuple #[]) ∧ Pushed w w' C E cap s (q.1, true) (xs ++ [(e : Int)] ++ [(q.1 : Int)]) (xs.length + 1)) := by
      intro wz hz hkz
      refine Calls.mono (push_any C E cap s (q.1, true) (xs ++ [(e : Int)]) _ wz hz (by rw [hln]; omega)) ?_
      rintro r w' ⟨rfl, E', cap', hC, hk2, hr, hE, hn⟩
      rw [hln] at hr hn
      exact ⟨rfl, E', cap', hC, hkz.trans hk2 (.inl rfl), hr, hE.elim .inl (fun hh => .inr (Nat.le_trans hkz.size hh)), hn⟩
    have HA : Hid (Ct (w1.setCell ⟨C, 3, none⟩ (.bool true)) C E cap s (q.1, true) (xs ++ [(e : Int)])) := hB
    have HK : Hid (Kc C E w (w1.setCell ⟨C, 3, none⟩ (.bool true))) := hK.setCell 3 _
    clear hA hK h hle hln hB hf
    obtain ⟨a, t⟩ := q
    dsimp only at hsz c1 HP HA hw hw' hcmp hQ hX
    go_upto_region 3 with fail
    generalize w1.setCell ⟨C, 3, none⟩ (.bool true) = w2 at *
    go_region_held3 (fun w' => w'.cell? ⟨C, 1, none⟩ = some (.int .i64 a)) (first | (with_reducible assumption) | (go_simp; done)) (first | (go_at_call 57; (try rw [hw]); with_reducible refine Calls.mono (HP.out _ (HA.out.below (bex)) (HK.out.trans (Kc.of_below (bex)) (.inl rfl))) ?_; rintro r w2 ⟨rfl, hPu⟩; have s1 := hPu.c1; dsimp only at s1) | fail)
    all_goals go_wp2
    all_goals go_end0
    all_goals exact ⟨rfl, by rw [hQ.out, hX.out]; exact hPu⟩
end Go.Proofs.YtbmoimfimeiglaaGreat
namespace Go.Proofs.YtbmoimfimeiglaaGreat
open Go.RowKit Go.Deep
set_option linter.unusedVariables false
def Took (w w' : World) (C E cap : Nat) (s : ByteArray) (q : Nat × Bool) (xs : List Int) : Prop := ∃ E' cap', Ct w' C E' cap' s q xs ∧ Kc C E w w' ∧ (xs.length + 1 ≤ cap → E' = E ∧ cap' = cap) ∧ (E' = E ∨ w.heap.size ≤ E') ∧ xs.length + 1 ≤ cap'
theorem Took.room {w w' : World} {C E cap : Nat} {s : ByteArray} {q : Nat × Bool} {xs : List Int} (h : Took w w' C E cap s q xs) (hr : xs.length + 1 ≤ cap) : Ct w' C E cap s q xs ∧ Kc C E w w' := by
  obtain ⟨E', cap', h1, h2, h3, _⟩ := h
  obtain ⟨rfl, rfl⟩ := h3 hr
  exact ⟨h1, h2⟩
theorem tk_en {s : ByteArray} {e n : Nat} {q : Nat × Bool} : (s.extract (enQ e n q).1 (enX e n q)) = (tk s e n q).1 ∧ (tk s e n q).2 = (enX e n q, (enQ e n q).2) ∧ (enQ e n q).1 = q.1 := by
  unfold enQ enX tk
  split
  · exact ⟨rfl, rfl, rfl⟩
  · refine ⟨?_, rfl, rfl⟩
    apply ByteArray.ext
    simp [ByteArray.extract, ByteArray.copySlice]
    omega
set_option maxHeartbeats 4000000 in
set_option maxRecDepth 100000 in
theorem take_any (C E cap : Nat) (s : ByteArray) (q : Nat × Bool) (xs : List Int) (e n : Nat) (w : World) (h : Ct w C E cap s q (xs ++ [(e : Int)])) (hq : q.1 ≤ e) (he : e ≤ s.size) (hn : n ≤ 4294967296) (hs : s.size ≤ 1048576) (hl : xs.length ≤ 10000) :
    Calls Tryz.prog 88 #[.pointer (some ⟨C, 0, none⟩), .int .i64 n] w fun r w' => r = .returned (.string (tk s e n q).1) ∧ Took w w' C E cap s (tk s e n q).2 (xs ++ [(e : Int)]) := by
  obtain ⟨t1, t2, t3⟩ := tk_en (s := s) (e := e) (n := n) (q := q)
  have hXe : enX e n q ≤ e := by unfold enX; split <;> omega
  have hqX : q.1 ≤ enX e n q := by unfold enX; split <;> omega
  have hln : (xs ++ [(e : Int)]).length = xs.length + 1 := by simp
  have hsz : ((tk s e n q).1.size : Int) = (enX e n q : Int) - (q.1 : Int) := by rw [← t1, ByteArray.size_extract, t3]; omega
  have hqs : q.1 ≤ 1048576 := by omega
  have hw : IntKind.i64.wrap ((q.1 : Int) + ((tk s e n q).1.size : Int)) = (enX e n q : Int) := by rw [hsz, IntKind.wrap_i64]; omega
  rw [t2]
  go_enter Tryz.func88, Tryz.ntmps88
  go_wp2_with fail
  refine Calls.mono (enter_any C E cap s q xs e n w h hq he hn hs hl) ?_
  rintro r w1 ⟨rfl, E', cap', hC1, hK1, hr, hE, hn1⟩
  go_wp2_with fail
  refine Calls.mono (left_any C E' cap' s (enQ e n q) (xs ++ [(e : Int)]) (enX e n q) w1 hC1 (by rw [t3]; exact hqX) (by omega)) ?_
  rintro r w2 ⟨rfl, m, rfl⟩
  rw [t1]
  have hC2 := hC1.drewN m
  have hK2 := hK1.drewN m
  generalize w1.drewN m = w2 at *
  obtain ⟨_, c1, _, _, hf⟩ := hC2.cells
  rw [t3] at c1
  have f1 := hf 1
  have hC3 := hC2.at (enX e n q)
  have hK3 := hK2.setCell 1 (.int .i64 (enX e n q))
  have HL : Hid (∀ wz : World, wz = w2.setCell ⟨C, 1, none⟩ (.int .i64 (enX e n q)) → Calls Tryz.prog 70 #[.pointer (some ⟨C, 0, none⟩)] wz fun r w' => r = .returned (.tuple #[]) ∧ Took w w' C E cap s (enX e n q, (enQ e n q).2) (xs ++ [(e : Int)])) := by
    rintro wz rfl
    refine Calls.mono (leave_any C E' cap' s _ (xs ++ [(e : Int)]) (enX e n q) _ hC3) ?_
    rintro r w' ⟨rfl, hC4, hK4⟩
    refine ⟨rfl, E', cap', hC4.eqQ (by simp), hK3.trans hK4 hE, ?_, hE, ?_⟩
    · rw [hln]; exact hr
    · rw [hln]; exact hn1
  generalize hx : enX e n q = X at *
  generalize ht : (tk s e n q).1 = T at *
  clear hC1 hK1 hC2 hK2 hC3 hK3 hf h t1 t2
  generalize hq1 : q.1 = a at *
  go_wp2_with fail
  (try rw [hw])
  refine Calls.mono (HL.out _ (by congr 2; omega)) ?_
  rintro r w3 ⟨rfl, hT⟩
  go_wp2
  go_returns
  subst hx ht
  exact ⟨rfl, hT⟩
set_option maxHeartbeats 4000000 in
set_option maxRecDepth 100000 in
theorem cnum_any (C E cap : Nat) (s : ByteArray) (q : Nat × Bool) (xs : List Int) (e k : Nat) (w : World) (h : Ct w C E cap s q (xs ++ [(e : Int)])) (hq : q.1 ≤ e) (he : e ≤ s.size) (hk : k ≤ 4) (hs : s.size ≤ 1048576) (hl : xs.length ≤ 10000) :
    Calls Tryz.prog 58 #[.pointer (some ⟨C, 0, none⟩), .int .i64 k] w fun r w' => r = .returned (.int .i64 (nm s e k q).1) ∧ Took w w' C E cap s (nm s e k q).2 (xs ++ [(e : Int)]) := by
  have hsz : (tk s e k q).1.size ≤ 7 := Nat.le_trans (tk_le he hq) (by omega)
  go_enter Tryz.func58, Tryz.ntmps58
  go_wp2_with fail
  refine Calls.mono (take_any C E cap s q xs e k w h hq he (by omega) hs hl) ?_
  rintro r w1 ⟨rfl, hT⟩
  have HT : Hid (Took w w1 C E cap s (tk s e k q).2 (xs ++ [(e : Int)])) := hT
  clear hT h
  go_wp2_with fail
  refine Calls.mono (numberOf_le _ w1 hsz) ?_
  rintro r w2 ⟨rfl, hw2⟩
  obtain rfl : w1 = w2 := hw2.symm
  go_wp2
  go_returns
  exact ⟨rfl, HT.out⟩
set_option maxHeartbeats 4000000 in
set_option maxRecDepth 100000 in
theorem ctext_any (C E cap : Nat) (s : ByteArray) (q : Nat × Bool) (xs : List Int) (e : Nat) (w : World) (h : Ct w C E cap s q (xs ++ [(e : Int)])) (hr : xs.length + 2 ≤ cap) (hq : q.1 ≤ e) (he : e ≤ s.size) (hs : s.size ≤ 1048576) (hl : xs.length ≤ 10000) :
    Calls Tryz.prog 66 #[.pointer (some ⟨C, 0, none⟩)] w fun r w' => r = .returned (.string (tx s e 2 q).1) ∧ Ct w' C E cap s (tx s e 2 q).2 (xs ++ [(e : Int)]) ∧ Kc C E w w' := by
  have hln : (xs ++ [(e : Int)]).length + 1 ≤ cap := by simp; omega
  have hbd := nm_bd (s := s) (k := 2) he hq (by omega)
  have hn : (nm s e 2 q).1 = ((nm s e 2 q).1.toNat : Int) := by omega
  have hsz : (tx s e 2 q).1.size ≤ 1048576 := Nat.le_trans (tk_size he (nm_at hq)) hs
  have HX : Hid (tk s e (nm s e 2 q).1.toNat (nm s e 2 q).2 = tx s e 2 q) := rfl
  go_enter Tryz.func66, Tryz.ntmps66
  go_wp2_with fail
  refine Calls.mono (cnum_any C E cap s q xs e 2 w h hq he (by omega) hs hl) ?_
  rintro r w1 ⟨rfl, hT⟩
  obtain ⟨hC1, hK1⟩ := hT.room hln
  rw [hn]
  have hq1 : (nm s e 2 q).2.1 ≤ e := nm_at hq
  have hm : (nm s e 2 q).1.toNat ≤ 4294967296 := by omega
  clear hn
  generalize hN : (nm s e 2 q).1.toNat = n at *
  generalize hQ : (nm s e 2 q).2 = q1 at *
  go_wp2_with fail
  refine Calls.mono (take_any C E cap s q1 xs e n w1 hC1 hq1 he hm hs hl) ?_
  rintro r w2 ⟨rfl, hT2⟩
  obtain ⟨hC2, hK2⟩ := hT2.room hln
  rw [HX.out] at hC2 ⊢
  have HC : Hid (Ct w2 C E cap s (tx s e 2 q).2 (xs ++ [(e : Int)])) := hC2
  have HK : Hid (Kc C E w w2) := hK1.trans hK2 (.inl rfl)
  clear hT hT2 hC1 hC2 hK1 hK2 h
  generalize hT : (tx s e 2 q).1 = T at *
  go_wp2_with fail
  refine Calls.mono (clone_any T w2 (by omega)) ?_
  rintro r w3 ⟨rfl, hb3⟩
  have HC3 : Hid (Ct w3 C E cap s (tx s e 2 q).2 (xs ++ [(e : Int)])) := HC.out.below hb3
  have HK3 : Hid (Kc C E w w3) := HK.out.trans (Kc.of_below hb3) (.inl rfl)
  clear hb3
  go_wp2
  go_returns
  subst hT
  exact ⟨rfl, HC3.out, HK3.out⟩
end Go.Proofs.YtbmoimfimeiglaaGreat
namespace Go.Proofs.YtbmoimfimeiglaaGreat
open Go.RowKit Go.Deep
set_option linter.unusedVariables false
structure Ls (w : World) (N P : Nat) (u : Value) (cs : List ByteArray) : Prop where
  le : N ≤ P
  blk : w.heap[P]? = some (.cells #[u] 152 (0, 0))
  own : w.ownsRow N 9 1 u cs.length (cs.map Value.string)
theorem Kc.above {w w1 w2 : World} {C E : Nat} (h : Kc C E w w1) (k : Below w.heap.size w1 w2) : Kc C E w w2 :=
  ⟨k.os.trans h.os, k.tape.trans h.tape, k.output.trans h.output, Nat.le_trans h.size k.size, fun b hb h1 h2 => (k.block b hb).trans (h.block b hb h1 h2)⟩
theorem own_typ {w : World} {N n e s g : Nat} {v : Value} {xs : List Value} {c : Array Value} {t : TypeId} {l : Nat × Nat} (h : w.ownsRow N e s v n xs) (hb : w.heap[g]? = some (.cells c t l)) (ht : t ≠ e) : v.ownBlock ≠ some g := by
  intro e'
  rcases h.2 with ⟨rfl, _⟩ | ⟨g', cap, cur, rfl, _, hc, _⟩
  · simp [Value.ownBlock] at e'
  · simp [Value.ownBlock] at e'
    subst e'
    rw [hb] at hc
    simp at hc
    exact ht hc.2.1
section
variable {w w' : World} {N P : Nat} {u : Value} {cs : List ByteArray}
theorem Ls.lt (h : Ls w N P u cs) : P < w.heap.size := heap_lt h.blk
theorem Ls.keep (h : Ls w N P u cs) (hb : ∀ b, N ≤ b → b < w.heap.size → w'.heap[b]? = w.heap[b]?) : Ls w' N P u cs :=
  ⟨h.le, (hb P h.le h.lt).trans h.blk, ownsRow_keep h.own fun b hv => hb b (ownsRow_lt h.own b hv).1 (ownsRow_lt h.own b hv).2⟩
theorem Ls.kc {C E : Nat} (h : Ls w N P u cs) (hk : Kc C E w w') (hC : C < N) (hE : E < N) : Ls w' N P u cs := h.keep fun b h1 h2 => hk.block b h2 (by omega) (by omega)
theorem Ls.below (h : Ls w N P u cs) (hb : Below w.heap.size w w') : Ls w' N P u cs := h.keep fun b _ h2 => hb.block b h2
end
theorem infoS5 : (Tryz.prog.info? 9).map (fun i => (i.zero, i.size, i.bytes)) = some (some (.string ⟨#[]⟩), 1, 16) := by kernel_rfl
set_option maxHeartbeats 2000000 in
set_option maxRecDepth 100000 in
theorem sadd_any (N P : Nat) (u : Value) (cs : List ByteArray) (x : ByteArray) (ad : Addr) (w : World) (h : Ls w N P u cs) (hx : w.cell? ad = some (.string x)) (hlen : cs.length ≤ 100000) :
    Calls Tryz.prog 97 #[.pointer (some ⟨P, 0, none⟩), .slice (some ad) 1 1] w fun e w' => e = .returned (.tuple #[]) ∧ (∃ u', Ls w' N P u' (cs ++ [x])) ∧ Below N w w' := by
  obtain ⟨i0, hi, hz0, hz1, hz2⟩ := info_parts infoS5
  have hlt := h.lt
  obtain ⟨hle, hbk, hown⟩ := h
  have hne := own_typ hown hbk (by decide)
  have c0 : w.cell? ⟨P, 0, none⟩ = some u := by rw [Lib.cell_of_heap hbk]; rfl
  go_enter Tryz.func97, Tryz.ntmps97
  go_wp2_with (at_builtin; refine wpList_append_own _ rfl _ _ 24 rfl N 9 i0 (.string ⟨#[]⟩) 1 16 Tryz.underlying24 hi hz0 hz1 hz2 rfl (by decide) _ _ _ rfl hown ad 1 1 [.string x] rfl (by simp) ?c1 ?c2 ?c3 ?c4 ?c5 ?_)
  case c1 =>
    intro j y hj
    match j, hj with
    | 0, hj =>
      simp at hj
      subst hj
      have e0 : ad.add 0 = ad := by unfold Addr.add; split <;> simp_all
      rw [e0]; exact hx
  case c2 => intro y hy; rcases List.mem_singleton.1 hy with rfl; rfl
  case c3 => unfold maxLen; omega
  case c4 => omega
  case c5 => omega
  intro v' w2 hown' hgrow _
  have hbP : w2.heap[P]? = some (.cells #[u] 152 (0, 0)) := (hgrow.block P hlt (fun e => hne e.symm)).trans hbk
  have d0 : w2.cell? ⟨P, 0, none⟩ = some u := by rw [Lib.cell_of_heap hbP]; rfl
  have f0 : w2.frozen? ⟨P, 0, none⟩ = false := Lib.frozen_of_heap hbP 0
  have hne' := own_typ hown' hbP (by decide)
  have HB : Hid (Below N w w2) := (Below.refl N w).grown hgrow (by omega) (fun k hk => (hown.lt k hk).1)
  have hs : ∃ ao n' cap, v' = .slice ao n' cap := by
    rcases hown'.2 with ⟨hv, _⟩ | ⟨g, cap, cur, hv, _⟩ <;> exact ⟨_, _, _, hv⟩
  obtain ⟨ao, n', cap, rfl⟩ := hs
  clear hgrow hown
  go_wp2
  go_end0
  refine ⟨rfl, ⟨_, hle, by rw [set_blk hbP]; rfl, ?_⟩, HB.out.setCell (p := ⟨P, 0, none⟩) hle _⟩
  rw [List.map_append, List.length_append]
  exact ownsRow_keep hown' fun b hv => Below.heap_setCell _ _ _ _ (by rintro rfl; exact hne' hv)
set_option maxHeartbeats 2000000 in
set_option maxRecDepth 100000 in
theorem sall_any (N P : Nat) (u : Value) (cs : List ByteArray) (w : World) (h : Ls w N P u cs) :
    Calls Tryz.prog 98 #[.pointer (some ⟨P, 0, none⟩)] w fun e w' => e = .returned u ∧ w' = w := by
  have c0 : w.cell? ⟨P, 0, none⟩ = some u := by rw [Lib.cell_of_heap h.blk]; rfl
  have hs : ∃ ao n' cap, u = .slice ao n' cap := by
    rcases h.own.2 with ⟨hv, _⟩ | ⟨g, cap, cur, hv, _⟩ <;> exact ⟨_, _, _, hv⟩
  obtain ⟨ao, n', cap, rfl⟩ := hs
  go_enter Tryz.func98, Tryz.ntmps98
  go_wp2
  go_returns
  exact ⟨rfl, rfl⟩
set_option maxHeartbeats 4000000 in
set_option maxRecDepth 100000 in
theorem sev_any (C E cap : Nat) (s : ByteArray) (q : Nat × Bool) (xs : List Int) (e : Nat) (w : World) (h : Ct w C E cap s q (xs ++ [(e : Int)])) (hr : xs.length + 2 ≤ cap) (hq : q.1 ≤ e) (he : e ≤ s.size) (hs : s.size ≤ 1048576) (hl : xs.length ≤ 10000) :
    Calls Tryz.prog 67 #[.pointer (some ⟨C, 0, none⟩), .func (.func 66) #[.pointer (some ⟨C, 0, none⟩)] #[]] w fun r w' => ∃ u, r = .returned u ∧ w'.ownsRow w.heap.size 9 1 u (nm s e 1 q).1.toNat ((csn s e (nm s e 1 q).2 (nm s e 1 q).1.toNat).1.map Value.string) ∧ Ct w' C E cap s (csn s e (nm s e 1 q).2 (nm s e 1 q).1.toNat).2 (xs ++ [(e : Int)]) ∧ Kc C E w w' := by
  have hln : (xs ++ [(e : Int)]).length + 1 ≤ cap := by simp; omega
  have hbd := nm_bd (s := s) (k := 1) he hq (by omega)
  have hb1 := nm_bd1 (s := s) he hq
  have hn : (nm s e 1 q).1 = ((nm s e 1 q).1.toNat : Int) := by omega
  have hCl := h.ltC
  have hEl := h.ltE
  go_enter Tryz.func67, Tryz.ntmps67
  go_wp2_with fail
  refine Calls.mono (cnum_any C E cap s q xs e 1 _ (h.below (bex)) hq he (by omega) hs hl) ?_
  rintro r w1 ⟨rfl, hT⟩
  obtain ⟨hC1, hK1⟩ := hT.room hln
  rw [hn]
  have hq1 : (nm s e 1 q).2.1 ≤ e := nm_at hq
  have hm : (nm s e 1 q).1.toNat ≤ 255 := by omega
  have hL1 : Ls w1 w.heap.size w.heap.size (.slice none 0 0) [] := by
    refine ⟨Nat.le_refl _, ?_, ⟨rfl, .inl ⟨rfl, rfl⟩⟩⟩
    refine (hK1.block _ (by simp) (by omega) (by omega)).trans ?_
    exact heap_alloc_new w _
  have hKw : Kc C E w w1 := (Kc.of_below (bex)).trans hK1 (.inl rfl)
  clear hn hT hK1 h
  generalize hN : (nm s e 1 q).1.toNat = n at *
  generalize hQ : (nm s e 1 q).2 = q1 at *
  go_wp2_with fail
  go_loopw [9] (fun i wr => ∃ (k : Nat) (u : Value), k ≤ n ∧ i = .int .i64 k ∧ Ct wr C E cap s (csn s e q1 k).2 (xs ++ [(e : Int)]) ∧ Ls wr w.heap.size w.heap.size u (csn s e q1 k).1 ∧ Kc C E w wr) (fun i _ => n - (intOf i).toNat)
  case atStart => exact ⟨0, _, Nat.zero_le _, rfl, hC1, hL1, hKw⟩
  case round =>
    clear hC1 hL1 hKw
    obtain ⟨k, u, hk, rfl, hC, hL, hK⟩ := hrel
    by_cases hlt : k < n
    · have hqk : (csn s e q1 k).2.1 ≤ e := csn_at hq1 k
      have hcl : (csn s e q1 k).1.length = k := csn_len k
      have HN : Hid (csn s e q1 (k + 1) = ((csn s e q1 k).1 ++ [(tx s e 2 (csn s e q1 k).2).1], (tx s e 2 (csn s e q1 k).2).2)) := rfl
      go_wp2_with (first | (go_at_call 66; with_reducible refine Calls.mono (ctext_any C E cap s _ xs e _ hC hr hqk he hs hl) ?_) | fail)
      rintro r w2 ⟨rfl, hC2, hK2⟩
      have hL2 := hL.kc hK2 hCl hEl
      have hK3 := hK.trans hK2 (.inl rfl)
      have hPlt := hL2.lt
      clear hC hL hK hK2
      generalize (tx s e 2 (csn s e q1 k).2).1 = T at *
      go_wp2_with (first | (go_at_call 97; with_reducible refine Calls.mono (sadd_any w.heap.size w.heap.size u _ T ⟨w2.heap.size, 0, none⟩ _ (hL2.below (bex)) ?cx ?cl) ?_) | fail)
      case cx => rw [Lib.cell_of_heap (heap_alloc_new w2 _)]; rfl
      case cl => omega
      rintro r w3 ⟨rfl, ⟨u3, hL3⟩, hb3⟩
      have hbA : Below w2.heap.size w2 (w2.alloc (.cells #[.string T] 9)) := bex
      have hC3 : Ct w3 C E cap s (csn s e q1 (k + 1)).2 (xs ++ [(e : Int)]) := by
        have h1 := hC2.below hbA
        rw [HN.out]
        exact h1.keep (hb3.block C hCl) (hb3.block E hEl)
      have hK4 : Kc C E w w3 := (hK3.trans (Kc.of_below hbA) (.inl rfl)).above hb3
      have hL4 : Ls w3 w.heap.size w.heap.size u3 (csn s e q1 (k + 1)).1 := by rw [HN.out]; exact hL3
      clear hC2 hL2 hL3 hb3 hbA hK3 HN
      go_wp2_with fail
      exact ⟨⟨k + 1, u3, hlt, by simp, hC3, hL4, hK4⟩, by simp [intOf]; omega⟩
    · obtain rfl : k = n := by omega
      go_wp2_with (first | (go_at_call 98; with_reducible refine Calls.mono (sall_any w.heap.size w.heap.size u _ _ hL) ?_) | fail)
      rintro r w2 ⟨rfl, hw2⟩
      obtain rfl : wr = w2 := hw2.symm
      go_wp2
      go_returns
      have ho := hL.own
      rw [csn_len] at ho
      subst hQ hN
      exact ⟨u, rfl, ho, hC, hK⟩
end Go.Proofs.YtbmoimfimeiglaaGreat
namespace Go.Proofs.YtbmoimfimeiglaaGreat
open Go.RowKit Go.Deep
set_option linter.unusedVariables false
theorem Ct.far {w : World} {C E cap : Nat} {s : ByteArray} {q : Nat × Bool} {xs : List Int} (h : Ct w C E cap s q xs) {b : Nat} (h1 : b ≠ C) (h2 : b ≠ E) (i : Nat) (v : Value) : Ct (w.setCell ⟨b, i, none⟩ v) C E cap s q xs :=
  h.keep (Below.heap_setCell _ _ _ _ (Ne.symm h1)) (Below.heap_setCell _ _ _ _ (Ne.symm h2))
theorem Kc.far {w w' : World} {C E : Nat} (h : Kc C E w w') {b : Nat} (hb : w.heap.size ≤ b) (i : Nat) (u : Value) : Kc C E w (w'.setCell ⟨b, i, none⟩ u) :=
  ⟨h.os, h.tape, h.output, by simpa using h.size, fun k hk h1 h2 => (Below.heap_setCell _ _ _ _ (by intro e; dsimp only at e; omega)).trans (h.block k hk h1 h2)⟩
theorem BagOwn.far {w : World} {N : Nat} {v : Value} {cs : List C2} {us : List Value} {G : List (List Nat)} (h : BagOwn w N v cs us G) {b : Nat} (hb : b < N) (i : Nat) (u : Value) : BagOwn (w.setCell ⟨b, i, none⟩ u) N v cs us G :=
  h.keep (by simp) fun k hk _ => Below.heap_setCell _ _ _ _ (by intro e; dsimp only at e; omega)
set_option maxHeartbeats 4000000 in
set_option maxRecDepth 100000 in
theorem crel_any (C E cap : Nat) (s : ByteArray) (q : Nat × Bool) (xs : List Int) (e : Nat) (w : World) (h : Ct w C E cap s q (xs ++ [(e : Int)])) (hr : xs.length + 2 ≤ cap) (hq : q.1 ≤ e) (he : e ≤ s.size) (hs : s.size ≤ 1048576) (hl : xs.length ≤ 10000) :
    Calls Tryz.prog 69 #[.pointer (some ⟨C, 0, none⟩)] w fun r w' => ∃ u us G, r = .returned (.agg #[.string (rl s e q).1.s, .int .i64 (rl s e q).1.W, u]) ∧ BagOwn w' w.heap.size u (rl s e q).1.cs us G ∧ Ct w' C E cap s (rl s e q).2 (xs ++ [(e : Int)]) ∧ Kc C E w w' := by
  have hln : (xs ++ [(e : Int)]).length + 1 ≤ cap := by simp; omega
  have hCl := h.ltC
  have hEl := h.ltE
  have hq1 : (tx s e 2 q).2.1 ≤ e := tx_at hq
  have hbd := nm_bd (s := s) (k := 4) he hq1 (by omega)
  have hn : (nm s e 4 (tx s e 2 q).2).1 = ((nm s e 4 (tx s e 2 q).2).1.toNat : Int) := by omega
  have hm : (nm s e 4 (tx s e 2 q).2).1.toNat ≤ 4294967296 := by omega
  have hq2 : (nm s e 4 (tx s e 2 q).2).2.1 ≤ e := nm_at hq1
  have hsz : (rlB s e q).1.size ≤ 1048576 := Nat.le_trans (tk_size he (nm_at hq1)) hs
  have HX : Hid (tk s e (nm s e 4 (tx s e 2 q).2).1.toNat (nm s e 4 (tx s e 2 q).2).2 = rlB s e q) := rfl
  have HR : Hid (rl s e q = (⟨(tx s e 2 q).1, aW (rlB s e q).1, aC (rlB s e q).1⟩, ((rlB s e q).2.1, (rlB s e q).2.2 || !aB (rlB s e q).1))) := rfl
  go_enter Tryz.func69, Tryz.ntmps69
  go_wp2_with (first | (go_at_call 66; with_reducible refine Calls.mono (ctext_any C E cap s q xs e _ (h.below (bex)) hr hq he hs hl) ?_) | fail)
  rintro r w1 ⟨rfl, hC1, hK1⟩
  have g0 : w1.cell? ⟨w.heap.size, 0, none⟩ = some (.string ⟨#[]⟩) := (hK1.cell (by simp) (by omega) (by omega)).trans (by rw [Lib.cell_of_heap (heap_alloc_new w _)]; rfl)
  have g1 : w1.cell? ⟨w.heap.size, 1, none⟩ = some (.int .i64 0) := (hK1.cell (by simp) (by omega) (by omega)).trans (by rw [Lib.cell_of_heap (heap_alloc_new w _)]; rfl)
  have g2 : w1.cell? ⟨w.heap.size, 2, none⟩ = some (.slice none 0 0) := (hK1.cell (by simp) (by omega) (by omega)).trans (by rw [Lib.cell_of_heap (heap_alloc_new w _)]; rfl)
  have g3 : ∀ i, w1.frozen? ⟨w.heap.size, i, none⟩ = false := fun i => (hK1.frozen (by simp) (by omega) (by omega)).trans (Lib.frozen_of_heap (heap_alloc_new w _) i)
  have hz1 : w.heap.size < w1.heap.size := by have := hK1.size; simp at this; omega
  have hKw : Kc C E w w1 := (Kc.of_below (bex)).trans hK1 (.inl rfl)
  clear hK1
  generalize (tx s e 2 q).1 = T at *
  generalize hQ1 : (tx s e 2 q).2 = q1 at *
  go_wp2_with fail
  refine Calls.mono (cnum_any C E cap s q1 xs e 4 _ hC1 hq1 he (by omega) hs hl) ?_
  rintro r w2 ⟨rfl, hT⟩
  obtain ⟨hC2, hK2⟩ := hT.room hln
  rw [hn]
  clear hn hT
  generalize hN : (nm s e 4 q1).1.toNat = n at *
  generalize hQ : (nm s e 4 q1).2 = q2 at *
  go_wp2_with fail
  refine Calls.mono (take_any C E cap s q2 xs e n _ hC2 hq2 he hm hs hl) ?_
  rintro r w3 ⟨rfl, hT2⟩
  obtain ⟨hC3, hK3⟩ := hT2.room hln
  rw [HX.out] at hC3 ⊢
  have hK13 := hK2.trans hK3 (.inl rfl)
  clear hT2 hK2 hK3 hC1 hC2
  generalize hB1 : (rlB s e q).1 = B at *
  generalize hB2 : (rlB s e q).2 = q3 at *
  go_wp2_with fail
  refine Calls.mono (implGetBag_any B w3 hsz) ?_
  rintro r w4 ⟨⟨u, us, G, rfl, hBag⟩, hb4⟩
  obtain ⟨a4, c4, rfl⟩ := hBag.shape
  have hK14 := hK13.trans (Kc.of_below hb4) (.inl rfl)
  have hC4 := hC3.below hb4
  have hz4 := hK14.size
  have hz3 := hK13.size
  have hz34 := hb4.size
  have e0 := (hK14.cell (i := 0) hz1 (by omega) (by omega)).trans g0
  have e1 := (hK14.cell (i := 1) hz1 (by omega) (by omega)).trans g1
  have e2 := (hK14.cell (i := 2) hz1 (by omega) (by omega)).trans g2
  have e3 : ∀ i, w4.frozen? ⟨w.heap.size, i, none⟩ = false := fun i => (hK14.frozen hz1 (by omega) (by omega)).trans (g3 i)
  have hKw4 := hKw.trans hK14 (.inl rfl)
  clear hK13 hK14 hC3 hb4 g0 g1 g2 g3 hKw
  obtain ⟨_, _, _, c3, hf⟩ := hC4.cells
  have f3 := hf 3
  have hbw := hBag.weak (M := w.heap.size + 1) (by omega)
  have hC4l : C < w4.heap.size := hC4.ltC
  have hR4l : w.heap.size < w4.heap.size := by omega
  have hCne : w.heap.size ≠ C := by omega
  have hEne : w.heap.size ≠ E := by omega
  obtain ⟨a3, t3⟩ := q3
  dsimp only at c3
  have HF : Hid (∀ b : Bool, BagOwn (((((w4.setCell ⟨C, 3, none⟩ (.bool b)).setCell ⟨w.heap.size, 0, none⟩ (.string T)).setCell ⟨w.heap.size, 1, none⟩ (.int .i64 (aW B))).setCell ⟨w.heap.size, 2, none⟩ (.slice a4 (aC B).length c4)).alloc (.cells #[.int .i64 (aW B), .slice a4 (aC B).length c4] 71)) w.heap.size (.slice a4 (aC B).length c4) (aC B) us G ∧
      Ct (((((w4.setCell ⟨C, 3, none⟩ (.bool b)).setCell ⟨w.heap.size, 0, none⟩ (.string T)).setCell ⟨w.heap.size, 1, none⟩ (.int .i64 (aW B))).setCell ⟨w.heap.size, 2, none⟩ (.slice a4 (aC B).length c4)).alloc (.cells #[.int .i64 (aW B), .slice a4 (aC B).length c4] 71)) C E cap s (a3, b) (xs ++ [(e : Int)]) ∧
      Kc C E w (((((w4.setCell ⟨C, 3, none⟩ (.bool b)).setCell ⟨w.heap.size, 0, none⟩ (.string T)).setCell ⟨w.heap.size, 1, none⟩ (.int .i64 (aW B))).setCell ⟨w.heap.size, 2, none⟩ (.slice a4 (aC B).length c4)).alloc (.cells #[.int .i64 (aW B), .slice a4 (aC B).length c4] 71))) := by
    intro b
    have k1 := ((((hKw4.setCell 3 (.bool b)).far (Nat.le_refl _) 0 (.string T)).far (Nat.le_refl _) 1 (.int .i64 (aW B))).far (Nat.le_refl _) 2 (.slice a4 (aC B).length c4))
    have k2 := ((((hbw.far (by omega : C < w.heap.size + 1) 3 (.bool b)).far (by omega : w.heap.size < w.heap.size + 1) 0 (.string T)).far (by omega : w.heap.size < w.heap.size + 1) 1 (.int .i64 (aW B))).far (by omega : w.heap.size < w.heap.size + 1) 2 (.slice a4 (aC B).length c4))
    have k3 := ((((hC4.torn b).far hCne hEne 0 (.string T)).far hCne hEne 1 (.int .i64 (aW B))).far hCne hEne 2 (.slice a4 (aC B).length c4))
    have ha : ∀ wz : World, Below wz.heap.size wz (wz.alloc (.cells #[.int .i64 (aW B), .slice a4 (aC B).length c4] 71)) := fun wz => (Below.refl _ _).alloc (Nat.le_refl _) _
    exact ⟨(k2.below (ha _)).weak (by omega), k3.below (ha _), k1.trans (Kc.of_below (ha _)) (.inl rfl)⟩
  clear hBag hf hbw hKw4 hC4 h
  cases t3
  · cases hab : aB B
    · go_wp2
      refine bodyPost_ret (v := .agg #[.string T, .int .i64 (aW B), .slice a4 (aC B).length c4]) (by simp [results, Tryz.results69, go_sem, *]) rfl ⟨.slice a4 (aC B).length c4, us, G, by rw [HR.out], by rw [HR.out]; rw [hab]; exact HF.out true⟩
    · go_wp2
      refine bodyPost_ret (v := .agg #[.string T, .int .i64 (aW B), .slice a4 (aC B).length c4]) (by simp [results, Tryz.results69, go_sem, *]) rfl ⟨.slice a4 (aC B).length c4, us, G, by rw [HR.out], by rw [HR.out]; rw [hab]; exact HF.out false⟩
  · go_wp2
    refine bodyPost_ret (v := .agg #[.string T, .int .i64 (aW B), .slice a4 (aC B).length c4]) (by simp [results, Tryz.results69, go_sem, *]) rfl ⟨.slice a4 (aC B).length c4, us, G, by rw [HR.out], by rw [HR.out]; exact HF.out true⟩
end Go.Proofs.YtbmoimfimeiglaaGreat
