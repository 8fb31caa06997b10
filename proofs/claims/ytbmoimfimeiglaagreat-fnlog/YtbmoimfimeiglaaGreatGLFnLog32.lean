/- Own texts, joined: contracts that the law's proof goes by. -/
import Derived.Test.YtbmoimfimeiglaaGreatGLFnLog27
import Derived.Handy
import Derived.Deep.RegionHeld3
import Derived.Test.YtbmoimfimeiglaaGreatGLFnLog31
import Derived.Test.YtbmoimfimeiglaaGreatGLFnLog33
import Derived.Test.YtbmoimfimeiglaaGreatGLFnLog39
import Derived.Test.YtbmoimfimeiglaaGreatGLFnLog26
import Derived.Test.YtbmoimfimeiglaaGreatGLFnLog37
namespace Go.Proofs.YtbmoimfimeiglaaGreat
open Go.RowKit Go.Deep
set_option linter.unusedVariables false
def ps (q : Nat × Bool) : Int := if q.2 = true then -1 else q.1
def gnV (s : ByteArray) (k : Nat) (q : Nat × Bool) : Int := if (nm s s.size k q).2.2 = true then 0 else (nm s s.size k q).1
def gtV (s : ByteArray) (k : Nat) (q : Nat × Bool) : ByteArray := if (tx s s.size k q).2.2 = true then ⟨#[]⟩ else (tx s s.size k q).1
theorem ps_lt {q : Nat × Bool} (h : q.2 = true) : ps q = -1 := by unfold ps; rw [if_pos h]
theorem ps_ge {q : Nat × Bool} (h : q.2 = false) : ps q = q.1 := by unfold ps; rw [if_neg (by rw [h]; decide)]
theorem nm_torn' {s : ByteArray} {e k : Nat} {q : Nat × Bool} (h : q.2 = true) : (nm s e k q).2.2 = true := by
  cases hx : (nm s e k q).2.2 with
  | true => rfl
  | false => have := nm_torn hx; rw [h] at this; cases this
theorem tx_torn' {s : ByteArray} {e k : Nat} {q : Nat × Bool} (h : q.2 = true) : (tx s e k q).2.2 = true := by
  cases hx : (tx s e k q).2.2 with
  | true => rfl
  | false => have := (tx_torn hx).2; rw [h] at this; cases this
theorem be_take {s : ByteArray} {a n : Nat} (h : a + n ≤ s.size) : be (s.extract a (a + n)).data.toList = be ((s.data.toList.drop a).take n) := by
  rw [extract_list, show a + n - a = n by omega]
set_option maxHeartbeats 1000000 in
set_option maxRecDepth 100000 in
theorem l10Num_any (s : ByteArray) (q : Nat × Bool) (k : Nat) (w : World) (hq : q.1 ≤ s.size) (hs : s.size ≤ 1048576) (hk : k ≤ 4) :
    Calls Tryz.prog 29 #[.string s, .int .i64 (ps q), .int .i64 k] w fun e w' => e = .returned (.tuple #[.int .i64 (gnV s k q), .int .i64 (ps (nm s s.size k q).2)]) ∧ w' = w := by
  cases ht : q.2
  · rw [ps_ge ht]
    by_cases hle : q.1 + k ≤ s.size
    · have hT : (tk s s.size k q).2 = (q.1 + k, false) := by unfold tk; rw [if_pos hle, ht]
      have hV : (tk s s.size k q).1 = s.extract q.1 (q.1 + k) := by unfold tk; rw [if_pos hle]
      have e1 : gnV s k q = be ((s.data.toList.drop q.1).take k) := by unfold gnV nm beT; dsimp only; rw [hT, hV, be_take hle]; rfl
      have e2 : ps (nm s s.size k q).2 = ((q.1 + k : Nat) : Int) := by unfold nm; dsimp only; rw [hT]; rfl
      rw [e1, e2]
      generalize q.1 = a at *
      clear e1 e2 hT hV
      have hcmp : ¬ ((s.size : Int) - (a : Int) < (k : Int)) := by omega
      have hneg : ¬ ((a : Int) < 0) := by omega
      have hw2 : wrap64 ((a : Int) + (k : Int)) = ((a + k : Nat) : Int) := by unfold wrap64; omega
      have hk7 : k ≤ 7 := by omega
      go_enter Tryz.func29, Tryz.ntmps29
      go_wp2_with fail
      go_loop [8, 9] (fun x i => ∃ j : Nat, j ≤ k ∧ i = .int .i64 j ∧ x = .int .i64 (be ((s.data.toList.drop a).take j))) (fun _ i => k - (intOf i).toNat)
      case atStart => exact ⟨0, Nat.zero_le _, rfl, rfl⟩
      case round =>
        obtain ⟨j, hj, rfl, rfl⟩ := hrel
        by_cases hlt : j < k
        · have hb := be_bd7 ((s.data.toList.drop a).take j) (by rw [List.length_take]; omega)
          have hb6 := be_bd_aux _ ((s.data.toList.drop a).take j) rfl
          have hsm : be ((s.data.toList.drop a).take j) < 16777216 := by
            have hl3 : ((s.data.toList.drop a).take j).length ≤ 3 := by rw [List.length_take]; omega
            have h4 : (256 : Int) ^ ((s.data.toList.drop a).take j).length ≤ 16777216 := by
              generalize ((s.data.toList.drop a).take j).length = m at *
              match m, hl3 with
              | 0, _ => decide
              | 1, _ => decide
              | 2, _ => decide
              | 3, _ => decide
            omega
          have hi : a + j < s.size := by omega
          have hstep : Hid (256 * be ((s.data.toList.drop a).take j) + (s[a + j].toNat : Int) = be ((s.data.toList.drop a).take (j + 1))) := by
            show _ = _
            rw [List.take_succ_eq_append_getElem (by simp; omega), be_snoc, List.getElem_drop]
            rfl
          have hbt := s[a + j].toNat_lt
          generalize be ((s.data.toList.drop a).take j) = B at *
          have hw3 : wrap64 (256 * B) = 256 * B := by unfold wrap64; omega
          have hw4 : wrap64 ((a : Int) + (j : Int)) = ((a + j : Nat) : Int) := by unfold wrap64; omega
          go_wp2
          exact ⟨⟨j + 1, by omega, by go_num, by rw [← hstep.out]⟩, by simp [intOf]; omega⟩
        · obtain rfl : j = k := by omega
          go_wp2
          go_returns
          exact ⟨by congr 3, rfl⟩
    · have hT : (nm s s.size k q).2.2 = true := by unfold nm tk; rw [if_neg hle]
      have e1 : gnV s k q = 0 := by unfold gnV; rw [if_pos hT]
      have e2 : ps (nm s s.size k q).2 = -1 := ps_lt hT
      rw [e1, e2]
      generalize q.1 = a at *
      clear e1 e2 hT
      have hcmp : ((s.size : Int) - (a : Int) < (k : Int)) := by omega
      have hneg : ¬ ((a : Int) < 0) := by omega
      go_enter Tryz.func29, Tryz.ntmps29
      go_wp2
      go_returns
      exact ⟨rfl, rfl⟩
  · have hT : (nm s s.size k q).2.2 = true := nm_torn' ht
    have e1 : gnV s k q = 0 := by unfold gnV; rw [if_pos hT]
    have e2 : ps (nm s s.size k q).2 = -1 := ps_lt hT
    rw [e1, e2, ps_lt ht]
    clear e1 e2 hT
    go_enter Tryz.func29, Tryz.ntmps29
    go_wp2
    go_returns
    exact ⟨rfl, rfl⟩
theorem gnV_bd (s : ByteArray) (q : Nat × Bool) (k : Nat) (hq : q.1 ≤ s.size) (hk : k ≤ 4) : 0 ≤ gnV s k q ∧ gnV s k q < 4294967296 := by
  unfold gnV
  split
  · omega
  · exact nm_bd (Nat.le_refl _) hq hk
set_option maxHeartbeats 1000000 in
set_option maxRecDepth 100000 in
theorem l10Get_any (s : ByteArray) (q : Nat × Bool) (k : Nat) (w : World) (hq : q.1 ≤ s.size) (hs : s.size ≤ 1048576) (hk : k ≤ 4) :
    Calls Tryz.prog 36 #[.string s, .int .i64 (ps q), .int .i64 k] w fun e w' => e = .returned (.tuple #[.string (gtV s k q), .int .i64 (ps (tx s s.size k q).2)]) ∧ w' = w := by
  have hbd := gnV_bd s q k hq hk
  have hq1 : (nm s s.size k q).2.1 ≤ s.size := nm_at hq
  cases ht : (nm s s.size k q).2.2
  · have hp : ps (nm s s.size k q).2 = ((nm s s.size k q).2.1 : Int) := ps_ge ht
    have hv : gnV s k q = (nm s s.size k q).1 := by unfold gnV; rw [if_neg (by rw [ht]; decide)]
    by_cases hle : (nm s s.size k q).2.1 + (nm s s.size k q).1.toNat ≤ s.size
    · have e1 : tx s s.size k q = (s.extract (nm s s.size k q).2.1 ((nm s s.size k q).2.1 + (nm s s.size k q).1.toNat), ((nm s s.size k q).2.1 + (nm s s.size k q).1.toNat, false)) := by unfold tx tk; rw [if_pos hle, ht]
      have e2 : gtV s k q = s.extract (nm s s.size k q).2.1 ((nm s s.size k q).2.1 + (nm s s.size k q).1.toNat) := by unfold gtV; rw [e1]; rfl
      have e3 : ps (tx s s.size k q).2 = (((nm s s.size k q).2.1 + (nm s s.size k q).1.toNat : Nat) : Int) := by rw [e1]; rfl
      rw [e2, e3]
      have hn : gnV s k q = ((nm s s.size k q).1.toNat : Int) := by omega
      have hC := l10Num_any s q k w hq hs hk
      rw [hn, hp] at hC
      clear e1 e2 e3 hp hv hn hbd
      generalize (nm s s.size k q).1.toNat = n at *
      generalize (nm s s.size k q).2.1 = a at *
      have hcmp : ¬ ((s.size : Int) - (a : Int) < (n : Int)) := by omega
      have hneg : ¬ ((a : Int) < 0) := by omega
      have hw2 : wrap64 ((a : Int) + (n : Int)) = ((a + n : Nat) : Int) := by unfold wrap64; omega
      go_enter Tryz.func36, Tryz.ntmps36
      go_wp2_with fail
      refine Calls.mono hC ?_
      rintro e w1 ⟨rfl, hw1⟩
      obtain rfl : w = w1 := hw1.symm
      clear hC
      go_wp2
      go_returns
      first | exact ⟨rfl, rfl⟩ | exact ⟨by congr 3, rfl⟩
    · have hT : (tx s s.size k q).2.2 = true := by unfold tx tk; rw [if_neg hle]
      have e2 : gtV s k q = ⟨#[]⟩ := by unfold gtV; rw [if_pos hT]
      rw [e2, ps_lt hT]
      have hn : gnV s k q = ((nm s s.size k q).1.toNat : Int) := by omega
      have hC := l10Num_any s q k w hq hs hk
      rw [hn, hp] at hC
      clear e2 hp hv hn hbd hT
      generalize (nm s s.size k q).1.toNat = n at *
      generalize (nm s s.size k q).2.1 = a at *
      have hcmp : ((s.size : Int) - (a : Int) < (n : Int)) := by omega
      have hneg : ¬ ((a : Int) < 0) := by omega
      go_enter Tryz.func36, Tryz.ntmps36
      go_wp2_with fail
      refine Calls.mono hC ?_
      rintro e w1 ⟨rfl, hw1⟩
      obtain rfl : w = w1 := hw1.symm
      clear hC
      go_wp2
      go_returns
      exact ⟨rfl, rfl⟩
  · have hT : (tx s s.size k q).2.2 = true := by
      cases hx : (tx s s.size k q).2.2 with
      | true => rfl
      | false => have := (tx_torn hx).1; rw [ht] at this; cases this
    have e2 : gtV s k q = ⟨#[]⟩ := by unfold gtV; rw [if_pos hT]
    rw [e2, ps_lt hT]
    have hn : gnV s k q = 0 := by unfold gnV; rw [if_pos ht]
    have hC := l10Num_any s q k w hq hs hk
    rw [hn, ps_lt ht] at hC
    clear e2 hn hbd hT
    go_enter Tryz.func36, Tryz.ntmps36
    go_wp2_with fail
    refine Calls.mono hC ?_
    rintro e w1 ⟨rfl, hw1⟩
    obtain rfl : w = w1 := hw1.symm
    clear hC
    go_wp2
    go_returns
    exact ⟨rfl, rfl⟩
end Go.Proofs.YtbmoimfimeiglaaGreat
namespace Go.Proofs.YtbmoimfimeiglaaGreat
open Go.RowKit
set_option linter.unusedVariables false
section
variable (s : ByteArray) (a : Nat)
def lA : Int × (Nat × Bool) := nm s s.size 4 (a, false)
def lB : Int × (Nat × Bool) := nm s s.size 4 (lA s a).2
def lQ : Nat × Bool := enQ s.size (lA s a).1.toNat (lB s a).2
def lE : Nat := enX s.size (lA s a).1.toNat (lB s a).2
def lT : ByteArray := s.extract (lQ s a).1 (lE s a)
def okI : Bool := ((sumB (lT s a) : Int) == (lB s a).1) && sO s (lE s a) (lQ s a)
def okM : Bool := !(lB s a).2.2 && decide ((lB s a).2.1 + (lA s a).1.toNat ≤ s.size) && ((sumB (s.extract (lB s a).2.1 ((lB s a).2.1 + (lA s a).1.toNat)) : Int) == (lB s a).1) && gO (s.extract (lB s a).2.1 ((lB s a).2.1 + (lA s a).1.toNat))
end
theorem lB_at {s : ByteArray} {a : Nat} (h : a ≤ s.size) : (lB s a).2.1 ≤ s.size := nm_at (nm_at h)
theorem lA_bd {s : ByteArray} {a : Nat} (h : a ≤ s.size) : 0 ≤ (lA s a).1 ∧ (lA s a).1 < 4294967296 := nm_bd (Nat.le_refl _) h (by omega)
theorem lB_bd {s : ByteArray} {a : Nat} (h : a ≤ s.size) : 0 ≤ (lB s a).1 ∧ (lB s a).1 < 4294967296 := nm_bd (Nat.le_refl _) (nm_at h) (by omega)
theorem lE_at {s : ByteArray} {a : Nat} (h : a ≤ s.size) : (lQ s a).1 = (lB s a).2.1 ∧ (lQ s a).1 ≤ lE s a ∧ lE s a ≤ s.size := by
  have := lB_at h
  unfold lQ lE enQ enX
  split <;> refine ⟨rfl, ?_, ?_⟩ <;> (try dsimp only) <;> omega
theorem ok_same {s : ByteArray} {a : Nat} (h : a ≤ s.size) : okI s a = okM s a ∧ (okM s a = true → sX s (lE s a) (lQ s a) = gT (s.extract (lB s a).2.1 ((lB s a).2.1 + (lA s a).1.toNat)) ∧ lE s a = (lB s a).2.1 + (lA s a).1.toNat) := by
  have hb := lB_at h
  unfold okI okM lT
  by_cases hle : (lB s a).2.1 + (lA s a).1.toNat ≤ s.size
  · have eQ : lQ s a = (lB s a).2 := by unfold lQ enQ; rw [if_pos hle]
    have eE : lE s a = (lB s a).2.1 + (lA s a).1.toNat := by unfold lE enX; rw [if_pos hle]
    rw [eQ, eE, decide_eq_true hle]
    cases ht : (lB s a).2.2 with
    | true =>
      rw [torn_no ht]
      simp
    | false =>
      have e2 : (lB s a).2 = ((lB s a).2.1, false) := by rw [← ht]
      obtain ⟨h1, h2⟩ := part_sh (s := s) (a := (lB s a).2.1) (e := (lB s a).2.1 + (lA s a).1.toNat) hle (by omega)
      rw [e2]
      dsimp only
      rw [h2]
      refine ⟨by simp, fun hk => ⟨?_, rfl⟩⟩
      rw [h1]
      have hg : gO (s.extract (lB s a).2.1 ((lB s a).2.1 + (lA s a).1.toNat)) = true := by
        simp only [Bool.and_eq_true] at hk; exact hk.2
      exact (if_pos (show sO _ _ _ = true from hg)).symm
  · have eQ : (lQ s a).2 = true := by unfold lQ enQ; rw [if_neg hle]
    rw [torn_no eQ, decide_eq_false hle]
    simp
def rdL (s : ByteArray) : Nat → Nat → List T5 × Nat
  | 0, a => ([], a)
  | k + 1, a => if okM s a = true then (gT (s.extract (lB s a).2.1 ((lB s a).2.1 + (lA s a).1.toNat)) :: (rdL s k ((lB s a).2.1 + (lA s a).1.toNat)).1, (rdL s k ((lB s a).2.1 + (lA s a).1.toNat)).2) else ([], a)
end Go.Proofs.YtbmoimfimeiglaaGreat
namespace Go.Proofs.YtbmoimfimeiglaaGreat
open Go.RowKit
set_option linter.unusedVariables false
def lN (s : ByteArray) (a : Nat) : Nat := (lB s a).2.1 + (lA s a).1.toNat
def lX (s : ByteArray) (a : Nat) : T5 := gT (s.extract (lB s a).2.1 (lN s a))
theorem tk_ge {s : ByteArray} {e n : Nat} {q : Nat × Bool} : q.1 ≤ (tk s e n q).2.1 := by
  unfold tk
  split <;> simp
theorem okM_at {s : ByteArray} {a : Nat} (h : okM s a = true) : a < lN s a ∧ lN s a ≤ s.size ∧ (lB s a).2.2 = false := by
  unfold okM at h
  simp only [Bool.and_eq_true, Bool.not_eq_true', decide_eq_true_eq] at h
  refine ⟨?_, h.1.1.2, h.1.1.1⟩
  have h1 : a ≤ (lA s a).2.1 := tk_ge (s := s) (e := s.size) (n := 4) (q := (a, false))
  have h2 := h.1.1.1
  unfold lN
  unfold lB nm tk at h2 ⊢
  split at h2
  · rename_i hle
    rw [if_pos hle]
    dsimp only
    omega
  · cases h2
theorem rdL_no {s : ByteArray} {a : Nat} (h : okM s a = false) (k : Nat) : rdL s k a = ([], a) := by
  cases k with
  | zero => rfl
  | succ k => rw [rdL, if_neg (by rw [h]; decide)]
theorem rdL_yes {s : ByteArray} {a : Nat} (h : okM s a = true) (k : Nat) : rdL s (k + 1) a = (lX s a :: (rdL s k (lN s a)).1, (rdL s k (lN s a)).2) := by
  rw [rdL, if_pos h]
  rfl
def rlT (s : ByteArray) : List T5 := if s.size ≤ 100000 then (rdL s s.size 0).1 else []
def rlE (s : ByteArray) : Nat := if s.size ≤ 100000 then (rdL s s.size 0).2 else 0
structure RlInv (s : ByteArray) (k a : Nat) (ts : List T5) : Prop where
  all : ts ++ (rdL s k a).1 = (rdL s s.size 0).1
  fin : (rdL s k a).2 = (rdL s s.size 0).2
  le : s.size ≤ a + k
  at' : a ≤ s.size
  len : ts.length ≤ a
theorem RlInv.start (s : ByteArray) : RlInv s s.size 0 [] := ⟨rfl, rfl, by omega, by omega, by simp⟩
theorem RlInv.next {s : ByteArray} {k a : Nat} {ts : List T5} (h : RlInv s k a ts) (ho : okM s a = true) : ∃ k', RlInv s k' (lN s a) (ts ++ [lX s a]) := by
  obtain ⟨h1, h2, h3⟩ := okM_at ho
  have hl := h.le
  have hn := h.len
  cases k with
  | zero => omega
  | succ k =>
    have e := rdL_yes ho k
    have ha := h.all
    have hf := h.fin
    rw [e] at ha hf
    exact ⟨k, by rw [← ha]; simp, hf, by omega, h2, by simp; omega⟩
theorem RlInv.stop {s : ByteArray} {k a : Nat} {ts : List T5} (h : RlInv s k a ts) (ho : okM s a = false) : ts = (rdL s s.size 0).1 ∧ a = (rdL s s.size 0).2 := by
  have ha := h.all
  have hf := h.fin
  rw [rdL_no ho] at ha hf
  exact ⟨by rw [← ha]; simp, hf⟩
theorem sO_at {s : ByteArray} {e : Nat} {q : Nat × Bool} (h : sO s e q = true) : sT s e q = false ∧ (sE s e q).2.1 = e := by
  unfold sO at h
  rw [Bool.and_eq_true] at h
  have h1 : sT s e q = false := by simpa using h.1
  refine ⟨h1, ?_⟩
  unfold sT at h1
  simp at h1
  exact h1.2
end Go.Proofs.YtbmoimfimeiglaaGreat
namespace Go.Proofs.YtbmoimfimeiglaaGreat
open Go.RowKit Go.Deep
set_option linter.unusedVariables false
section
variable {s : ByteArray} {e : Nat} {q : Nat × Bool}
theorem csn_late : ∀ {k d : Nat}, (csn s e q k).2.2 = true → (csn s e q (k + d)).2.2 = true
  | k, 0, h => h
  | k, d + 1, h => tx_torn' (q := (csn s e q (k + d)).2) (csn_late (d := d) h)
theorem rl_torn' (h : q.2 = true) : (rl s e q).2.2 = true := by
  cases hx : (rl s e q).2.2 with
  | true => rfl
  | false => have := (rl_torn hx).2.2.1; rw [h] at this; cases this
theorem rln_late : ∀ {k d : Nat}, (rln s e q k).2.2 = true → (rln s e q (k + d)).2.2 = true
  | k, 0, h => h
  | k, d + 1, h => rl_torn' (q := (rln s e q (k + d)).2) (rln_late (d := d) h)
theorem ps_rl (hb : aB (gtV s 4 (tx s s.size 2 q).2) = true) : ps (rlB s s.size q).2 = ps (rl s s.size q).2 := by
  cases ht : (rlB s s.size q).2.2 with
  | true =>
    have : (rl s s.size q).2.2 = true := by unfold rl; simp [ht]
    rw [ps_lt ht, ps_lt this]
  | false =>
    have e1 : gtV s 4 (tx s s.size 2 q).2 = (rlB s s.size q).1 := by unfold gtV; rw [if_neg]; rfl; intro h; rw [show (tx s s.size 4 (tx s s.size 2 q).2).2.2 = (rlB s s.size q).2.2 from rfl, ht] at h; cases h
    rw [e1] at hb
    have : (rl s s.size q).2 = ((rlB s s.size q).2.1, false) := by unfold rl; simp [ht, hb]
    rw [ps_ge ht, this]; rfl
theorem rl_eq (ht : (rl s s.size q).2.2 = false) : (⟨gtV s 2 q, aW (gtV s 4 (tx s s.size 2 q).2), aC (gtV s 4 (tx s s.size 2 q).2)⟩ : R3) = (rl s s.size q).1 := by
  obtain ⟨h1, h2, h3, h4⟩ := rl_torn ht
  have e1 : gtV s 4 (tx s s.size 2 q).2 = (rlB s s.size q).1 := by unfold gtV; rw [if_neg]; rfl; intro h; rw [show (tx s s.size 4 (tx s s.size 2 q).2).2.2 = (rlB s s.size q).2.2 from rfl, h1] at h; cases h
  have e2 : gtV s 2 q = (tx s s.size 2 q).1 := by unfold gtV; rw [if_neg (by rw [h2]; decide)]
  rw [e1, e2]; rfl
theorem rl_bad (hb : aB (gtV s 4 (tx s s.size 2 q).2) = false) : (rl s s.size q).2.2 = true := by
  cases ht : (rl s s.size q).2.2 with
  | true => rfl
  | false =>
    obtain ⟨h1, h2, h3, h4⟩ := rl_torn ht
    have e1 : gtV s 4 (tx s s.size 2 q).2 = (rlB s s.size q).1 := by unfold gtV; rw [if_neg]; rfl; intro h; rw [show (tx s s.size 4 (tx s s.size 2 q).2).2.2 = (rlB s s.size q).2.2 from rfl, h1] at h; cases h
    rw [e1, h4] at hb; cases hb
end
end Go.Proofs.YtbmoimfimeiglaaGreat
