/- Own texts, joined: contracts that the law's proof goes by. -/
import Derived.Test.YtbmoimfimeiglaaGreatGLFnLog27
import Derived.Handy
import Derived.Deep.RegionHeld3
import Derived.Test.YtbmoimfimeiglaaGreatGLFnLog26
import Derived.Test.YtbmoimfimeiglaaGreatGLFnLog7
import Derived.Test.YtbmoimfimeiglaaGreatGLFnLog41
import Derived.Test.YtbmoimfimeiglaaGreatGLFnLog37
namespace Go.Proofs.YtbmoimfimeiglaaGreat
open Go.RowKit Go.Deep
set_option linter.unusedVariables false
def ps (q : Nat × Bool) : Int := if q.2 = true then -1 else q.1
def gnV (s : ByteArray) (k : Nat) (q : Nat × Bool) : Int := if (nm s s.size k q).2.2 = true then 0 else (nm s s.size k q).1
def gtV (s : ByteArray) (k : Nat) (q : Nat × Bool) : ByteArray := if (tx s s.size k q).2.2 = true then ⟨#[]⟩ else (tx s s.size k q).1
theorem ps_lt {q : Nat × Bool} (h : q.2 = true) : ps q = -1 := by unfold ps; rw [if_pos h]
theorem ps_ge {q : Nat × Bool} (h : q.2 = false) : ps q = q.1 := by unfold ps; rw [if_neg (by rw [h]; decide)]
theorem nm_torn' {s : ByteArray} {e k : Nat} {q : Nat × Bool} (h : q.2 = true) : (nm s e k q).2.2 = true := by
  cases hx : (nm s e k q).2.2 with
  | true => rfl
  | false => have := nm_torn hx; rw [h] at this; cases this
theorem tx_torn' {s : ByteArray} {e k : Nat} {q : Nat × Bool} (h : q.2 = true) : (tx s e k q).2.2 = true := by
  cases hx : (tx s e k q).2.2 with
  | true => rfl
  | false => have := (tx_torn hx).2; rw [h] at this; cases this
theorem be_take {s : ByteArray} {a n : Nat} (h : a + n ≤ s.size) : be (s.extract a (a + n)).data.toList = be ((s.data.toList.drop a).take n) := by
  rw [extract_list, show a + n - a = n by omega]
set_option maxHeartbeats 1000000 in
set_option maxRecDepth 100000 in
theorem l10Num_any (s : ByteArray) (q : Nat × Bool) (k : Nat) (w : World) (hq : q.1 ≤ s.size) (hs : s.size ≤ 1048576) (hk : k ≤ 4) :
    Calls Tryz.prog 29 #[.string s, .int .i64 (ps q), .int .i64 k] w fun e w' => e = .returned (.tuple #[.int .i64 (gnV s k q), .int .i64 (ps (nm s s.size k q).2)]) ∧ w' = w := by
  cases ht : q.2
  · rw [ps_ge ht]
    by_cases hle : q.1 + k ≤ s.size
    · have hT : (tk s s.size k q).2 = (q.1 + k, false) := by unfold tk; rw [if_pos hle, ht]
      have hV : (tk s s.size k q).1 = s.extract q.1 (q.1 + k) := by unfold tk; rw [if_pos hle]
      have e1 : gnV s k q = be ((s.data.toList.drop q.1).take k) := by unfold gnV nm beT; dsimp only; rw [hT, hV, be_take hle]; rfl
      have e2 : ps (nm s s.size k q).2 = ((q.1 + k : Nat) : Int) := by unfold nm; dsimp only; rw [hT]; rfl
      rw [e1, e2]
      generalize q.1 = a at *
      clear e1 e2 hT hV
      have hcmp : ¬ ((s.size : Int) - (a : Int) < (k : Int)) := by omega
      have hneg : ¬ ((a : Int) < 0) := by omega
      have hw2 : wrap64 ((a : Int) + (k : Int)) = ((a + k : Nat) : Int) := by unfold wrap64; omega
      have hk7 : k ≤ 7 := by omega
      go_enter Tryz.func29, Tryz.ntmps29
      go_wp2_with fail
      go_loop [8, 9] (fun x i => ∃ j : Nat, j ≤ k ∧ i = .int .i64 j ∧ x = .int .i64 (be ((s.data.toList.drop a).take j))) (fun _ i => k - (intOf i).toNat)
      case atStart => exact ⟨0, Nat.zero_le _, rfl, rfl⟩
      case round =>
        obtain ⟨j, hj, rfl, rfl⟩ := hrel
        by_cases hlt : j < k
        · have hb := be_bd7 ((s.data.toList.drop a).take j) (by rw [List.length_take]; omega)
          have hb6 := be_bd_aux _ ((s.data.toList.drop a).take j) rfl
          have hsm : be ((s.data.toList.drop a).take j) < 16777216 := by
            have hl3 : ((s.data.toList.drop a).take j).length ≤ 3 := by rw [List.length_take]; omega
            have h4 : (256 : Int) ^ ((s.data.toList.drop a).take j).length ≤ 16777216 := by
              generalize ((s.data.toList.drop a).take j).length = m at *
              match m, hl3 with
              | 0, _ => decide
              | 1, _ => decide
              | 2, _ => decide
              | 3, _ => decide
            omega
          have hi : a + j < s.size := by omega
          have hstep : Hid (256 * be ((s.data.toList.drop a).take j) + (s[a + j].toNat : Int) = be ((s.data.toList.drop a).take (j + 1))) := by
            show _ = _
            rw [List.take_succ_eq_append_getElem (by simp; omega), be_snoc, List.getElem_drop]
            rfl
          have hbt := s[a + j].toNat_lt
          generalize be ((s.data.toList.drop a).take j) = B at *
          have hw3 : wrap64 (256 * B) = 256 * B := by unfold wrap64; omega
          have hw4 : wrap64 ((a : Int) + (j : Int)) = ((a + j : Nat) : Int) := by unfold wrap64; omega
          go_wp2
          exact ⟨⟨j + 1, by omega, by go_num, by rw [← hstep.out]⟩, by simp [intOf]; omega⟩
        · obtain rfl : j = k := by omega
          go_wp2
          go_returns
          exact ⟨by congr 3, rfl⟩
    · have hT : (nm s s.size k q).2.2 = true := by unfold nm tk; rw [if_neg hle]
      have e1 : gnV s k q = 0 := by unfold gnV; rw [if_pos hT]
      have e2 : ps (nm s s.size k q).2 = -1 := ps_lt hT
      rw [e1, e2]
      generalize q.1 = a at *
      clear e1 e2 hT
      have hcmp : ((s.size : Int) - (a : Int) < (k : Int)) := by omega
      have hneg : ¬ ((a : Int) < 0) := by omega
      go_enter Tryz.func29, Tryz.ntmps29
      go_wp2
      go_returns
      exact ⟨rfl, rfl⟩
  · have hT : (nm s s.size k q).2.2 = true := nm_torn' ht
    have e1 : gnV s k q = 0 := by unfold gnV; rw [if_pos hT]
    have e2 : ps (nm s s.size k q).2 = -1 := ps_lt hT
    rw [e1, e2, ps_lt ht]
    clear e1 e2 hT
    go_enter Tryz.func29, Tryz.ntmps29
    go_wp2
    go_returns
    exact ⟨rfl, rfl⟩
theorem gnV_bd (s : ByteArray) (q : Nat × Bool) (k : Nat) (hq : q.1 ≤ s.size) (hk : k ≤ 4) : 0 ≤ gnV s k q ∧ gnV s k q < 4294967296 := by
  unfold gnV
  split
  · omega
  · exact nm_bd (Nat.le_refl _) hq hk
set_option maxHeartbeats 1000000 in
set_option maxRecDepth 100000 in
theorem l10Get_any (s : ByteArray) (q : Nat × Bool) (k : Nat) (w : World) (hq : q.1 ≤ s.size) (hs : s.size ≤ 1048576) (hk : k ≤ 4) :
    Calls Tryz.prog 36 #[.string s, .int .i64 (ps q), .int .i64 k] w fun e w' => e = .returned (.tuple #[.string (gtV s k q), .int .i64 (ps (tx s s.size k q).2)]) ∧ w' = w := by
  have hbd := gnV_bd s q k hq hk
  have hq1 : (nm s s.size k q).2.1 ≤ s.size := nm_at hq
  cases ht : (nm s s.size k q).2.2
  · have hp : ps (nm s s.size k q).2 = ((nm s s.size k q).2.1 : Int) := ps_ge ht
    have hv : gnV s k q = (nm s s.size k q).1 := by unfold gnV; rw [if_neg (by rw [ht]; decide)]
    by_cases hle : (nm s s.size k q).2.1 + (nm s s.size k q).1.toNat ≤ s.size
    · have e1 : tx s s.size k q = (s.extract (nm s s.size k q).2.1 ((nm s s.size k q).2.1 + (nm s s.size k q).1.toNat), ((nm s s.size k q).2.1 + (nm s s.size k q).1.toNat, false)) := by unfold tx tk; rw [if_pos hle, ht]
      have e2 : gtV s k q = s.extract (nm s s.size k q).2.1 ((nm s s.size k q).2.1 + (nm s s.size k q).1.toNat) := by unfold gtV; rw [e1]; rfl
      have e3 : ps (tx s s.size k q).2 = (((nm s s.size k q).2.1 + (nm s s.size k q).1.toNat : Nat) : Int) := by rw [e1]; rfl
      rw [e2, e3]
      have hn : gnV s k q = ((nm s s.size k q).1.toNat : Int) := by omega
      have hC := l10Num_any s q k w hq hs hk
      rw [hn, hp] at hC
      clear e1 e2 e3 hp hv hn hbd
      generalize (nm s s.size k q).1.toNat = n at *
      generalize (nm s s.size k q).2.1 = a at *
      have hcmp : ¬ ((s.size : Int) - (a : Int) < (n : Int)) := by omega
      have hneg : ¬ ((a : Int) < 0) := by omega
      have hw2 : wrap64 ((a : Int) + (n : Int)) = ((a + n : Nat) : Int) := by unfold wrap64; omega
      go_enter Tryz.func36, Tryz.ntmps36
      go_wp2_with fail
      refine Calls.mono hC ?_
      rintro e w1 ⟨rfl, hw1⟩
      obtain rfl : w = w1 := hw1.symm
      clear hC
      go_wp2
      go_returns
      first | exact ⟨rfl, rfl⟩ | exact ⟨by congr 3, rfl⟩
    · have hT : (tx s s.size k q).2.2 = true := by unfold tx tk; rw [if_neg hle]
      have e2 : gtV s k q = ⟨#[]⟩ := by unfold gtV; rw [if_pos hT]
      rw [e2, ps_lt hT]
      have hn : gnV s k q = ((nm s s.size k q).1.toNat : Int) := by omega
      have hC := l10Num_any s q k w hq hs hk
      rw [hn, hp] at hC
      clear e2 hp hv hn hbd hT
      generalize (nm s s.size k q).1.toNat = n at *
      generalize (nm s s.size k q).2.1 = a at *
      have hcmp : ((s.size : Int) - (a : Int) < (n : Int)) := by omega
      have hneg : ¬ ((a : Int) < 0) := by omega
      go_enter Tryz.func36, Tryz.ntmps36
      go_wp2_with fail
      refine Calls.mono hC ?_
      rintro e w1 ⟨rfl, hw1⟩
      obtain rfl : w = w1 := hw1.symm
      clear hC
      go_wp2
      go_returns
      exact ⟨rfl, rfl⟩
  · have hT : (tx s s.size k q).2.2 = true := by
      cases hx : (tx s s.size k q).2.2 with
      | true => rfl
      | false => have := (tx_torn hx).1; rw [ht] at this; cases this
    have e2 : gtV s k q = ⟨#[]⟩ := by unfold gtV; rw [if_pos hT]
    rw [e2, ps_lt hT]
    have hn : gnV s k q = 0 := by unfold gnV; rw [if_pos ht]
    have hC := l10Num_any s q k w hq hs hk
    rw [hn, ps_lt ht] at hC
    clear e2 hn hbd hT
    go_enter Tryz.func36, Tryz.ntmps36
    go_wp2_with fail
    refine Calls.mono hC ?_
    rintro e w1 ⟨rfl, hw1⟩
    obtain rfl : w = w1 := hw1.symm
    clear hC
    go_wp2
    go_returns
    exact ⟨rfl, rfl⟩
end Go.Proofs.YtbmoimfimeiglaaGreat
namespace Go.Proofs.YtbmoimfimeiglaaGreat
open Go.RowKit Go.Deep
set_option linter.unusedVariables false
theorem valsJ_late (s : ByteArray) (j : Int) : ∀ (d q : Nat), valsJ s q j < 0 → valsJ s (q + d) j < 0
  | 0, _, h => h
  | d + 1, q, h => by rw [← Nat.add_assoc, valsJ_succ, tJ_neg s _ (valsJ_late s j d q h)]; decide
theorem run_stop (s : ByteArray) (W : Nat) (n : Nat) (i : Int) (cs : List C2) (h : ¬ (i < s.size ∧ cs.length ≤ 400)) : run s W n i cs = some cs := by
  cases n with
  | zero => rfl
  | succ n => rw [run, if_neg h]
set_option maxHeartbeats 4000000 in
set_option maxRecDepth 100000 in
theorem specGetBag_any (s : ByteArray) (w : World) (hs : s.size ≤ 1048576) :
    Calls Tryz.prog 37 #[.string s] w fun e w' => (∃ u us G, e = .returned (.tuple #[.agg #[.int .i64 (aW s), u], .bool (aB s)]) ∧ BagOwn w' w.heap.size u (aC s) us G) ∧ Below w.heap.size w w' := by
  obtain ⟨i0, hi0, hz0, hz1, hz2⟩ := info_parts Tryz.infoCnt
  obtain ⟨i1, hi1, hv0, hv1, hv2⟩ := info_parts Tryz.infoVal
  by_cases hz : s.size = 0
  · have hA := ans_none (s := s) (by unfold ansB; rw [if_pos hz])
    have hnil : s.toList = [] := by rw [ByteArray.toList_eq]; exact List.eq_nil_of_length_eq_zero (by simpa using hz)
    have hs0 : s = ⟨#[]⟩ := by
      apply ByteArray.ext
      exact Array.eq_empty_of_size_eq_zero hz
    rw [hA.1, hA.2.1, hA.2.2]
    clear hA
    subst hs0
    go_enter Tryz.func37, Tryz.ntmps37
    go_wp2_with fail
    refine bodyPost_ret (v := .tuple #[.agg #[.int .i64 0, .slice none 0 0], .bool false]) (by simp [results, Tryz.results37, go_sem, *]) rfl ⟨⟨_, [], [], rfl, BagOwn.nil _ _⟩, bex⟩
  have hpos : 0 < s.size := by omega
  have hposI : (0 : Int) < s.size := by omega
  have hne : s.toList.isEmpty = false := by
    rw [ByteArray.toList_eq]
    have : s.data.toList.length ≠ 0 := by simpa using hz
    cases h : s.data.toList with
    | nil => rw [h] at this; simp at this
    | cons a l => rfl
  have hW : bAt s 0 ≤ 255 := by have := bAt_lt s 0; omega
  have e64 : wrap64 (s[0].toNat : Int) = (bAt s 0 : Nat) := by rw [wrap64_byte, bAt_eq s 0 hpos]
  have hA : ansB s = resS s := by unfold ansB; rw [if_neg hz, res_same s hpos]
  by_cases h12 : bAt s 0 ≤ 12
  rotate_left
  · have h12I : (12 : Int) < (bAt s 0 : Nat) := by omega
    have HN : Hid (ansB s = none) := by
      show ansB s = none
      rw [hA]; unfold resS; rw [if_neg h12]
    clear hA h12
    go_enter Tryz.func37, Tryz.ntmps37
    go_wp2_with fail
    refine bodyPost_ret (v := .tuple #[.agg #[.int .i64 0, .slice none 0 0], .bool false]) (by simp [results, Tryz.results37, go_sem, *]) rfl ⟨⟨_, [], [], by rw [(ans_none HN.out).1, (ans_none HN.out).2.2], by rw [(ans_none HN.out).2.1]; exact BagOwn.nil _ _⟩, bex⟩
  have h12I : decide ((12 : Int) < (bAt s 0 : Nat)) = false := by simp; omega
  have HRS : Hid (ansB s = match run s (bAt s 0) (s.size + 1) 1 [] with | none => none | some cs => if putB (bAt s 0) cs = s then some cs else none) := by
    show ansB s = _
    rw [hA]; unfold resS; rw [if_pos h12]
    generalize run s (bAt s 0) (s.size + 1) 1 [] = r
    cases r <;> rfl
  clear hA
  go_enter Tryz.func37, Tryz.ntmps37
  go_wp2_with fail
  go_loopw [5] (fun at' wr => ∃ (n i : Nat) (cs : List C2) (y : Value) (us : List Value) (G : List (List Nat)), at' = .int .i64 i ∧ i ≤ s.size ∧ s.size + 1 ≤ n + i ∧ cs.length ≤ 401 ∧ run s (bAt s 0) (s.size + 1) 1 [] = run s (bAt s 0) n i cs ∧ CsWf cs ∧
      wr.cell? ⟨w.heap.size + 1, 0, none⟩ = some (.int .i64 (bAt s 0)) ∧ wr.cell? ⟨w.heap.size + 1, 1, none⟩ = some y ∧ (∀ o, wr.frozen? ⟨w.heap.size + 1, o, none⟩ = false) ∧
      wr.cell? ⟨w.heap.size, 0, none⟩ = some (.int .i64 0) ∧ wr.cell? ⟨w.heap.size, 1, none⟩ = some (.slice none 0 0) ∧ (∀ o, wr.frozen? ⟨w.heap.size, o, none⟩ = false) ∧
      BagOwn wr (w.heap.size + 1 + 1) y cs us G ∧ Below w.heap.size w wr ∧ w.heap.size + 1 + 1 ≤ wr.heap.size) (fun at' _ => s.size + 1 - (intOf at').toNat)
  case atStart =>
    refine ⟨s.size + 1, 1, [], .slice none 0 0, [], [], rfl, by omega, by omega, by simp, rfl, by simp [CsWf], by go_simp, by go_simp, fun o => by go_simp, by go_simp, by go_simp, fun o => by go_simp, BagOwn.nil _ _, bex, by simp⟩
  case round =>
    clear e64 hne h12I
    obtain ⟨n, i, cs, y, us, G, rfl, hi, hf, hcl, hrun0, hcw, p0, p1, pf, r0, r1, rf, hB, hb, hzb⟩ := hrel
    have HR : Hid (run s (bAt s 0) (s.size + 1) 1 [] = run s (bAt s 0) n i cs) := hrun0
    clear hrun0
    obtain ⟨wo, hwo⟩ : ∃ x, x = wr := ⟨_, rfl⟩
    subst hwo
    obtain ⟨ay, cy, rfl⟩ := hB.shape
    have e0 : w.heap.size + 1 < wo.heap.size := by omega
    have e1 : w.heap.size < wo.heap.size := by omega
    have hcI : (cs.length : Int) ≤ 401 := by omega
    by_cases hgo : i < s.size ∧ cs.length ≤ 400
    · obtain ⟨hlt, h400⟩ := hgo
      have hltI : (i : Int) < s.size := by omega
      have h400I : decide ((cs.length : Int) ≤ 400) = true := by simp; omega
      obtain ⟨n, rfl⟩ : ∃ n', n = n' + 1 := ⟨n - 1, by omega⟩
      obtain ⟨k1, n1, x1, j, hT⟩ : ∃ k n x j, getT s i = (k, n, x, j) := ⟨_, _, _, _, rfl⟩
      have HJ : Hid (tJ s i = j) := by show tJ s i = j; unfold tJ; rw [hT]
      have HN1 : Hid ((tV s i).n = n1) := by show (tV s i).n = n1; unfold tV; rw [hT]
      go_wp2_with fail
      refine Calls.mono (specGet_v hT wo hs) ?_
      rintro e w2 ⟨rfl, hb2⟩
      have hzw := hb2.size
      have hfz := (bcell hb2).2
      have hcz := (bcell hb2).1
      have u0 : w2.cell? ⟨w.heap.size, 0, none⟩ = some (.int .i64 0) := (hcz _ _ (by omega)).trans r0
      have u1 : w2.cell? ⟨w.heap.size, 1, none⟩ = some (.slice none 0 0) := (hcz _ _ (by omega)).trans r1
      have uf : ∀ o, w2.frozen? ⟨w.heap.size, o, none⟩ = false := fun o => (hfz _ _ (by omega)).trans (rf o)
      have q0 : w2.cell? ⟨w.heap.size + 1, 0, none⟩ = some (.int .i64 (bAt s 0)) := (hcz _ _ (by omega)).trans p0
      have q1 : w2.cell? ⟨w.heap.size + 1, 1, none⟩ = some (.slice ay cs.length cy) := (hcz _ _ (by omega)).trans p1
      have qf : ∀ o, w2.frozen? ⟨w.heap.size + 1, o, none⟩ = false := fun o => (hfz _ _ (by omega)).trans (pf o)
      have hbw2 : Below w.heap.size w w2 := hb.trans (hb2.mono hb.size)
      have hB2 := hB.below hb2
      have n3 : w.heap.size < w2.heap.size := by omega
      have n4 : w.heap.size + 1 < w2.heap.size := by omega
      have n5 : w.heap.size < w2.heap.size + 1 := by omega
      have n6 : w.heap.size + 1 < w2.heap.size + 1 := by omega
      clear hfz hcz p0 p1 pf r0 r1 rf hT hB
      go_wp2_with fail
      go_loopw [5, 9] (fun at' kk wr => ∃ (q : Nat) (y : Value), q ≤ bAt s 0 ∧ kk = .int .i64 q ∧ at' = .int .i64 (valsJ s q j) ∧ wr.ownsRow (w2.heap.size + 1 + 1) 119 3 y q (rc (valsV s q j)) ∧
          wr.cell? ⟨w2.heap.size + 1, 0, none⟩ = some y ∧ wr.cell? ⟨w2.heap.size + 1, 1, none⟩ = some (.int .i64 n1) ∧ (∀ o, wr.frozen? ⟨w2.heap.size + 1, o, none⟩ = false) ∧ Below w2.heap.size w2 wr ∧ w2.heap.size + 1 + 1 ≤ wr.heap.size) (fun _ kk _ => bAt s 0 - (intOf kk).toNat)
      case atStart =>
        refine ⟨0, .slice none 0 0, Nat.zero_le _, rfl, rfl, ⟨rfl, .inl ⟨rfl, rfl⟩⟩, by go_simp, by go_simp, fun o => by go_simp, bex, by simp⟩
      case round =>
        obtain ⟨q, y, hq, rfl, rfl, hown, a0, a1, af, hbi, hzi⟩ := hrel
        have hcz := (bcell hbi).1
        have hfz := (bcell hbi).2
        have t0 : wr.cell? ⟨w.heap.size, 0, none⟩ = some (.int .i64 0) := (hcz _ _ (by omega)).trans u0
        have t1 : wr.cell? ⟨w.heap.size, 1, none⟩ = some (.slice none 0 0) := (hcz _ _ (by omega)).trans u1
        have tf : ∀ o, wr.frozen? ⟨w.heap.size, o, none⟩ = false := fun o => (hfz _ _ (by omega)).trans (uf o)
        have z0 : wr.cell? ⟨w.heap.size + 1, 0, none⟩ = some (.int .i64 (bAt s 0)) := (hcz _ _ (by omega)).trans q0
        have z1 : wr.cell? ⟨w.heap.size + 1, 1, none⟩ = some (.slice ay cs.length cy) := (hcz _ _ (by omega)).trans q1
        have zf : ∀ o, wr.frozen? ⟨w.heap.size + 1, o, none⟩ = false := fun o => (hfz _ _ (by omega)).trans (qf o)
        have c0 : w.heap.size < wr.heap.size := by omega
        have c1 : w.heap.size + 1 < wr.heap.size := by omega
        have c2 : w2.heap.size + 1 < wr.heap.size := by omega
        have hq12 : (q : Int) ≤ 12 := by omega
        have hol := ownsRow_lt hown
        clear hfz hcz
        by_cases hin : q < bAt s 0 ∧ 0 ≤ valsJ s q j
        · obtain ⟨hqW, hp0⟩ := hin
          clear u0 u1 uf q0 q1 qf
          obtain ⟨k2, n2, s2, j2, hT2⟩ : ∃ k' n' x' j', getT s (valsJ s q j) = (k', n', x', j') := ⟨_, _, _, _, rfl⟩
          have HV : Hid (rc (valsV s (q + 1) j) = rc (valsV s q j) ++ [.int .i64 k2, .int .i64 n2, .string s2]) := by
            show rc (valsV s (q + 1) j) = _
            rw [valsV_succ, rc_push]
            unfold tV; rw [hT2]
          have HJ2 : Hid (valsJ s (q + 1) j = j2) := by
            show valsJ s (q + 1) j = j2
            rw [valsJ_succ]; unfold tJ; rw [hT2]
          have hqWI : (q : Int) < (bAt s 0 : Nat) := by omega
          have hv8 : y.ownBlock ≠ some (w2.heap.size + 1) := fun e => by have := (hol _ e).1; omega
          go_wp2_with fail
          refine Calls.mono (specGet_v hT2 wr hs) ?_
          rintro e w3 ⟨rfl, hb3⟩
          have hz3 := hb3.size
          have A0 : w3.cell? ⟨w2.heap.size + 1, 0, none⟩ = some y := ((bcell hb3).1 _ _ (by omega)).trans a0
          have A1 : w3.cell? ⟨w2.heap.size + 1, 1, none⟩ = some (.int .i64 n1) := ((bcell hb3).1 _ _ (by omega)).trans a1
          have Af : ∀ o, w3.frozen? ⟨w2.heap.size + 1, o, none⟩ = false := fun o => ((bcell hb3).2 _ _ (by omega)).trans (af o)
          have hown3 := ownsRow_keep hown (fun b hb' => hb3.block b (hol b hb').2)
          have hbi3 : Below w2.heap.size w2 w3 := hbi.trans (hb3.mono hbi.size)
          have d1 : w2.heap.size + 1 < w3.heap.size := by omega
          have d2 : w2.heap.size + 1 < w3.heap.size + 1 := by omega
          clear hown a0 a1 af t0 t1 tf z0 z1 zf hT2
          go_wp2_with (at_builtin; refine wpList_append_own _ rfl _ _ 110 rfl (w2.heap.size + 1 + 1) 119 i1 _ 3 32 Tryz.underlying110 hi1 hv0 hv1 hv2 rfl (by decide) y q (rc (valsV s q j)) rfl ?hown ⟨w3.heap.size + 1, 0, none⟩ 1 1 [.int .i64 k2, .int .i64 n2, .string s2] rfl rfl ?c1 ?c2 ?c3 ?c4 ?c5 ?_)
          case hown =>
            refine ownsRow_keep hown3 fun b hb' => ?_
            have h1 := ownsRow_lt hown3 b hb'
            rw [Below.heap_alloc _ _ _ (by simp; omega), Below.heap_alloc _ _ _ (by omega)]
          case c1 =>
            intro j' u hu
            match j', hu with
            | 0, hu => simp at hu; subst hu; go_simp
            | 1, hu => simp at hu; subst hu; go_simp
            | 2, hu => simp at hu; subst hu; go_simp
          case c2 => intro u hu; simp at hu; rcases hu with rfl | rfl | rfl <;> rfl
          case c3 => unfold maxLen; omega
          case c4 => omega
          case c5 => simp; omega
          intro v5 w5 hown5 hgr5 _
          have hsz5 := hgr5.size
          simp at hsz5
          have B0 : w5.cell? ⟨w2.heap.size + 1, 0, none⟩ = some y := (hgr5.cell_far _ (by simp; try omega) (fun e => hv8 e.symm)).trans (by go_simp)
          have B1 : w5.cell? ⟨w2.heap.size + 1, 1, none⟩ = some (.int .i64 n1) := (hgr5.cell_far _ (by simp; try omega) (fun e => hv8 e.symm)).trans (by go_simp)
          have Bf : ∀ o, w5.frozen? ⟨w2.heap.size + 1, o, none⟩ = false := fun o => (hgr5.frozen_far _ (by simp; try omega) (fun e => hv8 e.symm)).trans (by go_simp)
          have hbel4 : Below w2.heap.size w2 ((w3.alloc (.cells #[.int .i64 k2, .int .i64 n2, .string s2] 119)).alloc (.cells #[.int .i64 k2, .int .i64 n2, .string s2] 119)) := (hbi3.alloc (by omega) _).alloc (by simp; omega) _
          have hbel5 : Below w2.heap.size w2 w5 := hbel4.grown hgr5 (by simp; omega) (fun k' hk' => by have := (hol _ hk').1; omega)
          have hown6 : w5.ownsRow (w2.heap.size + 1 + 1) 119 3 v5 (q + 1) (rc (valsV s (q + 1) j)) := by rw [HV.out]; exact hown5
          have hol5 := ownsRow_lt hown6
          obtain ⟨g5, c5, hv5⟩ : ∃ g c, v5 = .slice (some ⟨g, 0, none⟩) (q + 1) c := by
            rcases hown6.2 with ⟨_, h0⟩ | ⟨g, cap, cur, hv, _⟩
            · omega
            · exact ⟨g, cap, hv⟩
          subst hv5
          have e5 : w2.heap.size + 1 < w5.heap.size := by omega
          clear hown5 hgr5 hown3 hol hbel4 A0 A1 Af
          go_wp2_with fail
          refine ⟨⟨q + 1, .slice (some ⟨g5, 0, none⟩) (q + 1) c5, hqW, by simp, by rw [HJ2.out], ?_, by go_simp, by go_simp, fun o => by go_simp, ?_, by simp; omega⟩, by simp [intOf]; omega⟩
          · refine ownsRow_keep hown6 fun b hb' => ?_
            have h1 := hol5 b hb'
            rw [Below.heap_setCell _ _ _ _ (by show b ≠ w2.heap.size + 1; omega)]
          · exact hbel5.setCell (by show w2.heap.size ≤ w2.heap.size + 1; omega) _
        by_cases hp0 : valsJ s q j < 0
        · have he : endS s (bAt s 0) i < 0 := by
            unfold endS
            rw [HJ.out, show bAt s 0 = q + (bAt s 0 - q) from by omega]
            exact valsJ_late s j _ q hp0
          have HN : Hid (ansB s = none) := by
            show ansB s = none
            rw [HRS.out, HR.out, run, if_pos ⟨hltI, h400⟩, if_pos he]
          have hbX : Below w.heap.size w wr := hbw2.trans (hbi.mono (by omega))
          have hp1 : decide (0 ≤ valsJ s q j) = false := by simp; omega
          clear u0 u1 uf q0 q1 qf hown a0 a1 af hB2 he hin hol
          generalize valsJ s q j = p at *
          have key : ∀ b : Bool, (if b then decide (0 ≤ p) else false) = false := by intro b; cases b <;> simp [hp1]
          by_cases hqW : q < bAt s 0
          · have hqWI : (q : Int) < (bAt s 0 : Nat) := by omega
            go_wp2_with fail
            refine bodyPost_ret (v := .tuple #[.agg #[.int .i64 0, .slice none 0 0], .bool false]) (by simp [results, Tryz.results37, go_sem, *]) rfl ⟨⟨_, [], [], by rw [(ans_none HN.out).1, (ans_none HN.out).2.2], by rw [(ans_none HN.out).2.1]; exact BagOwn.nil _ _⟩, ?_⟩
            repeat (first | (with_reducible exact hbX) | (with_reducible refine Below.setCell ?_ ?hh _; case hh => (first | (simp; done) | (simp; omega))))
          · have hqWI : decide ((q : Int) < (bAt s 0 : Nat)) = false := by simp; omega
            go_wp2_with fail
            refine bodyPost_ret (v := .tuple #[.agg #[.int .i64 0, .slice none 0 0], .bool false]) (by simp [results, Tryz.results37, go_sem, *]) rfl ⟨⟨_, [], [], by rw [(ans_none HN.out).1, (ans_none HN.out).2.2], by rw [(ans_none HN.out).2.1]; exact BagOwn.nil _ _⟩, ?_⟩
            repeat (first | (with_reducible exact hbX) | (with_reducible refine Below.setCell ?_ ?hh _; case hh => (first | (simp; done) | (simp; omega))))
        obtain rfl : q = bAt s 0 := by omega
        have he : 0 ≤ endS s (bAt s 0) i := by unfold endS; rw [HJ.out]; omega
        obtain ⟨e, hee⟩ : ∃ e : Nat, endS s (bAt s 0) i = e := ⟨(endS s (bAt s 0) i).toNat, by omega⟩
        obtain ⟨a', b', ea, eb, hab, hbs, _⟩ := end_round s (bAt s 0) i he
        have hei : i < e := by omega
        have hes : e ≤ s.size := by omega
        have HS : Hid (run s (bAt s 0) (n + 1) i cs = run s (bAt s 0) n e (cs ++ [rowS s (bAt s 0) i])) := by
          show run s (bAt s 0) (n + 1) i cs = _
          rw [run, if_pos ⟨hltI, h400⟩, if_neg (by omega), hee]
        have hval : valsJ s (bAt s 0) j = e := by unfold endS at hee; rw [HJ.out] at hee; exact hee
        have HROW : Hid (rowS s (bAt s 0) i = ⟨valsV s (bAt s 0) j, n1⟩) := by show rowS s (bAt s 0) i = _; unfold rowS; rw [HJ.out, HN1.out]
        have hrw := rowS_wf s (bAt s 0) i
        obtain ⟨g, hRF, hOg⟩ := own_rowF (vs := valsV s (bAt s 0) j) hown
        rw [hval]
        clear ea eb hee he hin hp0 hval hown hol hq
        generalize valsV s (bAt s 0) j = row at *
        obtain ⟨au, cu, hu⟩ : ∃ a c, y = .slice a row.length c := by obtain ⟨a, c, h, _⟩ := hRF; exact ⟨a, c, h⟩
        subst hu
        have hB3 := hB2.keep hbi.size (fun b _ hlt => hbi.block b hlt)
        have hol := ownsRow_lt hB2.own
        have hGl := hB2.lt
        have hv4 : Value.ownBlock (.slice ay cs.length cy) ≠ some (w.heap.size + 1) := fun e => by have := (hol _ e).1; omega
        have hv2 : Value.ownBlock (.slice ay cs.length cy) ≠ some w.heap.size := fun e => by have := (hol _ e).1; omega
        have hb24 : Below wr.heap.size wr (wr.alloc (.cells #[.slice au row.length cu, .int .i64 n1] 112)) := (Below.refl _ _).alloc (Nat.le_refl _) _
        have hB4 := hB3.below hb24
        have hR4 : RowF (wr.alloc (.cells #[.slice au row.length cu, .int .i64 n1] 112)) (.slice au row.length cu) row g := hRF.keep hb24.size fun c hc => hb24.block c (hRF.lt c hc)
        have hO4 : Own (wr.alloc (.cells #[.slice au row.length cu, .int .i64 n1] 112)) (w.heap.size + 1 + 1) g := Own.keep (w := wr) ⟨hOg.1, fun b hb' => by have := hOg.2.1 b hb'; omega, hOg.2.2⟩ fun c hc => hb24.block c (hRF.lt c hc)
        have hnew : ∀ j' u, [Value.slice au row.length cu, Value.int .i64 n1][j']? = some u → (wr.alloc (.cells #[.slice au row.length cu, .int .i64 n1] 112)).cell? ((⟨wr.heap.size, 0, none⟩ : Addr).add j') = some u := by
          intro j' u hu
          match j', hu with
          | 0, hu => simp at hu; subst hu; go_simp
          | 1, hu => simp at hu; subst hu; go_simp
        have hbX : Below w.heap.size w wr := hbw2.trans (hbi.mono (by omega))
        have heI : decide ((e : Int) < 0) = false := by simp
        have hnlt : decide ((bAt s 0 : Int) < (bAt s 0 : Nat)) = false := by simp
        clear u0 u1 uf q0 q1 qf
        go_wp2_with (at_builtin; refine wpList_append_own_at _ rfl _ _ 69 rfl (w.heap.size + 1 + 1) 112 i0 _ 2 32 Tryz.underlying69 hi0 hz0 hz1 hz2 rfl (by decide) (.slice ay cs.length cy) cs.length (cc us cs) rfl hB4.own ⟨wr.heap.size, 0, none⟩ 1 1 [.slice au row.length cu, .int .i64 n1] rfl rfl hnew (by simp [Value.oneCell']) ?c3 ?c4 ?c5 ?_)
        case c3 => unfold maxLen; omega
        case c4 => omega
        case c5 => simp; omega
        intro v5 w5 hown5 hgr5 _ hat5
        have hB5 : BagOwn w5 (w.heap.size + 1 + 1) v5 (cs ++ [⟨row, n1⟩]) (us ++ [.slice au row.length cu]) (G ++ [g]) := hB4.push hR4 hO4 (fun b hb1 hb2' => by have := hGl b hb1; have := hOg.2.1 b hb2'; omega) (fun b hb1 hb2' => by have := (hol b hb1).2; have := hOg.2.1 b hb2'; omega) hown5 hgr5 (fun b hb1 => by
          rcases hat5 with e | e
          · left; rw [← e]; exact hb1
          · right; rw [e] at hb1; cases hb1; first | exact Nat.le_refl _ | simp | (simp; omega))
        have hsz5 := hgr5.size
        simp at hsz5
        have A0 : w5.cell? ⟨w.heap.size + 1, 0, none⟩ = some (.int .i64 (bAt s 0)) := (hgr5.cell_far _ (by simp; try omega) (fun e => hv4 e.symm)).trans (by go_simp)
        have A1 : w5.cell? ⟨w.heap.size + 1, 1, none⟩ = some (.slice ay cs.length cy) := (hgr5.cell_far _ (by simp; try omega) (fun e => hv4 e.symm)).trans (by go_simp)
        have Af : ∀ o, w5.frozen? ⟨w.heap.size + 1, o, none⟩ = false := fun o => (hgr5.frozen_far _ (by simp; try omega) (fun e => hv4 e.symm)).trans (by go_simp)
        have D0 : w5.cell? ⟨w.heap.size, 0, none⟩ = some (.int .i64 0) := (hgr5.cell_far _ (by simp; try omega) (fun e => hv2 e.symm)).trans (by go_simp)
        have D1 : w5.cell? ⟨w.heap.size, 1, none⟩ = some (.slice none 0 0) := (hgr5.cell_far _ (by simp; try omega) (fun e => hv2 e.symm)).trans (by go_simp)
        have Df : ∀ o, w5.frozen? ⟨w.heap.size, o, none⟩ = false := fun o => (hgr5.frozen_far _ (by simp; try omega) (fun e => hv2 e.symm)).trans (by go_simp)
        have hbel5 : Below w.heap.size w w5 := (hbX.trans (hb24.mono (by omega))).grown hgr5 (by simp; omega) (fun k' hk' => by have := (hol _ hk').1; omega)
        obtain ⟨a5, c5, hv5⟩ := hB5.shape
        have hv5' : v5 = .slice a5 (cs.length + 1) c5 := by rw [hv5]; simp
        clear hv5
        subst hv5'
        have m1 : w.heap.size + 1 < w5.heap.size := by omega
        have m2 : w.heap.size < w5.heap.size := by omega
        have hB6 : BagOwn (w5.setCell ⟨w.heap.size + 1, 1, none⟩ (.slice a5 (cs.length + 1) c5)) (w.heap.size + 1 + 1) (.slice a5 (cs.length + 1) c5) (cs ++ [⟨row, n1⟩]) (us ++ [.slice au row.length cu]) (G ++ [g]) := hB5.keep (by simp) fun b hb1 _ => Below.heap_setCell _ _ _ _ (by show b ≠ w.heap.size + 1; omega)
        have hbel6 : Below w.heap.size w (w5.setCell ⟨w.heap.size + 1, 1, none⟩ (.slice a5 (cs.length + 1) c5)) := hbel5.setCell (by show w.heap.size ≤ w.heap.size + 1; omega) _
        clear hown5 hgr5 hB4 hR4 hO4 hB5 hB3 hB2 hRF hOg hat5 hol hGl t0 t1 tf z0 z1 zf a0 a1 af hb24 hnew
        go_wp2_with fail
        refine ⟨⟨n, e, cs ++ [⟨row, n1⟩], .slice a5 (cs.length + 1) c5, us ++ [.slice au row.length cu], G ++ [g], rfl, hes, by omega, by simp; omega, by rw [HR.out, HS.out, HROW.out], ?_, by go_simp, by go_simp, fun o => by go_simp, by go_simp, by go_simp, fun o => by go_simp, hB6, hbel6, by simp; omega⟩, by simp [intOf]; omega⟩
        intro z hz
        rcases List.mem_append.1 hz with hz | hz
        · exact hcw z hz
        · rcases List.mem_singleton.1 hz with rfl
          rw [HROW.out] at hrw
          exact hrw
    by_cases hlt : i < s.size
    · have hltI : (i : Int) < s.size := by omega
      have h400I : decide ((cs.length : Int) ≤ 400) = false := by simp; omega
      have HE : Hid (ansB s = if putB (bAt s 0) cs = s then some cs else none) := by
        show ansB s = _
        rw [HRS.out, HR.out, run_stop _ _ _ _ _ (by omega)]
      obtain ⟨F, hRs, hOs⟩ := hB.rowsF
      go_wp2_with fail
      refine Calls.mono (specPutBag_any (bAt s 0) (.slice ay cs.length cy) cs wo hcw hRs.is) ?_
      rintro e w2 ⟨rfl, hb2⟩
      have hzw := hb2.size
      have hfz := (bcell hb2).2
      have hcz := (bcell hb2).1
      have u0 : w2.cell? ⟨w.heap.size, 0, none⟩ = some (.int .i64 0) := (hcz _ _ (by omega)).trans r0
      have u1 : w2.cell? ⟨w.heap.size, 1, none⟩ = some (.slice none 0 0) := (hcz _ _ (by omega)).trans r1
      have uf : ∀ o, w2.frozen? ⟨w.heap.size, o, none⟩ = false := fun o => (hfz _ _ (by omega)).trans (rf o)
      have q0 : w2.cell? ⟨w.heap.size + 1, 0, none⟩ = some (.int .i64 (bAt s 0)) := (hcz _ _ (by omega)).trans p0
      have q1 : w2.cell? ⟨w.heap.size + 1, 1, none⟩ = some (.slice ay cs.length cy) := (hcz _ _ (by omega)).trans p1
      have hbw2 : Below w.heap.size w w2 := hb.trans (hb2.mono hb.size)
      have n3 : w.heap.size < w2.heap.size := by omega
      have n5 : w.heap.size + 1 < w2.heap.size := by omega
      have hB2 := hB.below hb2
      clear hfz hcz p0 p1 pf r0 r1 rf hB hRs hOs
      by_cases hok : putB (bAt s 0) cs = s
      · have HN : Hid (ansB s = some cs) := by show ansB s = some cs; rw [HE.out, if_pos hok]
        rw [hok]
        clear hok
        go_wp2_with fail
        refine bodyPost_ret (v := .tuple #[.agg #[.int .i64 (bAt s 0), .slice ay cs.length cy], .bool true]) (by simp [results, Tryz.results37, go_sem, *]) rfl ⟨⟨_, us, G, by rw [(ans_some HN.out).1, (ans_some HN.out).2.2], ?_⟩, ?_⟩
        · rw [(ans_some HN.out).2.1]
          refine BagOwn.weak (N := w.heap.size + 1 + 1) (hB2.keep (by simp) fun b hb1 _ => ?_) (by omega)
          repeat rw [Below.heap_setCell _ _ _ _ (by show b ≠ w.heap.size; omega)]
        · repeat (first | (with_reducible exact hbw2) | (with_reducible refine Below.setCell ?_ ?hh _; case hh => (first | (simp; done) | (simp; omega))))
      · have HN : Hid (ansB s = none) := by show ansB s = none; rw [HE.out, if_neg hok]
        have hokb : ((putB (bAt s 0) cs).toList == s.toList) = false := beq_eq_false_iff_ne.2 fun e => hok (by rw [ByteArray.toList_eq, ByteArray.toList_eq] at e; exact ByteArray.ext (Array.toList_inj.1 e))
        clear hB2
        go_wp2_with fail
        refine bodyPost_ret (v := .tuple #[.agg #[.int .i64 0, .slice none 0 0], .bool false]) (by simp [results, Tryz.results37, go_sem, *]) rfl ⟨⟨_, [], [], by rw [(ans_none HN.out).1, (ans_none HN.out).2.2], by rw [(ans_none HN.out).2.1]; exact BagOwn.nil _ _⟩, ?_⟩
        repeat (first | (with_reducible exact hbw2) | (with_reducible refine Below.setCell ?_ ?hh _; case hh => (first | (simp; done) | (simp; omega))))
    · have hltI : decide ((i : Int) < s.size) = false := by simp; omega
      have HE : Hid (ansB s = if putB (bAt s 0) cs = s then some cs else none) := by
        show ansB s = _
        rw [HRS.out, HR.out, run_stop _ _ _ _ _ (by omega)]
      obtain ⟨F, hRs, hOs⟩ := hB.rowsF
      go_wp2_with fail
      refine Calls.mono (specPutBag_any (bAt s 0) (.slice ay cs.length cy) cs wo hcw hRs.is) ?_
      rintro e w2 ⟨rfl, hb2⟩
      have hzw := hb2.size
      have hfz := (bcell hb2).2
      have hcz := (bcell hb2).1
      have u0 : w2.cell? ⟨w.heap.size, 0, none⟩ = some (.int .i64 0) := (hcz _ _ (by omega)).trans r0
      have u1 : w2.cell? ⟨w.heap.size, 1, none⟩ = some (.slice none 0 0) := (hcz _ _ (by omega)).trans r1
      have uf : ∀ o, w2.frozen? ⟨w.heap.size, o, none⟩ = false := fun o => (hfz _ _ (by omega)).trans (rf o)
      have q0 : w2.cell? ⟨w.heap.size + 1, 0, none⟩ = some (.int .i64 (bAt s 0)) := (hcz _ _ (by omega)).trans p0
      have q1 : w2.cell? ⟨w.heap.size + 1, 1, none⟩ = some (.slice ay cs.length cy) := (hcz _ _ (by omega)).trans p1
      have hbw2 : Below w.heap.size w w2 := hb.trans (hb2.mono hb.size)
      have n3 : w.heap.size < w2.heap.size := by omega
      have n5 : w.heap.size + 1 < w2.heap.size := by omega
      have hB2 := hB.below hb2
      clear hfz hcz p0 p1 pf r0 r1 rf hB hRs hOs
      by_cases hok : putB (bAt s 0) cs = s
      · have HN : Hid (ansB s = some cs) := by show ansB s = some cs; rw [HE.out, if_pos hok]
        rw [hok]
        clear hok
        go_wp2_with fail
        refine bodyPost_ret (v := .tuple #[.agg #[.int .i64 (bAt s 0), .slice ay cs.length cy], .bool true]) (by simp [results, Tryz.results37, go_sem, *]) rfl ⟨⟨_, us, G, by rw [(ans_some HN.out).1, (ans_some HN.out).2.2], ?_⟩, ?_⟩
        · rw [(ans_some HN.out).2.1]
          refine BagOwn.weak (N := w.heap.size + 1 + 1) (hB2.keep (by simp) fun b hb1 _ => ?_) (by omega)
          repeat rw [Below.heap_setCell _ _ _ _ (by show b ≠ w.heap.size; omega)]
        · repeat (first | (with_reducible exact hbw2) | (with_reducible refine Below.setCell ?_ ?hh _; case hh => (first | (simp; done) | (simp; omega))))
      · have HN : Hid (ansB s = none) := by show ansB s = none; rw [HE.out, if_neg hok]
        have hokb : ((putB (bAt s 0) cs).toList == s.toList) = false := beq_eq_false_iff_ne.2 fun e => hok (by rw [ByteArray.toList_eq, ByteArray.toList_eq] at e; exact ByteArray.ext (Array.toList_inj.1 e))
        clear hB2
        go_wp2_with fail
        refine bodyPost_ret (v := .tuple #[.agg #[.int .i64 0, .slice none 0 0], .bool false]) (by simp [results, Tryz.results37, go_sem, *]) rfl ⟨⟨_, [], [], by rw [(ans_none HN.out).1, (ans_none HN.out).2.2], by rw [(ans_none HN.out).2.1]; exact BagOwn.nil _ _⟩, ?_⟩
        repeat (first | (with_reducible exact hbw2) | (with_reducible refine Below.setCell ?_ ?hh _; case hh => (first | (simp; done) | (simp; omega))))
end Go.Proofs.YtbmoimfimeiglaaGreat
namespace Go.Proofs.YtbmoimfimeiglaaGreat
open Go.RowKit Go.Deep
set_option linter.unusedVariables false
section
variable {s : ByteArray} {e : Nat} {q : Nat × Bool}
theorem csn_late : ∀ {k d : Nat}, (csn s e q k).2.2 = true → (csn s e q (k + d)).2.2 = true
  | k, 0, h => h
  | k, d + 1, h => tx_torn' (q := (csn s e q (k + d)).2) (csn_late (d := d) h)
theorem rl_torn' (h : q.2 = true) : (rl s e q).2.2 = true := by
  cases hx : (rl s e q).2.2 with
  | true => rfl
  | false => have := (rl_torn hx).2.2.1; rw [h] at this; cases this
theorem rln_late : ∀ {k d : Nat}, (rln s e q k).2.2 = true → (rln s e q (k + d)).2.2 = true
  | k, 0, h => h
  | k, d + 1, h => rl_torn' (q := (rln s e q (k + d)).2) (rln_late (d := d) h)
theorem ps_rl (hb : aB (gtV s 4 (tx s s.size 2 q).2) = true) : ps (rlB s s.size q).2 = ps (rl s s.size q).2 := by
  cases ht : (rlB s s.size q).2.2 with
  | true =>
    have : (rl s s.size q).2.2 = true := by unfold rl; simp [ht]
    rw [ps_lt ht, ps_lt this]
  | false =>
    have e1 : gtV s 4 (tx s s.size 2 q).2 = (rlB s s.size q).1 := by unfold gtV; rw [if_neg]; rfl; intro h; rw [show (tx s s.size 4 (tx s s.size 2 q).2).2.2 = (rlB s s.size q).2.2 from rfl, ht] at h; cases h
    rw [e1] at hb
    have : (rl s s.size q).2 = ((rlB s s.size q).2.1, false) := by unfold rl; simp [ht, hb]
    rw [ps_ge ht, this]; rfl
theorem rl_eq (ht : (rl s s.size q).2.2 = false) : (⟨gtV s 2 q, aW (gtV s 4 (tx s s.size 2 q).2), aC (gtV s 4 (tx s s.size 2 q).2)⟩ : R3) = (rl s s.size q).1 := by
  obtain ⟨h1, h2, h3, h4⟩ := rl_torn ht
  have e1 : gtV s 4 (tx s s.size 2 q).2 = (rlB s s.size q).1 := by unfold gtV; rw [if_neg]; rfl; intro h; rw [show (tx s s.size 4 (tx s s.size 2 q).2).2.2 = (rlB s s.size q).2.2 from rfl, h1] at h; cases h
  have e2 : gtV s 2 q = (tx s s.size 2 q).1 := by unfold gtV; rw [if_neg (by rw [h2]; decide)]
  rw [e1, e2]; rfl
theorem rl_bad (hb : aB (gtV s 4 (tx s s.size 2 q).2) = false) : (rl s s.size q).2.2 = true := by
  cases ht : (rl s s.size q).2.2 with
  | true => rfl
  | false =>
    obtain ⟨h1, h2, h3, h4⟩ := rl_torn ht
    have e1 : gtV s 4 (tx s s.size 2 q).2 = (rlB s s.size q).1 := by unfold gtV; rw [if_neg]; rfl; intro h; rw [show (tx s s.size 4 (tx s s.size 2 q).2).2.2 = (rlB s s.size q).2.2 from rfl, h1] at h; cases h
    rw [e1, h4] at hb; cases hb
end
end Go.Proofs.YtbmoimfimeiglaaGreat
