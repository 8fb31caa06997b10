/- Own texts, joined: contracts that the law's proof goes by. -/
import Derived.Test.YtmomffaceglibaaMLGetStep1
import Derived.Handy
import Derived.Test.YtmomffaceglibaaSchP
import Derived.Test.YtmomffaceglibaaTake
import Derived.Deep.RegionHeld3
import Derived.Test.YtmomffaceglibaaBagOkS
/- Own text. A bag that is read: the contract of spec.GetBag. -/
namespace Go.Proofs.Ytmomffaceglibaa
open Go.RowKit Go.Deep
set_option linter.unusedVariables false
theorem valsJ_late (s : ByteArray) (j : Int) : ∀ (d q : Nat), valsJ s q j < 0 → valsJ s (q + d) j < 0
  | 0, _, h => h
  | d + 1, q, h => by rw [← Nat.add_assoc, valsJ_succ, tJ_neg s _ (valsJ_late s j d q h)]; decide
theorem run_stop (s : ByteArray) (W : Nat) (n : Nat) (i : Int) (cs : List C2) (h : ¬ (i < s.size ∧ cs.length ≤ 400)) : run s W n i cs = some cs := by
  cases n with
  | zero => rfl
  | succ n => rw [run, if_neg h]
set_option maxHeartbeats 4000000 in
set_option maxRecDepth 100000 in
theorem specGetBag_any (s : ByteArray) (w : World) (hs : s.size ≤ 1048576) :
    Calls Try.prog 54 #[.string s] w fun e w' => (∃ u us G, e = .returned (.tuple #[.agg #[.int .i64 (aW s), u], .bool (aB s)]) ∧ BagOwn w' w.heap.size u (aC s) us G) ∧ Below w.heap.size w w' := by
  obtain ⟨i0, hi0, hz0, hz1, hz2⟩ := info_parts Try.infoCnt
  obtain ⟨i1, hi1, hv0, hv1, hv2⟩ := info_parts Try.infoVal
  by_cases hz : s.size = 0
  · have hA := ans_none (s := s) (by unfold ansB; rw [if_pos hz])
    have hnil : s.toList = [] := by rw [ByteArray.toList_eq]; exact List.eq_nil_of_length_eq_zero (by simpa using hz)
    have hs0 : s = ⟨#[]⟩ := by
      apply ByteArray.ext
      exact Array.eq_empty_of_size_eq_zero hz
    rw [hA.1, hA.2.1, hA.2.2]
    clear hA
    subst hs0
    go_enter Try.func54, Try.ntmps54
    go_wp2_with fail
    refine bodyPost_ret (v := .tuple #[.agg #[.int .i64 0, .slice none 0 0], .bool false]) (by simp [results, Try.results54, go_sem, *]) rfl ⟨⟨_, [], [], rfl, BagOwn.nil _ _⟩, by repeat (first | (with_reducible exact Below.refl _ _) | (with_reducible refine Below.drew ?_) | (with_reducible refine Below.alloc ?_ ?hh _; case hh => first | (simp; done) | (simp; omega) | omega) | (with_reducible refine Below.setCell ?_ ?hh _; case hh => first | (simp; done) | (simp; omega) | omega) | refine bstep (by assumption) (by first | (simp; done) | (simp; omega) | omega) ?_)⟩
  have hpos : 0 < s.size := by omega
  have hposI : (0 : Int) < s.size := by omega
  have hne : s.toList.isEmpty = false := by
    rw [ByteArray.toList_eq]
    have : s.data.toList.length ≠ 0 := by simpa using hz
    cases h : s.data.toList with
    | nil => rw [h] at this; simp at this
    | cons a l => rfl
  have hW : bAt s 0 ≤ 255 := by have := bAt_lt s 0; omega
  have e64 : wrap64 (s[0].toNat : Int) = (bAt s 0 : Nat) := by rw [wrap64_byte, bAt_eq s 0 hpos]
  have hA : ansB s = resS s := by unfold ansB; rw [if_neg hz, res_same s hpos]
  by_cases h12 : bAt s 0 ≤ 12
  rotate_left
  · have h12I : (12 : Int) < (bAt s 0 : Nat) := by omega
    have HN : Hid (ansB s = none) := by
      show ansB s = none
      rw [hA]; unfold resS; rw [if_neg h12]
    clear hA h12
    go_enter Try.func54, Try.ntmps54
    go_wp2_with fail
    refine bodyPost_ret (v := .tuple #[.agg #[.int .i64 0, .slice none 0 0], .bool false]) (by simp [results, Try.results54, go_sem, *]) rfl ⟨⟨_, [], [], by rw [(ans_none HN.out).1, (ans_none HN.out).2.2], by rw [(ans_none HN.out).2.1]; exact BagOwn.nil _ _⟩, by repeat (first | (with_reducible exact Below.refl _ _) | (with_reducible refine Below.drew ?_) | (with_reducible refine Below.alloc ?_ ?hh _; case hh => first | (simp; done) | (simp; omega) | omega) | (with_reducible refine Below.setCell ?_ ?hh _; case hh => first | (simp; done) | (simp; omega) | omega) | refine bstep (by assumption) (by first | (simp; done) | (simp; omega) | omega) ?_)⟩
  have h12I : decide ((12 : Int) < (bAt s 0 : Nat)) = false := by simp; omega
  have HRS : Hid (ansB s = match run s (bAt s 0) (s.size + 1) 1 [] with | none => none | some cs => if putB (bAt s 0) cs = s then some cs else none) := by
    show ansB s = _
    rw [hA]; unfold resS; rw [if_pos h12]
    generalize run s (bAt s 0) (s.size + 1) 1 [] = r
    cases r <;> rfl
  clear hA
  go_enter Try.func54, Try.ntmps54
  go_wp2_with fail
  go_loopw [5] (fun at' wr => ∃ (n i : Nat) (cs : List C2) (y : Value) (us : List Value) (G : List (List Nat)), at' = .int .i64 i ∧ i ≤ s.size ∧ s.size + 1 ≤ n + i ∧ cs.length ≤ 401 ∧ run s (bAt s 0) (s.size + 1) 1 [] = run s (bAt s 0) n i cs ∧ CsWf cs ∧
      wr.cell? ⟨w.heap.size + 1, 0, none⟩ = some (.int .i64 (bAt s 0)) ∧ wr.cell? ⟨w.heap.size + 1, 1, none⟩ = some y ∧ (∀ o, wr.frozen? ⟨w.heap.size + 1, o, none⟩ = false) ∧
      wr.cell? ⟨w.heap.size, 0, none⟩ = some (.int .i64 0) ∧ wr.cell? ⟨w.heap.size, 1, none⟩ = some (.slice none 0 0) ∧ (∀ o, wr.frozen? ⟨w.heap.size, o, none⟩ = false) ∧
      BagOwn wr (w.heap.size + 1 + 1) y cs us G ∧ Below w.heap.size w wr ∧ w.heap.size + 1 + 1 ≤ wr.heap.size) (fun at' _ => s.size + 1 - (intOf at').toNat)
  case atStart =>
    refine ⟨s.size + 1, 1, [], .slice none 0 0, [], [], rfl, by omega, by omega, by simp, rfl, by simp [CsWf], by go_simp, by go_simp, fun o => by go_simp, by go_simp, by go_simp, fun o => by go_simp, BagOwn.nil _ _, by repeat (first | (with_reducible exact Below.refl _ _) | (with_reducible refine Below.drew ?_) | (with_reducible refine Below.alloc ?_ ?hh _; case hh => first | (simp; done) | (simp; omega) | omega) | (with_reducible refine Below.setCell ?_ ?hh _; case hh => first | (simp; done) | (simp; omega) | omega) | refine bstep (by assumption) (by first | (simp; done) | (simp; omega) | omega) ?_), by simp⟩
  case round =>
    clear e64 hne h12I
    obtain ⟨n, i, cs, y, us, G, rfl, hi, hf, hcl, hrun0, hcw, p0, p1, pf, r0, r1, rf, hB, hb, hzb⟩ := hrel
    have HR : Hid (run s (bAt s 0) (s.size + 1) 1 [] = run s (bAt s 0) n i cs) := hrun0
    clear hrun0
    obtain ⟨wo, hwo⟩ : ∃ x, x = wr := ⟨_, rfl⟩
    subst hwo
    obtain ⟨ay, cy, rfl⟩ := hB.shape
    have e0 : w.heap.size + 1 < wo.heap.size := by omega
    have e1 : w.heap.size < wo.heap.size := by omega
    have hcI : (cs.length : Int) ≤ 401 := by omega
    by_cases hgo : i < s.size ∧ cs.length ≤ 400
    · obtain ⟨hlt, h400⟩ := hgo
      have hltI : (i : Int) < s.size := by omega
      have h400I : decide ((cs.length : Int) ≤ 400) = true := by simp; omega
      obtain ⟨n, rfl⟩ : ∃ n', n = n' + 1 := ⟨n - 1, by omega⟩
      obtain ⟨k1, n1, x1, j, hT⟩ : ∃ k n x j, getT s i = (k, n, x, j) := ⟨_, _, _, _, rfl⟩
      have HJ : Hid (tJ s i = j) := by show tJ s i = j; unfold tJ; rw [hT]
      have HN1 : Hid ((tV s i).n = n1) := by show (tV s i).n = n1; unfold tV; rw [hT]
      go_wp2_with fail
      refine Calls.mono (specGet_v hT wo hs) ?_
      rintro e w2 ⟨rfl, hb2⟩
      have hzw := hb2.size
      have hfz := (bcell hb2).2
      have hcz := (bcell hb2).1
      have u0 : w2.cell? ⟨w.heap.size, 0, none⟩ = some (.int .i64 0) := (hcz _ _ (by omega)).trans r0
      have u1 : w2.cell? ⟨w.heap.size, 1, none⟩ = some (.slice none 0 0) := (hcz _ _ (by omega)).trans r1
      have uf : ∀ o, w2.frozen? ⟨w.heap.size, o, none⟩ = false := fun o => (hfz _ _ (by omega)).trans (rf o)
      have q0 : w2.cell? ⟨w.heap.size + 1, 0, none⟩ = some (.int .i64 (bAt s 0)) := (hcz _ _ (by omega)).trans p0
      have q1 : w2.cell? ⟨w.heap.size + 1, 1, none⟩ = some (.slice ay cs.length cy) := (hcz _ _ (by omega)).trans p1
      have qf : ∀ o, w2.frozen? ⟨w.heap.size + 1, o, none⟩ = false := fun o => (hfz _ _ (by omega)).trans (pf o)
      have hbw2 : Below w.heap.size w w2 := hb.trans (hb2.mono hb.size)
      have hB2 := hB.below hb2
      have n3 : w.heap.size < w2.heap.size := by omega
      have n4 : w.heap.size + 1 < w2.heap.size := by omega
      have n5 : w.heap.size < w2.heap.size + 1 := by omega
      have n6 : w.heap.size + 1 < w2.heap.size + 1 := by omega
      clear hfz hcz p0 p1 pf r0 r1 rf hT hB
      go_wp2_with fail
      go_loopw [5, 9] (fun at' kk wr => ∃ (q : Nat) (y : Value), q ≤ bAt s 0 ∧ kk = .int .i64 q ∧ at' = .int .i64 (valsJ s q j) ∧ wr.ownsRow (w2.heap.size + 1 + 1) 104 3 y q (rc (valsV s q j)) ∧
          wr.cell? ⟨w2.heap.size + 1, 0, none⟩ = some y ∧ wr.cell? ⟨w2.heap.size + 1, 1, none⟩ = some (.int .i64 n1) ∧ (∀ o, wr.frozen? ⟨w2.heap.size + 1, o, none⟩ = false) ∧ Below w2.heap.size w2 wr ∧ w2.heap.size + 1 + 1 ≤ wr.heap.size) (fun _ kk _ => bAt s 0 - (intOf kk).toNat)
      case atStart =>
        refine ⟨0, .slice none 0 0, Nat.zero_le _, rfl, rfl, ⟨rfl, .inl ⟨rfl, rfl⟩⟩, by go_simp, by go_simp, fun o => by go_simp, by repeat (first | (with_reducible exact Below.refl _ _) | (with_reducible refine Below.drew ?_) | (with_reducible refine Below.alloc ?_ ?hh _; case hh => first | (simp; done) | (simp; omega) | omega) | (with_reducible refine Below.setCell ?_ ?hh _; case hh => first | (simp; done) | (simp; omega) | omega) | refine bstep (by assumption) (by first | (simp; done) | (simp; omega) | omega) ?_), by simp⟩
      case round =>
        obtain ⟨q, y, hq, rfl, rfl, hown, a0, a1, af, hbi, hzi⟩ := hrel
        have hcz := (bcell hbi).1
        have hfz := (bcell hbi).2
        have t0 : wr.cell? ⟨w.heap.size, 0, none⟩ = some (.int .i64 0) := (hcz _ _ (by omega)).trans u0
        have t1 : wr.cell? ⟨w.heap.size, 1, none⟩ = some (.slice none 0 0) := (hcz _ _ (by omega)).trans u1
        have tf : ∀ o, wr.frozen? ⟨w.heap.size, o, none⟩ = false := fun o => (hfz _ _ (by omega)).trans (uf o)
        have z0 : wr.cell? ⟨w.heap.size + 1, 0, none⟩ = some (.int .i64 (bAt s 0)) := (hcz _ _ (by omega)).trans q0
        have z1 : wr.cell? ⟨w.heap.size + 1, 1, none⟩ = some (.slice ay cs.length cy) := (hcz _ _ (by omega)).trans q1
        have zf : ∀ o, wr.frozen? ⟨w.heap.size + 1, o, none⟩ = false := fun o => (hfz _ _ (by omega)).trans (qf o)
        have c0 : w.heap.size < wr.heap.size := by omega
        have c1 : w.heap.size + 1 < wr.heap.size := by omega
        have c2 : w2.heap.size + 1 < wr.heap.size := by omega
        have hq12 : (q : Int) ≤ 12 := by omega
        have hol := ownsRow_lt hown
        clear hfz hcz
        by_cases hin : q < bAt s 0 ∧ 0 ≤ valsJ s q j
        · obtain ⟨hqW, hp0⟩ := hin
          clear u0 u1 uf q0 q1 qf
          obtain ⟨k2, n2, s2, j2, hT2⟩ : ∃ k' n' x' j', getT s (valsJ s q j) = (k', n', x', j') := ⟨_, _, _, _, rfl⟩
          have HV : Hid (rc (valsV s (q + 1) j) = rc (valsV s q j) ++ [.int .i64 k2, .int .i64 n2, .string s2]) := by
            show rc (valsV s (q + 1) j) = _
            rw [valsV_succ, rc_push]
            unfold tV; rw [hT2]
          have HJ2 : Hid (valsJ s (q + 1) j = j2) := by
            show valsJ s (q + 1) j = j2
            rw [valsJ_succ]; unfold tJ; rw [hT2]
          have hqWI : (q : Int) < (bAt s 0 : Nat) := by omega
          have hv8 : y.ownBlock ≠ some (w2.heap.size + 1) := fun e => by have := (hol _ e).1; omega
          go_wp2_with fail
          refine Calls.mono (specGet_v hT2 wr hs) ?_
          rintro e w3 ⟨rfl, hb3⟩
          have hz3 := hb3.size
          have A0 : w3.cell? ⟨w2.heap.size + 1, 0, none⟩ = some y := ((bcell hb3).1 _ _ (by omega)).trans a0
          have A1 : w3.cell? ⟨w2.heap.size + 1, 1, none⟩ = some (.int .i64 n1) := ((bcell hb3).1 _ _ (by omega)).trans a1
          have Af : ∀ o, w3.frozen? ⟨w2.heap.size + 1, o, none⟩ = false := fun o => ((bcell hb3).2 _ _ (by omega)).trans (af o)
          have hown3 := ownsRow_keep hown (fun b hb' => hb3.block b (hol b hb').2)
          have hbi3 : Below w2.heap.size w2 w3 := hbi.trans (hb3.mono hbi.size)
          have d1 : w2.heap.size + 1 < w3.heap.size := by omega
          have d2 : w2.heap.size + 1 < w3.heap.size + 1 := by omega
          clear hown a0 a1 af t0 t1 tf z0 z1 zf hT2
          go_wp2_with (at_builtin; refine wpList_append_own _ rfl _ _ 54 rfl (w2.heap.size + 1 + 1) 104 i1 _ 3 32 Try.underlying54 hi1 hv0 hv1 hv2 rfl (by decide) y q (rc (valsV s q j)) rfl ?hown ⟨w3.heap.size + 1, 0, none⟩ 1 1 [.int .i64 k2, .int .i64 n2, .string s2] rfl rfl ?c1 ?c2 ?c3 ?c4 ?c5 ?_)
          case hown =>
            refine ownsRow_keep hown3 fun b hb' => ?_
            have h1 := ownsRow_lt hown3 b hb'
            rw [Below.heap_alloc _ _ _ (by simp; omega), Below.heap_alloc _ _ _ (by omega)]
          case c1 =>
            intro j' u hu
            match j', hu with
            | 0, hu => simp at hu; subst hu; go_simp
            | 1, hu => simp at hu; subst hu; go_simp
            | 2, hu => simp at hu; subst hu; go_simp
          case c2 => intro u hu; simp at hu; rcases hu with rfl | rfl | rfl <;> rfl
          case c3 => unfold maxLen; omega
          case c4 => omega
          case c5 => simp; omega
          intro v5 w5 hown5 hgr5 _
          have hsz5 := hgr5.size
          simp at hsz5
          have B0 : w5.cell? ⟨w2.heap.size + 1, 0, none⟩ = some y := (hgr5.cell_far _ (by simp; try omega) (fun e => hv8 e.symm)).trans (by go_simp)
          have B1 : w5.cell? ⟨w2.heap.size + 1, 1, none⟩ = some (.int .i64 n1) := (hgr5.cell_far _ (by simp; try omega) (fun e => hv8 e.symm)).trans (by go_simp)
          have Bf : ∀ o, w5.frozen? ⟨w2.heap.size + 1, o, none⟩ = false := fun o => (hgr5.frozen_far _ (by simp; try omega) (fun e => hv8 e.symm)).trans (by go_simp)
          have hbel4 : Below w2.heap.size w2 ((w3.alloc (.cells #[.int .i64 k2, .int .i64 n2, .string s2] 104)).alloc (.cells #[.int .i64 k2, .int .i64 n2, .string s2] 104)) := (hbi3.alloc (by omega) _).alloc (by simp; omega) _
          have hbel5 : Below w2.heap.size w2 w5 := hbel4.grown hgr5 (by simp; omega) (fun k' hk' => by have := (hol _ hk').1; omega)
          have hown6 : w5.ownsRow (w2.heap.size + 1 + 1) 104 3 v5 (q + 1) (rc (valsV s (q + 1) j)) := by rw [HV.out]; exact hown5
          have hol5 := ownsRow_lt hown6
          obtain ⟨g5, c5, hv5⟩ : ∃ g c, v5 = .slice (some ⟨g, 0, none⟩) (q + 1) c := by
            rcases hown6.2 with ⟨_, h0⟩ | ⟨g, cap, cur, hv, _⟩
            · omega
            · exact ⟨g, cap, hv⟩
          subst hv5
          have e5 : w2.heap.size + 1 < w5.heap.size := by omega
          clear hown5 hgr5 hown3 hol hbel4 A0 A1 Af
          go_wp2_with fail
          refine ⟨⟨q + 1, .slice (some ⟨g5, 0, none⟩) (q + 1) c5, hqW, by simp, by rw [HJ2.out], ?_, by go_simp, by go_simp, fun o => by go_simp, ?_, by simp; omega⟩, by simp [intOf]; omega⟩
          · refine ownsRow_keep hown6 fun b hb' => ?_
            have h1 := hol5 b hb'
            rw [Below.heap_setCell _ _ _ _ (by show b ≠ w2.heap.size + 1; omega)]
          · exact hbel5.setCell (by show w2.heap.size ≤ w2.heap.size + 1; omega) _
        by_cases hp0 : valsJ s q j < 0
        · have he : endS s (bAt s 0) i < 0 := by
            unfold endS
            rw [HJ.out, show bAt s 0 = q + (bAt s 0 - q) from by omega]
            exact valsJ_late s j _ q hp0
          have HN : Hid (ansB s = none) := by
            show ansB s = none
            rw [HRS.out, HR.out, run, if_pos ⟨hltI, h400⟩, if_pos he]
          have hbX : Below w.heap.size w wr := hbw2.trans (hbi.mono (by omega))
          have hp1 : decide (0 ≤ valsJ s q j) = false := by simp; omega
          clear u0 u1 uf q0 q1 qf hown a0 a1 af hB2 he hin hol
          generalize valsJ s q j = p at *
          have key : ∀ b : Bool, (if b then decide (0 ≤ p) else false) = false := by intro b; cases b <;> simp [hp1]
          by_cases hqW : q < bAt s 0
          · have hqWI : (q : Int) < (bAt s 0 : Nat) := by omega
            go_wp2_with fail
            refine bodyPost_ret (v := .tuple #[.agg #[.int .i64 0, .slice none 0 0], .bool false]) (by simp [results, Try.results54, go_sem, *]) rfl ⟨⟨_, [], [], by rw [(ans_none HN.out).1, (ans_none HN.out).2.2], by rw [(ans_none HN.out).2.1]; exact BagOwn.nil _ _⟩, ?_⟩
            repeat (first | (with_reducible exact hbX) | (with_reducible refine Below.setCell ?_ ?hh _; case hh => (first | (simp; done) | (simp; omega))))
          · have hqWI : decide ((q : Int) < (bAt s 0 : Nat)) = false := by simp; omega
            go_wp2_with fail
            refine bodyPost_ret (v := .tuple #[.agg #[.int .i64 0, .slice none 0 0], .bool false]) (by simp [results, Try.results54, go_sem, *]) rfl ⟨⟨_, [], [], by rw [(ans_none HN.out).1, (ans_none HN.out).2.2], by rw [(ans_none HN.out).2.1]; exact BagOwn.nil _ _⟩, ?_⟩
            repeat (first | (with_reducible exact hbX) | (with_reducible refine Below.setCell ?_ ?hh _; case hh => (first | (simp; done) | (simp; omega))))
        obtain rfl : q = bAt s 0 := by omega
        have he : 0 ≤ endS s (bAt s 0) i := by unfold endS; rw [HJ.out]; omega
        obtain ⟨e, hee⟩ : ∃ e : Nat, endS s (bAt s 0) i = e := ⟨(endS s (bAt s 0) i).toNat, by omega⟩
        obtain ⟨a', b', ea, eb, hab, hbs, _⟩ := end_round s (bAt s 0) i he
        have hei : i < e := by omega
        have hes : e ≤ s.size := by omega
        have HS : Hid (run s (bAt s 0) (n + 1) i cs = run s (bAt s 0) n e (cs ++ [rowS s (bAt s 0) i])) := by
          show run s (bAt s 0) (n + 1) i cs = _
          rw [run, if_pos ⟨hltI, h400⟩, if_neg (by omega), hee]
        have hval : valsJ s (bAt s 0) j = e := by unfold endS at hee; rw [HJ.out] at hee; exact hee
        have HROW : Hid (rowS s (bAt s 0) i = ⟨valsV s (bAt s 0) j, n1⟩) := by show rowS s (bAt s 0) i = _; unfold rowS; rw [HJ.out, HN1.out]
        have hrw := rowS_wf s (bAt s 0) i
        obtain ⟨g, hRF, hOg⟩ := own_rowF (vs := valsV s (bAt s 0) j) hown
        rw [hval]
        clear ea eb hee he hin hp0 hval hown hol hq
        generalize valsV s (bAt s 0) j = row at *
        obtain ⟨au, cu, hu⟩ : ∃ a c, y = .slice a row.length c := by obtain ⟨a, c, h, _⟩ := hRF; exact ⟨a, c, h⟩
        subst hu
        have hB3 := hB2.keep hbi.size (fun b _ hlt => hbi.block b hlt)
        have hol := ownsRow_lt hB2.own
        have hGl := hB2.lt
        have hv4 : Value.ownBlock (.slice ay cs.length cy) ≠ some (w.heap.size + 1) := fun e => by have := (hol _ e).1; omega
        have hv2 : Value.ownBlock (.slice ay cs.length cy) ≠ some w.heap.size := fun e => by have := (hol _ e).1; omega
        have hb24 : Below wr.heap.size wr (wr.alloc (.cells #[.slice au row.length cu, .int .i64 n1] 102)) := (Below.refl _ _).alloc (Nat.le_refl _) _
        have hB4 := hB3.below hb24
        have hR4 : RowF (wr.alloc (.cells #[.slice au row.length cu, .int .i64 n1] 102)) (.slice au row.length cu) row g := hRF.keep hb24.size fun c hc => hb24.block c (hRF.lt c hc)
        have hO4 : Own (wr.alloc (.cells #[.slice au row.length cu, .int .i64 n1] 102)) (w.heap.size + 1 + 1) g := Own.keep (w := wr) ⟨hOg.1, fun b hb' => by have := hOg.2.1 b hb'; omega, hOg.2.2⟩ fun c hc => hb24.block c (hRF.lt c hc)
        have hnew : ∀ j' u, [Value.slice au row.length cu, Value.int .i64 n1][j']? = some u → (wr.alloc (.cells #[.slice au row.length cu, .int .i64 n1] 102)).cell? ((⟨wr.heap.size, 0, none⟩ : Addr).add j') = some u := by
          intro j' u hu
          match j', hu with
          | 0, hu => simp at hu; subst hu; go_simp
          | 1, hu => simp at hu; subst hu; go_simp
        have hbX : Below w.heap.size w wr := hbw2.trans (hbi.mono (by omega))
        have heI : decide ((e : Int) < 0) = false := by simp
        have hnlt : decide ((bAt s 0 : Int) < (bAt s 0 : Nat)) = false := by simp
        clear u0 u1 uf q0 q1 qf
        go_wp2_with (at_builtin; refine wpList_append_own_at _ rfl _ _ 24 rfl (w.heap.size + 1 + 1) 102 i0 _ 2 32 Try.underlying24 hi0 hz0 hz1 hz2 rfl (by decide) (.slice ay cs.length cy) cs.length (cc us cs) rfl hB4.own ⟨wr.heap.size, 0, none⟩ 1 1 [.slice au row.length cu, .int .i64 n1] rfl rfl hnew (by simp [Value.oneCell']) ?c3 ?c4 ?c5 ?_)
        case c3 => unfold maxLen; omega
        case c4 => omega
        case c5 => simp; omega
        intro v5 w5 hown5 hgr5 _ hat5
        have hB5 : BagOwn w5 (w.heap.size + 1 + 1) v5 (cs ++ [⟨row, n1⟩]) (us ++ [.slice au row.length cu]) (G ++ [g]) := hB4.push hR4 hO4 (fun b hb1 hb2' => by have := hGl b hb1; have := hOg.2.1 b hb2'; omega) (fun b hb1 hb2' => by have := (hol b hb1).2; have := hOg.2.1 b hb2'; omega) hown5 hgr5 (fun b hb1 => by
          rcases hat5 with e | e
          · left; rw [← e]; exact hb1
          · right; rw [e] at hb1; cases hb1; first | exact Nat.le_refl _ | simp | (simp; omega))
        have hsz5 := hgr5.size
        simp at hsz5
        have A0 : w5.cell? ⟨w.heap.size + 1, 0, none⟩ = some (.int .i64 (bAt s 0)) := (hgr5.cell_far _ (by simp; try omega) (fun e => hv4 e.symm)).trans (by go_simp)
        have A1 : w5.cell? ⟨w.heap.size + 1, 1, none⟩ = some (.slice ay cs.length cy) := (hgr5.cell_far _ (by simp; try omega) (fun e => hv4 e.symm)).trans (by go_simp)
        have Af : ∀ o, w5.frozen? ⟨w.heap.size + 1, o, none⟩ = false := fun o => (hgr5.frozen_far _ (by simp; try omega) (fun e => hv4 e.symm)).trans (by go_simp)
        have D0 : w5.cell? ⟨w.heap.size, 0, none⟩ = some (.int .i64 0) := (hgr5.cell_far _ (by simp; try omega) (fun e => hv2 e.symm)).trans (by go_simp)
        have D1 : w5.cell? ⟨w.heap.size, 1, none⟩ = some (.slice none 0 0) := (hgr5.cell_far _ (by simp; try omega) (fun e => hv2 e.symm)).trans (by go_simp)
        have Df : ∀ o, w5.frozen? ⟨w.heap.size, o, none⟩ = false := fun o => (hgr5.frozen_far _ (by simp; try omega) (fun e => hv2 e.symm)).trans (by go_simp)
        have hbel5 : Below w.heap.size w w5 := (hbX.trans (hb24.mono (by omega))).grown hgr5 (by simp; omega) (fun k' hk' => by have := (hol _ hk').1; omega)
        obtain ⟨a5, c5, hv5⟩ := hB5.shape
        have hv5' : v5 = .slice a5 (cs.length + 1) c5 := by rw [hv5]; simp
        clear hv5
        subst hv5'
        have m1 : w.heap.size + 1 < w5.heap.size := by omega
        have m2 : w.heap.size < w5.heap.size := by omega
        have hB6 : BagOwn (w5.setCell ⟨w.heap.size + 1, 1, none⟩ (.slice a5 (cs.length + 1) c5)) (w.heap.size + 1 + 1) (.slice a5 (cs.length + 1) c5) (cs ++ [⟨row, n1⟩]) (us ++ [.slice au row.length cu]) (G ++ [g]) := hB5.keep (by simp) fun b hb1 _ => Below.heap_setCell _ _ _ _ (by show b ≠ w.heap.size + 1; omega)
        have hbel6 : Below w.heap.size w (w5.setCell ⟨w.heap.size + 1, 1, none⟩ (.slice a5 (cs.length + 1) c5)) := hbel5.setCell (by show w.heap.size ≤ w.heap.size + 1; omega) _
        clear hown5 hgr5 hB4 hR4 hO4 hB5 hB3 hB2 hRF hOg hat5 hol hGl t0 t1 tf z0 z1 zf a0 a1 af hb24 hnew
        go_wp2_with fail
        refine ⟨⟨n, e, cs ++ [⟨row, n1⟩], .slice a5 (cs.length + 1) c5, us ++ [.slice au row.length cu], G ++ [g], rfl, hes, by omega, by simp; omega, by rw [HR.out, HS.out, HROW.out], ?_, by go_simp, by go_simp, fun o => by go_simp, by go_simp, by go_simp, fun o => by go_simp, hB6, hbel6, by simp; omega⟩, by simp [intOf]; omega⟩
        intro z hz
        rcases List.mem_append.1 hz with hz | hz
        · exact hcw z hz
        · rcases List.mem_singleton.1 hz with rfl
          rw [HROW.out] at hrw
          exact hrw
    by_cases hlt : i < s.size
    · have hltI : (i : Int) < s.size := by omega
      have h400I : decide ((cs.length : Int) ≤ 400) = false := by simp; omega
      have HE : Hid (ansB s = if putB (bAt s 0) cs = s then some cs else none) := by
        show ansB s = _
        rw [HRS.out, HR.out, run_stop _ _ _ _ _ (by omega)]
      obtain ⟨F, hRs, hOs⟩ := hB.rowsF
      go_wp2_with fail
      refine Calls.mono (specPutBag_any (bAt s 0) (.slice ay cs.length cy) cs wo hcw hRs.is) ?_
      rintro e w2 ⟨rfl, hb2⟩
      have hzw := hb2.size
      have hfz := (bcell hb2).2
      have hcz := (bcell hb2).1
      have u0 : w2.cell? ⟨w.heap.size, 0, none⟩ = some (.int .i64 0) := (hcz _ _ (by omega)).trans r0
      have u1 : w2.cell? ⟨w.heap.size, 1, none⟩ = some (.slice none 0 0) := (hcz _ _ (by omega)).trans r1
      have uf : ∀ o, w2.frozen? ⟨w.heap.size, o, none⟩ = false := fun o => (hfz _ _ (by omega)).trans (rf o)
      have q0 : w2.cell? ⟨w.heap.size + 1, 0, none⟩ = some (.int .i64 (bAt s 0)) := (hcz _ _ (by omega)).trans p0
      have q1 : w2.cell? ⟨w.heap.size + 1, 1, none⟩ = some (.slice ay cs.length cy) := (hcz _ _ (by omega)).trans p1
      have hbw2 : Below w.heap.size w w2 := hb.trans (hb2.mono hb.size)
      have n3 : w.heap.size < w2.heap.size := by omega
      have n5 : w.heap.size + 1 < w2.heap.size := by omega
      have hB2 := hB.below hb2
      clear hfz hcz p0 p1 pf r0 r1 rf hB hRs hOs
      by_cases hok : putB (bAt s 0) cs = s
      · have HN : Hid (ansB s = some cs) := by show ansB s = some cs; rw [HE.out, if_pos hok]
        rw [hok]
        clear hok
        go_wp2_with fail
        refine bodyPost_ret (v := .tuple #[.agg #[.int .i64 (bAt s 0), .slice ay cs.length cy], .bool true]) (by simp [results, Try.results54, go_sem, *]) rfl ⟨⟨_, us, G, by rw [(ans_some HN.out).1, (ans_some HN.out).2.2], ?_⟩, ?_⟩
        · rw [(ans_some HN.out).2.1]
          refine BagOwn.weak (N := w.heap.size + 1 + 1) (hB2.keep (by simp) fun b hb1 _ => ?_) (by omega)
          repeat rw [Below.heap_setCell _ _ _ _ (by show b ≠ w.heap.size; omega)]
        · repeat (first | (with_reducible exact hbw2) | (with_reducible refine Below.setCell ?_ ?hh _; case hh => (first | (simp; done) | (simp; omega))))
      · have HN : Hid (ansB s = none) := by show ansB s = none; rw [HE.out, if_neg hok]
        have hokb : ((putB (bAt s 0) cs).toList == s.toList) = false := beq_eq_false_iff_ne.2 fun e => hok (by rw [ByteArray.toList_eq, ByteArray.toList_eq] at e; exact ByteArray.ext (Array.toList_inj.1 e))
        clear hB2
        go_wp2_with fail
        refine bodyPost_ret (v := .tuple #[.agg #[.int .i64 0, .slice none 0 0], .bool false]) (by simp [results, Try.results54, go_sem, *]) rfl ⟨⟨_, [], [], by rw [(ans_none HN.out).1, (ans_none HN.out).2.2], by rw [(ans_none HN.out).2.1]; exact BagOwn.nil _ _⟩, ?_⟩
        repeat (first | (with_reducible exact hbw2) | (with_reducible refine Below.setCell ?_ ?hh _; case hh => (first | (simp; done) | (simp; omega))))
    · have hltI : decide ((i : Int) < s.size) = false := by simp; omega
      have HE : Hid (ansB s = if putB (bAt s 0) cs = s then some cs else none) := by
        show ansB s = _
        rw [HRS.out, HR.out, run_stop _ _ _ _ _ (by omega)]
      obtain ⟨F, hRs, hOs⟩ := hB.rowsF
      go_wp2_with fail
      refine Calls.mono (specPutBag_any (bAt s 0) (.slice ay cs.length cy) cs wo hcw hRs.is) ?_
      rintro e w2 ⟨rfl, hb2⟩
      have hzw := hb2.size
      have hfz := (bcell hb2).2
      have hcz := (bcell hb2).1
      have u0 : w2.cell? ⟨w.heap.size, 0, none⟩ = some (.int .i64 0) := (hcz _ _ (by omega)).trans r0
      have u1 : w2.cell? ⟨w.heap.size, 1, none⟩ = some (.slice none 0 0) := (hcz _ _ (by omega)).trans r1
      have uf : ∀ o, w2.frozen? ⟨w.heap.size, o, none⟩ = false := fun o => (hfz _ _ (by omega)).trans (rf o)
      have q0 : w2.cell? ⟨w.heap.size + 1, 0, none⟩ = some (.int .i64 (bAt s 0)) := (hcz _ _ (by omega)).trans p0
      have q1 : w2.cell? ⟨w.heap.size + 1, 1, none⟩ = some (.slice ay cs.length cy) := (hcz _ _ (by omega)).trans p1
      have hbw2 : Below w.heap.size w w2 := hb.trans (hb2.mono hb.size)
      have n3 : w.heap.size < w2.heap.size := by omega
      have n5 : w.heap.size + 1 < w2.heap.size := by omega
      have hB2 := hB.below hb2
      clear hfz hcz p0 p1 pf r0 r1 rf hB hRs hOs
      by_cases hok : putB (bAt s 0) cs = s
      · have HN : Hid (ansB s = some cs) := by show ansB s = some cs; rw [HE.out, if_pos hok]
        rw [hok]
        clear hok
        go_wp2_with fail
        refine bodyPost_ret (v := .tuple #[.agg #[.int .i64 (bAt s 0), .slice ay cs.length cy], .bool true]) (by simp [results, Try.results54, go_sem, *]) rfl ⟨⟨_, us, G, by rw [(ans_some HN.out).1, (ans_some HN.out).2.2], ?_⟩, ?_⟩
        · rw [(ans_some HN.out).2.1]
          refine BagOwn.weak (N := w.heap.size + 1 + 1) (hB2.keep (by simp) fun b hb1 _ => ?_) (by omega)
          repeat rw [Below.heap_setCell _ _ _ _ (by show b ≠ w.heap.size; omega)]
        · repeat (first | (with_reducible exact hbw2) | (with_reducible refine Below.setCell ?_ ?hh _; case hh => (first | (simp; done) | (simp; omega))))
      · have HN : Hid (ansB s = none) := by show ansB s = none; rw [HE.out, if_neg hok]
        have hokb : ((putB (bAt s 0) cs).toList == s.toList) = false := beq_eq_false_iff_ne.2 fun e => hok (by rw [ByteArray.toList_eq, ByteArray.toList_eq] at e; exact ByteArray.ext (Array.toList_inj.1 e))
        clear hB2
        go_wp2_with fail
        refine bodyPost_ret (v := .tuple #[.agg #[.int .i64 0, .slice none 0 0], .bool false]) (by simp [results, Try.results54, go_sem, *]) rfl ⟨⟨_, [], [], by rw [(ans_none HN.out).1, (ans_none HN.out).2.2], by rw [(ans_none HN.out).2.1]; exact BagOwn.nil _ _⟩, ?_⟩
        repeat (first | (with_reducible exact hbw2) | (with_reducible refine Below.setCell ?_ ?hh _; case hh => (first | (simp; done) | (simp; omega))))
end Go.Proofs.Ytmomffaceglibaa
/- Own text. The contract of spec.SchemasOk. -/
namespace Go.Proofs.Ytmomffaceglibaa
open Go.RowKit
set_option linter.unusedVariables false
theorem okCols_no {cs : List ByteArray} (h : inB cs.length 1 12 = false) : okCols cs = false := by simp [okCols, h]
theorem okCols_cols {cs : List ByteArray} (h : inB cs.length 1 12 = true) : okCols cs = colsB [] cs := by simp [okCols, h]
set_option maxHeartbeats 8000000 in
set_option maxRecDepth 100000 in
theorem specSchemasOk_any (v : Value) (rs : List S2) (w : World) (hw : HsWf rs) (hr : SchsIs w v rs) :
    Calls Try.prog 77 #[v] w fun e w' => e = .returned (.bool (okSch rs)) ∧ Below w.heap.size w w' := by
  obtain ⟨a, c, b, o, rfl, hl, hc, ha⟩ := hr.pick
  unfold maxLen at hc
  clear hr
  go_enter Try.func77, Try.ntmps77
  go_wp2
  go_loopw [3] (fun i wr => ∃ (k : Nat) (q : Int), k ≤ rs.length ∧ q = k ∧ i = .int .i64 q ∧ Below w.heap.size w wr ∧ okHs none rs = okHs (prevH rs k) (rs.drop k)) (fun i _ => rs.length - (intOf i).toNat)
  case atStart => exact ⟨0, 0, Nat.zero_le _, rfl, rfl, by go_grown, by simp [prevH]⟩
  case round =>
    obtain ⟨k, q, hk, hq, rfl, hb, heq⟩ := hrel
    have HE : Hid (okHs none rs = okHs (prevH rs k) (rs.drop k)) := heq
    have hzb := hb.size
    clear heq
    obtain ⟨wo, hwo⟩ : ∃ y, y = wr := ⟨_, rfl⟩
    subst hwo
    by_cases hlt : k < rs.length
    · obtain ⟨rfl, hblt, hL⟩ := ha k hlt
      obtain ⟨x, u, g, hx, c0, c1, hR, hbr⟩ := hL.at hblt hb hlt
      obtain ⟨ur, cr, rfl, hlc, hcm⟩ := hR.shape
      unfold maxLen at hcm
      obtain ⟨hxs, hxw⟩ := hw x (List.mem_of_getElem? hx)
      have HS : Hid (okHs (prevH rs k) (rs.drop k) = (nameB x.s && okCols x.cs && okPrevH (prevH rs k) x && okHs (prevH rs (k + 1)) (rs.drop (k + 1)))) := okHs_step hx
      by_cases hnm : nameB x.s = true
      rotate_left
      · have hf : nameB x.s = false := by simpa using hnm
        clear ha hw hL hx
        subst hq
        go_wp2_with fail
        refine wp_region_held_drew (S := (fun w' => w'.cell? ⟨wo.heap.size, 0, none⟩ = some (.string x.s) ∧ w'.cell? ⟨wo.heap.size, 1, none⟩ = some (.slice ur x.cs.length cr))) (by kernel_rfl) ?_ (fun hHeld => ?_)
        · (try dsimp only); refine ⟨?_, ?_⟩ <;> first | (go_simp; done) | (exact cell_later (by assumption) (by go_simp))
        refine takeYes (i := 0) (d := 16) (v := ?_) rfl rfl (by kernel_rfl) (by kernel_rfl) (by kernel_rfl) (fun _ _ _ h => h) (by rfl) (by assumption) ?_ ?_
        rotate_left
        · intro w' hSw; (try dsimp only at hSw); go_simp; try exact rfl
        try simp only [List.setIfInBounds_toArray, List.set_cons_zero, List.set_cons_succ]
        refine takeYes (i := 1) (d := 17) (v := ?_) rfl rfl (by kernel_rfl) (by kernel_rfl) (by kernel_rfl) (fun _ _ _ h => h) (by rfl) (by assumption) ?_ ?_
        rotate_left
        · intro w' hSw; (try dsimp only at hSw); go_simp; try exact rfl
        try simp only [List.setIfInBounds_toArray, List.set_cons_zero, List.set_cons_succ]
        refine wpAnyH_ready (rs := [2]) (by kernel_rfl) (by simp) ?_
        refine AllReadyH.cons rfl (fun K hK => ?_) AllReadyH.nil
        go_simp
        go_at_call 78
        refine (specName_any x.s _ hxs).mono ?_
        rintro e w1 ⟨rfl, rfl⟩
        try go_wp2_with fail
        refine hK.out _ _ ?_ (fun hHeld2 => ?_)
        · (try dsimp only); refine ⟨?_, ?_⟩ <;> first | (go_simp; done) | (exact cell_later (by assumption) (by go_simp))
        clear hK
        refine takeYes (i := 3) (d := 19) (v := ?_) rfl rfl (by kernel_rfl) (by kernel_rfl) (by kernel_rfl) (fun _ _ _ h => h) (by rfl) (by assumption) ?_ ?_
        rotate_left
        · intro w' hSw; (try dsimp only at hSw); go_simp; try exact rfl
        try simp only [List.setIfInBounds_toArray, List.set_cons_zero, List.set_cons_succ]
        refine takeYes (i := 4) (d := 20) (v := ?_) rfl rfl (by kernel_rfl) (by kernel_rfl) (by kernel_rfl) (fun _ _ _ h => h) (by rfl) (by assumption) ?_ ?_
        rotate_left
        · intro w' hSw; (try dsimp only at hSw); go_simp; try exact rfl
        try simp only [List.setIfInBounds_toArray, List.set_cons_zero, List.set_cons_succ]
        refine takeNo (i := 5) (d := 21) rfl rfl (by kernel_rfl) (by kernel_rfl) (by kernel_rfl) (fun _ _ _ h => h) (by rfl) (by assumption) ?_
        try simp only [List.setIfInBounds_toArray, List.set_cons_zero, List.set_cons_succ]
        refine takeNo (i := 6) (d := 22) rfl rfl (by kernel_rfl) (by kernel_rfl) (by kernel_rfl) (fun _ _ _ h => h) (by rfl) (by assumption) ?_
        try simp only [List.setIfInBounds_toArray, List.set_cons_zero, List.set_cons_succ]
        refine takeNo (i := 7) (d := 23) rfl rfl (by kernel_rfl) (by kernel_rfl) (by kernel_rfl) (fun _ _ _ h => h) (by rfl) (by assumption) ?_
        try simp only [List.setIfInBounds_toArray, List.set_cons_zero, List.set_cons_succ]
        refine takeNo (i := 8) (d := 24) rfl rfl (by kernel_rfl) (by kernel_rfl) (by kernel_rfl) (fun _ _ _ h => h) (by rfl) (by assumption) ?_
        try simp only [List.setIfInBounds_toArray, List.set_cons_zero, List.set_cons_succ]
        refine takeNo (i := 9) (d := 25) rfl rfl (by kernel_rfl) (by kernel_rfl) (by kernel_rfl) (fun _ _ _ h => h) (by rfl) (by assumption) ?_
        try simp only [List.setIfInBounds_toArray, List.set_cons_zero, List.set_cons_succ]
        refine takeNo (i := 10) (d := 26) rfl rfl (by kernel_rfl) (by kernel_rfl) (by kernel_rfl) (fun _ _ _ h => h) (by rfl) (by assumption) ?_
        try simp only [List.setIfInBounds_toArray, List.set_cons_zero, List.set_cons_succ]
        refine takeNo (i := 11) (d := 27) rfl rfl (by kernel_rfl) (by kernel_rfl) (by kernel_rfl) (fun _ _ _ h => h) (by rfl) (by assumption) ?_
        try simp only [List.setIfInBounds_toArray, List.set_cons_zero, List.set_cons_succ]
        refine takeNo (i := 12) (d := 28) rfl rfl (by kernel_rfl) (by kernel_rfl) (by kernel_rfl) (fun _ _ _ h => h) (by rfl) (by assumption) ?_
        try simp only [List.setIfInBounds_toArray, List.set_cons_zero, List.set_cons_succ]
        refine takeNo (i := 13) (d := 29) rfl rfl (by kernel_rfl) (by kernel_rfl) (by kernel_rfl) (fun _ _ _ h => h) (by rfl) (by assumption) ?_
        try simp only [List.setIfInBounds_toArray, List.set_cons_zero, List.set_cons_succ]
        refine takeNo (i := 14) (d := 30) rfl rfl (by kernel_rfl) (by kernel_rfl) (by kernel_rfl) (fun _ _ _ h => h) (by rfl) (by assumption) ?_
        try simp only [List.setIfInBounds_toArray, List.set_cons_zero, List.set_cons_succ]
        refine takeNo (i := 15) (d := 31) rfl rfl (by kernel_rfl) (by kernel_rfl) (by kernel_rfl) (fun _ _ _ h => h) (by rfl) (by assumption) ?_
        try simp only [List.setIfInBounds_toArray, List.set_cons_zero, List.set_cons_succ]
        refine takeNo (i := 16) (d := 32) rfl rfl (by kernel_rfl) (by kernel_rfl) (by kernel_rfl) (fun _ _ _ h => h) (by rfl) (by assumption) ?_
        try simp only [List.setIfInBounds_toArray, List.set_cons_zero, List.set_cons_succ]
        refine takeNo (i := 17) (d := 33) rfl rfl (by kernel_rfl) (by kernel_rfl) (by kernel_rfl) (fun _ _ _ h => h) (by rfl) (by assumption) ?_
        try simp only [List.setIfInBounds_toArray, List.set_cons_zero, List.set_cons_succ]
        refine takeYes (i := 18) (d := 34) (v := ?_) rfl rfl (by kernel_rfl) (by kernel_rfl) (by kernel_rfl) (fun _ _ _ h => h) (by rfl) (by assumption) ?_ ?_
        rotate_left
        · intro w' hSw; (try dsimp only at hSw); go_simp; try exact rfl
        try simp only [List.setIfInBounds_toArray, List.set_cons_zero, List.set_cons_succ]
        refine takeYes (i := 19) (d := 35) (v := ?_) rfl rfl (by kernel_rfl) (by kernel_rfl) (by kernel_rfl) (fun _ _ _ h => h) (by rfl) (by assumption) ?_ ?_
        rotate_left
        · intro w' hSw; (try dsimp only at hSw); go_simp; try exact rfl
        try simp only [List.setIfInBounds_toArray, List.set_cons_zero, List.set_cons_succ]
        refine takeNo (i := 20) (d := 36) rfl rfl (by kernel_rfl) (by kernel_rfl) (by kernel_rfl) (fun _ _ _ h => h) (by rfl) (by assumption) ?_
        try simp only [List.setIfInBounds_toArray, List.set_cons_zero, List.set_cons_succ]
        refine takeNo (i := 21) (d := 37) rfl rfl (by kernel_rfl) (by kernel_rfl) (by kernel_rfl) (fun _ _ _ h => h) (by rfl) (by assumption) ?_
        try simp only [List.setIfInBounds_toArray, List.set_cons_zero, List.set_cons_succ]
        refine takeNo (i := 22) (d := 38) rfl rfl (by kernel_rfl) (by kernel_rfl) (by kernel_rfl) (fun _ _ _ h => h) (by rfl) (by assumption) ?_
        try simp only [List.setIfInBounds_toArray, List.set_cons_zero, List.set_cons_succ]
        refine wpAnyH_ready (rs := [23]) (by kernel_rfl) (by simp) ?_
        refine AllReadyH.cons rfl (fun K hK => ?_) AllReadyH.nil
        go_simp
        refine hK.out _ _ ?_ (fun hHeld23 => ?_)
        · (try dsimp only); refine ⟨?_, ?_⟩ <;> first | (go_simp; done) | (exact cell_later (by assumption) (by go_simp))
        clear hK
        refine takeNo (i := 24) (d := 40) rfl rfl (by kernel_rfl) (by kernel_rfl) (by kernel_rfl) (fun _ _ _ h => h) (by rfl) (by assumption) ?_
        try simp only [List.setIfInBounds_toArray, List.set_cons_zero, List.set_cons_succ]
        refine takeYes (i := 25) (d := 41) (v := ?_) rfl rfl (by kernel_rfl) (by kernel_rfl) (by kernel_rfl) (fun _ _ _ h => h) (by rfl) (by assumption) ?_ ?_
        rotate_left
        · intro w' hSw; (try dsimp only at hSw); go_simp; try exact rfl
        try simp only [List.setIfInBounds_toArray, List.set_cons_zero, List.set_cons_succ]
        refine wpAnyH_done (by kernel_rfl) ?_ _
        go_wp2
        go_returns
        refine ⟨ret_bool ?_, by repeat (first | exact Below.refl _ _ | refine Below.drew ?_ | refine Below.alloc ?_ (by first | (simp; done) | (simp; omega) | omega) _ | refine Below.setCell ?_ (by first | (simp; done) | (simp; omega) | omega) _ | refine bstep (by assumption) (by first | (simp; done) | (simp; omega) | omega) ?_)⟩
        unfold okSch
        rw [HE.out, HS.out, hf]
        simp
      rcases Nat.eq_zero_or_pos k with hk0 | hk0
      · subst hk0
        obtain rfl : q = 0 := by simpa using hq
        rw [Nat.zero_mul, Nat.add_zero] at c0 c1
        clear ha hw hL hx hq
        cases hin : inB x.cs.length 1 12 with
        | false =>
          go_wp2_with fail
          refine wp_region_held_drew (S := (fun w' => w'.cell? ⟨wo.heap.size, 0, none⟩ = some (.string x.s) ∧ w'.cell? ⟨wo.heap.size, 1, none⟩ = some (.slice ur x.cs.length cr))) (by kernel_rfl) ?_ (fun hHeld => ?_)
          · (try dsimp only); refine ⟨?_, ?_⟩ <;> first | (go_simp; done) | (exact cell_later (by assumption) (by go_simp))
          refine takeYes (i := 0) (d := 16) (v := ?_) rfl rfl (by kernel_rfl) (by kernel_rfl) (by kernel_rfl) (fun _ _ _ h => h) (by rfl) (by assumption) ?_ ?_
          rotate_left
          · intro w' hSw; (try dsimp only at hSw); go_simp; try exact rfl
          try simp only [List.setIfInBounds_toArray, List.set_cons_zero, List.set_cons_succ]
          refine takeYes (i := 1) (d := 17) (v := ?_) rfl rfl (by kernel_rfl) (by kernel_rfl) (by kernel_rfl) (fun _ _ _ h => h) (by rfl) (by assumption) ?_ ?_
          rotate_left
          · intro w' hSw; (try dsimp only at hSw); go_simp; try exact rfl
          try simp only [List.setIfInBounds_toArray, List.set_cons_zero, List.set_cons_succ]
          refine wpAnyH_ready (rs := [2]) (by kernel_rfl) (by simp) ?_
          refine AllReadyH.cons rfl (fun K hK => ?_) AllReadyH.nil
          go_simp
          go_at_call 78
          refine (specName_any x.s _ hxs).mono ?_
          rintro e w1 ⟨rfl, rfl⟩
          try go_wp2_with fail
          refine hK.out _ _ ?_ (fun hHeld2 => ?_)
          · (try dsimp only); refine ⟨?_, ?_⟩ <;> first | (go_simp; done) | (exact cell_later (by assumption) (by go_simp))
          clear hK
          refine takeYes (i := 3) (d := 19) (v := ?_) rfl rfl (by kernel_rfl) (by kernel_rfl) (by kernel_rfl) (fun _ _ _ h => h) (by rfl) (by assumption) ?_ ?_
          rotate_left
          · intro w' hSw; (try dsimp only at hSw); go_simp; try exact rfl
          try simp only [List.setIfInBounds_toArray, List.set_cons_zero, List.set_cons_succ]
          refine takeYes (i := 4) (d := 20) (v := ?_) rfl rfl (by kernel_rfl) (by kernel_rfl) (by kernel_rfl) (fun _ _ _ h => h) (by rfl) (by assumption) ?_ ?_
          rotate_left
          · intro w' hSw; (try dsimp only at hSw); go_simp; try exact rfl
          try simp only [List.setIfInBounds_toArray, List.set_cons_zero, List.set_cons_succ]
          refine takeYes (i := 5) (d := 21) (v := ?_) rfl rfl (by kernel_rfl) (by kernel_rfl) (by kernel_rfl) (fun _ _ _ h => h) (by rfl) (by assumption) ?_ ?_
          rotate_left
          · intro w' hSw; (try dsimp only at hSw); go_simp; try exact rfl
          try simp only [List.setIfInBounds_toArray, List.set_cons_zero, List.set_cons_succ]
          refine takeYes (i := 6) (d := 22) (v := ?_) rfl rfl (by kernel_rfl) (by kernel_rfl) (by kernel_rfl) (fun _ _ _ h => h) (by rfl) (by assumption) ?_ ?_
          rotate_left
          · intro w' hSw; (try dsimp only at hSw); go_simp; try exact rfl
          try simp only [List.setIfInBounds_toArray, List.set_cons_zero, List.set_cons_succ]
          refine takeYes (i := 7) (d := 23) (v := ?_) rfl rfl (by kernel_rfl) (by kernel_rfl) (by kernel_rfl) (fun _ _ _ h => h) (by rfl) (by assumption) ?_ ?_
          rotate_left
          · intro w' hSw; (try dsimp only at hSw); go_simp; try exact rfl
          try simp only [List.setIfInBounds_toArray, List.set_cons_zero, List.set_cons_succ]
          refine takeNo (i := 8) (d := 24) rfl rfl (by kernel_rfl) (by kernel_rfl) (by kernel_rfl) (fun _ _ _ h => h) (by rfl) (by assumption) ?_
          try simp only [List.setIfInBounds_toArray, List.set_cons_zero, List.set_cons_succ]
          refine takeNo (i := 9) (d := 25) rfl rfl (by kernel_rfl) (by kernel_rfl) (by kernel_rfl) (fun _ _ _ h => h) (by rfl) (by assumption) ?_
          try simp only [List.setIfInBounds_toArray, List.set_cons_zero, List.set_cons_succ]
          refine takeNo (i := 10) (d := 26) rfl rfl (by kernel_rfl) (by kernel_rfl) (by kernel_rfl) (fun _ _ _ h => h) (by rfl) (by assumption) ?_
          try simp only [List.setIfInBounds_toArray, List.set_cons_zero, List.set_cons_succ]
          refine takeNo (i := 11) (d := 27) rfl rfl (by kernel_rfl) (by kernel_rfl) (by kernel_rfl) (fun _ _ _ h => h) (by rfl) (by assumption) ?_
          try simp only [List.setIfInBounds_toArray, List.set_cons_zero, List.set_cons_succ]
          refine takeNo (i := 12) (d := 28) rfl rfl (by kernel_rfl) (by kernel_rfl) (by kernel_rfl) (fun _ _ _ h => h) (by rfl) (by assumption) ?_
          try simp only [List.setIfInBounds_toArray, List.set_cons_zero, List.set_cons_succ]
          refine takeNo (i := 13) (d := 29) rfl rfl (by kernel_rfl) (by kernel_rfl) (by kernel_rfl) (fun _ _ _ h => h) (by rfl) (by assumption) ?_
          try simp only [List.setIfInBounds_toArray, List.set_cons_zero, List.set_cons_succ]
          refine takeNo (i := 14) (d := 30) rfl rfl (by kernel_rfl) (by kernel_rfl) (by kernel_rfl) (fun _ _ _ h => h) (by rfl) (by assumption) ?_
          try simp only [List.setIfInBounds_toArray, List.set_cons_zero, List.set_cons_succ]
          refine takeNo (i := 15) (d := 31) rfl rfl (by kernel_rfl) (by kernel_rfl) (by kernel_rfl) (fun _ _ _ h => h) (by rfl) (by assumption) ?_
          try simp only [List.setIfInBounds_toArray, List.set_cons_zero, List.set_cons_succ]
          refine takeNo (i := 16) (d := 32) rfl rfl (by kernel_rfl) (by kernel_rfl) (by kernel_rfl) (fun _ _ _ h => h) (by rfl) (by assumption) ?_
          try simp only [List.setIfInBounds_toArray, List.set_cons_zero, List.set_cons_succ]
          refine takeYes (i := 17) (d := 33) (v := ?_) rfl rfl (by kernel_rfl) (by kernel_rfl) (by kernel_rfl) (fun _ _ _ h => h) (by rfl) (by assumption) ?_ ?_
          rotate_left
          · intro w' hSw; (try dsimp only at hSw); go_simp; try exact rfl
          try simp only [List.setIfInBounds_toArray, List.set_cons_zero, List.set_cons_succ]
          refine takeYes (i := 18) (d := 34) (v := ?_) rfl rfl (by kernel_rfl) (by kernel_rfl) (by kernel_rfl) (fun _ _ _ h => h) (by rfl) (by assumption) ?_ ?_
          rotate_left
          · intro w' hSw; (try dsimp only at hSw); go_simp; try exact rfl
          try simp only [List.setIfInBounds_toArray, List.set_cons_zero, List.set_cons_succ]
          refine takeYes (i := 19) (d := 35) (v := ?_) rfl rfl (by kernel_rfl) (by kernel_rfl) (by kernel_rfl) (fun _ _ _ h => h) (by rfl) (by assumption) ?_ ?_
          rotate_left
          · intro w' hSw; (try dsimp only at hSw); go_simp; try exact rfl
          try simp only [List.setIfInBounds_toArray, List.set_cons_zero, List.set_cons_succ]
          refine takeYes (i := 20) (d := 36) (v := ?_) rfl rfl (by kernel_rfl) (by kernel_rfl) (by kernel_rfl) (fun _ _ _ h => h) (by rfl) (by assumption) ?_ ?_
          rotate_left
          · intro w' hSw; (try dsimp only at hSw); go_simp; try exact rfl
          try simp only [List.setIfInBounds_toArray, List.set_cons_zero, List.set_cons_succ]
          refine takeYes (i := 21) (d := 37) (v := ?_) rfl rfl (by kernel_rfl) (by kernel_rfl) (by kernel_rfl) (fun _ _ _ h => h) (by rfl) (by assumption) ?_ ?_
          rotate_left
          · intro w' hSw; (try dsimp only at hSw); go_simp; try exact rfl
          try simp only [List.setIfInBounds_toArray, List.set_cons_zero, List.set_cons_succ]
          refine takeYes (i := 22) (d := 38) (v := ?_) rfl rfl (by kernel_rfl) (by kernel_rfl) (by kernel_rfl) (fun _ _ _ h => h) (by rfl) (by assumption) ?_ ?_
          rotate_left
          · intro w' hSw; (try dsimp only at hSw); go_simp; try exact rfl
          try simp only [List.setIfInBounds_toArray, List.set_cons_zero, List.set_cons_succ]
          refine wpAnyH_ready (rs := [23]) (by kernel_rfl) (by simp) ?_
          refine AllReadyH.cons rfl (fun K hK => ?_) AllReadyH.nil
          go_simp
          go_at_call 79
          refine (l01InN_any _ _ _ _).mono ?_
          rintro e w1 ⟨rfl, rfl⟩
          try go_wp2_with fail
          refine hK.out _ _ ?_ (fun hHeld23 => ?_)
          · (try dsimp only); refine ⟨?_, ?_⟩ <;> first | (go_simp; done) | (exact cell_later (by assumption) (by go_simp))
          clear hK
          refine takeYes (i := 24) (d := 40) (v := ?_) rfl rfl (by kernel_rfl) (by kernel_rfl) (by kernel_rfl) (fun _ _ _ h => h) (by rfl) (by assumption) ?_ ?_
          rotate_left
          · intro w' hSw; (try dsimp only at hSw); go_simp; try exact rfl
          try simp only [List.setIfInBounds_toArray, List.set_cons_zero, List.set_cons_succ]
          refine takeYes (i := 25) (d := 41) (v := ?_) rfl rfl (by kernel_rfl) (by kernel_rfl) (by kernel_rfl) (fun _ _ _ h => h) (by rfl) (by assumption) ?_ ?_
          rotate_left
          · intro w' hSw; (try dsimp only at hSw); go_simp; try exact rfl
          try simp only [List.setIfInBounds_toArray, List.set_cons_zero, List.set_cons_succ]
          refine wpAnyH_done (by kernel_rfl) ?_ _
          go_wp2
          go_returns
          refine ⟨ret_bool ?_, by repeat (first | exact Below.refl _ _ | refine Below.drew ?_ | refine Below.alloc ?_ (by first | (simp; done) | (simp; omega) | omega) _ | refine Below.setCell ?_ (by first | (simp; done) | (simp; omega) | omega) _ | refine bstep (by assumption) (by first | (simp; done) | (simp; omega) | omega) ?_)⟩
          unfold okSch
          rw [HE.out, HS.out, okCols_no hin]
          simp
        | true =>
          go_wp2_with fail
          refine wp_region_held_drew (S := (fun w' => w'.cell? ⟨wo.heap.size, 0, none⟩ = some (.string x.s) ∧ w'.cell? ⟨wo.heap.size, 1, none⟩ = some (.slice ur x.cs.length cr))) (by kernel_rfl) ?_ (fun hHeld => ?_)
          · (try dsimp only); refine ⟨?_, ?_⟩ <;> first | (go_simp; done) | (exact cell_later (by assumption) (by go_simp))
          refine takeYes (i := 0) (d := 16) (v := ?_) rfl rfl (by kernel_rfl) (by kernel_rfl) (by kernel_rfl) (fun _ _ _ h => h) (by rfl) (by assumption) ?_ ?_
          rotate_left
          · intro w' hSw; (try dsimp only at hSw); go_simp; try exact rfl
          try simp only [List.setIfInBounds_toArray, List.set_cons_zero, List.set_cons_succ]
          refine takeYes (i := 1) (d := 17) (v := ?_) rfl rfl (by kernel_rfl) (by kernel_rfl) (by kernel_rfl) (fun _ _ _ h => h) (by rfl) (by assumption) ?_ ?_
          rotate_left
          · intro w' hSw; (try dsimp only at hSw); go_simp; try exact rfl
          try simp only [List.setIfInBounds_toArray, List.set_cons_zero, List.set_cons_succ]
          refine wpAnyH_ready (rs := [2]) (by kernel_rfl) (by simp) ?_
          refine AllReadyH.cons rfl (fun K hK => ?_) AllReadyH.nil
          go_simp
          go_at_call 78
          refine (specName_any x.s _ hxs).mono ?_
          rintro e w1 ⟨rfl, rfl⟩
          try go_wp2_with fail
          refine hK.out _ _ ?_ (fun hHeld2 => ?_)
          · (try dsimp only); refine ⟨?_, ?_⟩ <;> first | (go_simp; done) | (exact cell_later (by assumption) (by go_simp))
          clear hK
          refine takeYes (i := 3) (d := 19) (v := ?_) rfl rfl (by kernel_rfl) (by kernel_rfl) (by kernel_rfl) (fun _ _ _ h => h) (by rfl) (by assumption) ?_ ?_
          rotate_left
          · intro w' hSw; (try dsimp only at hSw); go_simp; try exact rfl
          try simp only [List.setIfInBounds_toArray, List.set_cons_zero, List.set_cons_succ]
          refine takeYes (i := 4) (d := 20) (v := ?_) rfl rfl (by kernel_rfl) (by kernel_rfl) (by kernel_rfl) (fun _ _ _ h => h) (by rfl) (by assumption) ?_ ?_
          rotate_left
          · intro w' hSw; (try dsimp only at hSw); go_simp; try exact rfl
          try simp only [List.setIfInBounds_toArray, List.set_cons_zero, List.set_cons_succ]
          refine takeYes (i := 5) (d := 21) (v := ?_) rfl rfl (by kernel_rfl) (by kernel_rfl) (by kernel_rfl) (fun _ _ _ h => h) (by rfl) (by assumption) ?_ ?_
          rotate_left
          · intro w' hSw; (try dsimp only at hSw); go_simp; try exact rfl
          try simp only [List.setIfInBounds_toArray, List.set_cons_zero, List.set_cons_succ]
          refine takeYes (i := 6) (d := 22) (v := ?_) rfl rfl (by kernel_rfl) (by kernel_rfl) (by kernel_rfl) (fun _ _ _ h => h) (by rfl) (by assumption) ?_ ?_
          rotate_left
          · intro w' hSw; (try dsimp only at hSw); go_simp; try exact rfl
          try simp only [List.setIfInBounds_toArray, List.set_cons_zero, List.set_cons_succ]
          refine takeYes (i := 7) (d := 23) (v := ?_) rfl rfl (by kernel_rfl) (by kernel_rfl) (by kernel_rfl) (fun _ _ _ h => h) (by rfl) (by assumption) ?_ ?_
          rotate_left
          · intro w' hSw; (try dsimp only at hSw); go_simp; try exact rfl
          try simp only [List.setIfInBounds_toArray, List.set_cons_zero, List.set_cons_succ]
          refine takeNo (i := 8) (d := 24) rfl rfl (by kernel_rfl) (by kernel_rfl) (by kernel_rfl) (fun _ _ _ h => h) (by rfl) (by assumption) ?_
          try simp only [List.setIfInBounds_toArray, List.set_cons_zero, List.set_cons_succ]
          refine takeNo (i := 9) (d := 25) rfl rfl (by kernel_rfl) (by kernel_rfl) (by kernel_rfl) (fun _ _ _ h => h) (by rfl) (by assumption) ?_
          try simp only [List.setIfInBounds_toArray, List.set_cons_zero, List.set_cons_succ]
          refine takeNo (i := 10) (d := 26) rfl rfl (by kernel_rfl) (by kernel_rfl) (by kernel_rfl) (fun _ _ _ h => h) (by rfl) (by assumption) ?_
          try simp only [List.setIfInBounds_toArray, List.set_cons_zero, List.set_cons_succ]
          refine takeNo (i := 11) (d := 27) rfl rfl (by kernel_rfl) (by kernel_rfl) (by kernel_rfl) (fun _ _ _ h => h) (by rfl) (by assumption) ?_
          try simp only [List.setIfInBounds_toArray, List.set_cons_zero, List.set_cons_succ]
          refine takeNo (i := 12) (d := 28) rfl rfl (by kernel_rfl) (by kernel_rfl) (by kernel_rfl) (fun _ _ _ h => h) (by rfl) (by assumption) ?_
          try simp only [List.setIfInBounds_toArray, List.set_cons_zero, List.set_cons_succ]
          refine takeNo (i := 13) (d := 29) rfl rfl (by kernel_rfl) (by kernel_rfl) (by kernel_rfl) (fun _ _ _ h => h) (by rfl) (by assumption) ?_
          try simp only [List.setIfInBounds_toArray, List.set_cons_zero, List.set_cons_succ]
          refine takeNo (i := 14) (d := 30) rfl rfl (by kernel_rfl) (by kernel_rfl) (by kernel_rfl) (fun _ _ _ h => h) (by rfl) (by assumption) ?_
          try simp only [List.setIfInBounds_toArray, List.set_cons_zero, List.set_cons_succ]
          refine takeNo (i := 15) (d := 31) rfl rfl (by kernel_rfl) (by kernel_rfl) (by kernel_rfl) (fun _ _ _ h => h) (by rfl) (by assumption) ?_
          try simp only [List.setIfInBounds_toArray, List.set_cons_zero, List.set_cons_succ]
          refine takeNo (i := 16) (d := 32) rfl rfl (by kernel_rfl) (by kernel_rfl) (by kernel_rfl) (fun _ _ _ h => h) (by rfl) (by assumption) ?_
          try simp only [List.setIfInBounds_toArray, List.set_cons_zero, List.set_cons_succ]
          refine takeYes (i := 17) (d := 33) (v := ?_) rfl rfl (by kernel_rfl) (by kernel_rfl) (by kernel_rfl) (fun _ _ _ h => h) (by rfl) (by assumption) ?_ ?_
          rotate_left
          · intro w' hSw; (try dsimp only at hSw); go_simp; try exact rfl
          try simp only [List.setIfInBounds_toArray, List.set_cons_zero, List.set_cons_succ]
          refine takeYes (i := 18) (d := 34) (v := ?_) rfl rfl (by kernel_rfl) (by kernel_rfl) (by kernel_rfl) (fun _ _ _ h => h) (by rfl) (by assumption) ?_ ?_
          rotate_left
          · intro w' hSw; (try dsimp only at hSw); go_simp; try exact rfl
          try simp only [List.setIfInBounds_toArray, List.set_cons_zero, List.set_cons_succ]
          refine takeYes (i := 19) (d := 35) (v := ?_) rfl rfl (by kernel_rfl) (by kernel_rfl) (by kernel_rfl) (fun _ _ _ h => h) (by rfl) (by assumption) ?_ ?_
          rotate_left
          · intro w' hSw; (try dsimp only at hSw); go_simp; try exact rfl
          try simp only [List.setIfInBounds_toArray, List.set_cons_zero, List.set_cons_succ]
          refine takeYes (i := 20) (d := 36) (v := ?_) rfl rfl (by kernel_rfl) (by kernel_rfl) (by kernel_rfl) (fun _ _ _ h => h) (by rfl) (by assumption) ?_ ?_
          rotate_left
          · intro w' hSw; (try dsimp only at hSw); go_simp; try exact rfl
          try simp only [List.setIfInBounds_toArray, List.set_cons_zero, List.set_cons_succ]
          refine takeYes (i := 21) (d := 37) (v := ?_) rfl rfl (by kernel_rfl) (by kernel_rfl) (by kernel_rfl) (fun _ _ _ h => h) (by rfl) (by assumption) ?_ ?_
          rotate_left
          · intro w' hSw; (try dsimp only at hSw); go_simp; try exact rfl
          try simp only [List.setIfInBounds_toArray, List.set_cons_zero, List.set_cons_succ]
          refine takeYes (i := 22) (d := 38) (v := ?_) rfl rfl (by kernel_rfl) (by kernel_rfl) (by kernel_rfl) (fun _ _ _ h => h) (by rfl) (by assumption) ?_ ?_
          rotate_left
          · intro w' hSw; (try dsimp only at hSw); go_simp; try exact rfl
          try simp only [List.setIfInBounds_toArray, List.set_cons_zero, List.set_cons_succ]
          refine wpAnyH_ready (rs := [23]) (by kernel_rfl) (by simp) ?_
          refine AllReadyH.cons rfl (fun K hK => ?_) AllReadyH.nil
          go_simp
          go_at_call 79
          refine (l01InN_any _ _ _ _).mono ?_
          rintro e w1 ⟨rfl, rfl⟩
          try go_wp2_with fail
          refine hK.out _ _ ?_ (fun hHeld23 => ?_)
          · (try dsimp only); refine ⟨?_, ?_⟩ <;> first | (go_simp; done) | (exact cell_later (by assumption) (by go_simp))
          clear hK
          refine takeYes (i := 24) (d := 40) (v := ?_) rfl rfl (by kernel_rfl) (by kernel_rfl) (by kernel_rfl) (fun _ _ _ h => h) (by rfl) (by assumption) ?_ ?_
          rotate_left
          · intro w' hSw; (try dsimp only at hSw); go_simp; try exact rfl
          try simp only [List.setIfInBounds_toArray, List.set_cons_zero, List.set_cons_succ]
          refine takeYes (i := 25) (d := 41) (v := ?_) rfl rfl (by kernel_rfl) (by kernel_rfl) (by kernel_rfl) (fun _ _ _ h => h) (by rfl) (by assumption) ?_ ?_
          rotate_left
          · intro w' hSw; (try dsimp only at hSw); go_simp; try exact rfl
          try simp only [List.setIfInBounds_toArray, List.set_cons_zero, List.set_cons_succ]
          refine wpAnyH_done (by kernel_rfl) ?_ _
          go_wp2_with fail
          have hb5 : Below wo.heap.size wo (wo.alloc (.cells #[.string x.s, .slice ur x.cs.length cr] 122)).drew := by repeat (first | (with_reducible exact Below.refl _ _) | (with_reducible refine Below.drew ?_) | (with_reducible refine Below.alloc ?_ ?hh _; case hh => first | (simp; done) | (simp; omega) | omega) | (with_reducible refine Below.setCell ?_ ?hh _; case hh => first | (simp; done) | (simp; omega) | omega) | refine bstep (by assumption) (by first | (simp; done) | (simp; omega) | omega) ?_)
          have q1 : ((wo.alloc (.cells #[.string x.s, .slice ur x.cs.length cr] 122)).drew).cell? ⟨wo.heap.size, 1, none⟩ = some (.slice ur x.cs.length cr) := hHeld23.2
          have hs5 : wo.heap.size < ((wo.alloc (.cells #[.string x.s, .slice ur x.cs.length cr] 122)).drew).heap.size := by simp
          clear hHeld hHeld2 hHeld23
          generalize (wo.alloc (.cells #[.string x.s, .slice ur x.cs.length cr] 122)).drew = w5 at hb5 q1 hs5 ⊢
          have hR5 := hR.below hb5
          have hbw5 : Below w.heap.size w w5 := hb.trans (hb5.mono hzb)
          go_loopw [5] (fun i wi => ∃ n : Nat, n ≤ x.cs.length ∧ i = .int .i64 n ∧ Below w5.heap.size w5 wi ∧ colsB [] x.cs = colsB (x.cs.take n) (x.cs.drop n)) (fun i _ => x.cs.length - (intOf i).toNat)
          case atStart => exact ⟨0, Nat.zero_le _, rfl, Below.refl _ _, by simp⟩
          case round =>
            obtain ⟨n, hn, rfl, hbi, heq2⟩ := hrel
            have HE2 : Hid (colsB [] x.cs = colsB (x.cs.take n) (x.cs.drop n)) := heq2
            clear heq2
            have hzi := hbi.size
            have qi : wr.cell? ⟨wo.heap.size, 1, none⟩ = some (.slice ur x.cs.length cr) := (hbi.cell (p := ⟨wo.heap.size, 1, none⟩) hs5).trans q1
            have hsi : wo.heap.size < wr.heap.size := by omega
            have hbwi : Below w.heap.size w wr := hbw5.trans (hbi.mono hbw5.size)
            by_cases hnl : n < x.cs.length
            · have hRi := hR5.below hbi
              obtain ⟨m, hm⟩ : ∃ m, x.cs[n]? = some m := ⟨x.cs[n], by simp [hnl]⟩
              obtain ⟨g', hcut⟩ := hRi.cut hn
              obtain ⟨a', c', bc, oc, e, _, _, _, h4⟩ := hRi.pick
              obtain ⟨rfl, _, rfl⟩ : ur = a' ∧ x.cs.length = x.cs.length ∧ cr = c' := by injection e with e1 e2 e3; exact ⟨e1, e2, e3⟩
              obtain ⟨rfl, hbc, _, hcell⟩ := h4 n hnl
              have hcm1 := hcell n m hm
              have hms := hxw m (List.mem_of_getElem? hm)
              have HS2 : Hid (colsB (x.cs.take n) (x.cs.drop n) = (nameB m && !hasS (x.cs.take n) m && colsB (x.cs.take (n + 1)) (x.cs.drop (n + 1)))) := colsB_step hm
              have HC : Hid (okCols x.cs = colsB [] x.cs) := okCols_cols hin
              have hncr : n ≤ cr := by omega
              clear h4 hcell hm hRi hR5 hR hxw q1 hin e
              by_cases hnm2 : nameB m = true
              rotate_left
              · have hf2 : nameB m = false := by simpa using hnm2
                have HF2 : Hid (nameB m = false) := hf2
                go_wp2_with fail
                refine wp_region_held_drew (S := (fun w' => w'.cell? ⟨wo.heap.size, 1, none⟩ = some (.slice (some ⟨bc, oc, none⟩) x.cs.length cr) ∧ w'.cell? ⟨bc, oc + n, none⟩ = some (.string m))) (by kernel_rfl) ?_ (fun hHeld => ?_)
                · (try dsimp only); refine ⟨?_, ?_⟩ <;> first | (go_simp; done) | (exact cell_later (by assumption) (by go_simp))
                refine takeYes (i := 0) (d := 49) (v := ?_) rfl rfl (by kernel_rfl) (by kernel_rfl) (by kernel_rfl) (fun _ _ _ h => h) (by rfl) (by assumption) ?_ ?_
                rotate_left
                · intro w' hSw; (try dsimp only at hSw); go_simp; try exact rfl
                try simp only [List.setIfInBounds_toArray, List.set_cons_zero, List.set_cons_succ]
                refine takeYes (i := 1) (d := 50) (v := ?_) rfl rfl (by kernel_rfl) (by kernel_rfl) (by kernel_rfl) (fun _ _ _ h => h) (by rfl) (by assumption) ?_ ?_
                rotate_left
                · intro w' hSw; (try dsimp only at hSw); go_simp; try exact rfl
                try simp only [List.setIfInBounds_toArray, List.set_cons_zero, List.set_cons_succ]
                refine takeYes (i := 2) (d := 51) (v := ?_) rfl rfl (by kernel_rfl) (by kernel_rfl) (by kernel_rfl) (fun _ _ _ h => h) (by rfl) (by assumption) ?_ ?_
                rotate_left
                · intro w' hSw; (try dsimp only at hSw); go_simp; try exact rfl
                try simp only [List.setIfInBounds_toArray, List.set_cons_zero, List.set_cons_succ]
                refine takeYes (i := 3) (d := 52) (v := ?_) rfl rfl (by kernel_rfl) (by kernel_rfl) (by kernel_rfl) (fun _ _ _ h => h) (by rfl) (by assumption) ?_ ?_
                rotate_left
                · intro w' hSw; (try dsimp only at hSw); go_simp; try exact rfl
                try simp only [List.setIfInBounds_toArray, List.set_cons_zero, List.set_cons_succ]
                refine takeYes (i := 4) (d := 53) (v := ?_) rfl rfl (by kernel_rfl) (by kernel_rfl) (by kernel_rfl) (fun _ _ _ h => h) (by rfl) (by assumption) ?_ ?_
                rotate_left
                · intro w' hSw; (try dsimp only at hSw); go_simp; try exact rfl
                try simp only [List.setIfInBounds_toArray, List.set_cons_zero, List.set_cons_succ]
                refine wpAnyH_ready (rs := [5]) (by kernel_rfl) (by simp) ?_
                refine AllReadyH.cons rfl (fun K hK => ?_) AllReadyH.nil
                go_simp
                go_at_call 78
                refine (specName_any m _ hms).mono ?_
                rintro e w1 ⟨rfl, rfl⟩
                try go_wp2_with fail
                refine hK.out _ _ ?_ (fun hHeld5 => ?_)
                · (try dsimp only); refine ⟨?_, ?_⟩ <;> first | (go_simp; done) | (exact cell_later (by assumption) (by go_simp))
                clear hK
                refine takeYes (i := 6) (d := 55) (v := ?_) rfl rfl (by kernel_rfl) (by kernel_rfl) (by kernel_rfl) (fun _ _ _ h => h) (by rfl) (by assumption) ?_ ?_
                rotate_left
                · intro w' hSw; (try dsimp only at hSw); go_simp; try exact rfl
                try simp only [List.setIfInBounds_toArray, List.set_cons_zero, List.set_cons_succ]
                refine takeYes (i := 7) (d := 56) (v := ?_) rfl rfl (by kernel_rfl) (by kernel_rfl) (by kernel_rfl) (fun _ _ _ h => h) (by rfl) (by assumption) ?_ ?_
                rotate_left
                · intro w' hSw; (try dsimp only at hSw); go_simp; try exact rfl
                try simp only [List.setIfInBounds_toArray, List.set_cons_zero, List.set_cons_succ]
                refine takeNo (i := 8) (d := 57) rfl rfl (by kernel_rfl) (by kernel_rfl) (by kernel_rfl) (fun _ _ _ h => h) (by rfl) (by assumption) ?_
                try simp only [List.setIfInBounds_toArray, List.set_cons_zero, List.set_cons_succ]
                refine takeNo (i := 9) (d := 58) rfl rfl (by kernel_rfl) (by kernel_rfl) (by kernel_rfl) (fun _ _ _ h => h) (by rfl) (by assumption) ?_
                try simp only [List.setIfInBounds_toArray, List.set_cons_zero, List.set_cons_succ]
                refine takeNo (i := 10) (d := 59) rfl rfl (by kernel_rfl) (by kernel_rfl) (by kernel_rfl) (fun _ _ _ h => h) (by rfl) (by assumption) ?_
                try simp only [List.setIfInBounds_toArray, List.set_cons_zero, List.set_cons_succ]
                refine takeNo (i := 11) (d := 60) rfl rfl (by kernel_rfl) (by kernel_rfl) (by kernel_rfl) (fun _ _ _ h => h) (by rfl) (by assumption) ?_
                try simp only [List.setIfInBounds_toArray, List.set_cons_zero, List.set_cons_succ]
                refine takeNo (i := 12) (d := 61) rfl rfl (by kernel_rfl) (by kernel_rfl) (by kernel_rfl) (fun _ _ _ h => h) (by rfl) (by assumption) ?_
                try simp only [List.setIfInBounds_toArray, List.set_cons_zero, List.set_cons_succ]
                refine takeNo (i := 13) (d := 62) rfl rfl (by kernel_rfl) (by kernel_rfl) (by kernel_rfl) (fun _ _ _ h => h) (by rfl) (by assumption) ?_
                try simp only [List.setIfInBounds_toArray, List.set_cons_zero, List.set_cons_succ]
                refine takeNo (i := 14) (d := 63) rfl rfl (by kernel_rfl) (by kernel_rfl) (by kernel_rfl) (fun _ _ _ h => h) (by rfl) (by assumption) ?_
                try simp only [List.setIfInBounds_toArray, List.set_cons_zero, List.set_cons_succ]
                refine takeNo (i := 15) (d := 64) rfl rfl (by kernel_rfl) (by kernel_rfl) (by kernel_rfl) (fun _ _ _ h => h) (by rfl) (by assumption) ?_
                try simp only [List.setIfInBounds_toArray, List.set_cons_zero, List.set_cons_succ]
                refine takeNo (i := 16) (d := 65) rfl rfl (by kernel_rfl) (by kernel_rfl) (by kernel_rfl) (fun _ _ _ h => h) (by rfl) (by assumption) ?_
                try simp only [List.setIfInBounds_toArray, List.set_cons_zero, List.set_cons_succ]
                refine wpAnyH_ready (rs := [17]) (by kernel_rfl) (by simp) ?_
                refine AllReadyH.cons rfl (fun K hK => ?_) AllReadyH.nil
                go_simp
                refine hK.out _ _ ?_ (fun hHeld17 => ?_)
                · (try dsimp only); refine ⟨?_, ?_⟩ <;> first | (go_simp; done) | (exact cell_later (by assumption) (by go_simp))
                clear hK
                refine takeYes (i := 18) (d := 67) (v := ?_) rfl rfl (by kernel_rfl) (by kernel_rfl) (by kernel_rfl) (fun _ _ _ h => h) (by rfl) (by assumption) ?_ ?_
                rotate_left
                · intro w' hSw; (try dsimp only at hSw); go_simp; try exact rfl
                try simp only [List.setIfInBounds_toArray, List.set_cons_zero, List.set_cons_succ]
                refine wpAnyH_done (by kernel_rfl) ?_ _
                go_wp2
                go_returns
                refine ⟨ret_bool ?_, by repeat (first | exact Below.refl _ _ | refine Below.drew ?_ | refine Below.alloc ?_ (by first | (simp; done) | (simp; omega) | omega) _ | refine Below.setCell ?_ (by first | (simp; done) | (simp; omega) | omega) _ | refine bstep (by assumption) (by first | (simp; done) | (simp; omega) | omega) ?_)⟩
                unfold okSch
                rw [HE.out, HS.out, HC.out, HE2.out, HS2.out, HF2.out]
                simp
              have HN2 : Hid (nameB m = true) := hnm2
              obtain ⟨hs, HH⟩ : ∃ hs, Hid (hasS (x.cs.take n) m = hs) := ⟨_, rfl⟩
              cases hs with
              | true =>
                go_wp2_with fail
                refine wp_region_held_drew (S := (fun w' => w'.cell? ⟨wo.heap.size, 1, none⟩ = some (.slice (some ⟨bc, oc, none⟩) x.cs.length cr) ∧ w'.cell? ⟨bc, oc + n, none⟩ = some (.string m))) (by kernel_rfl) ?_ (fun hHeld => ?_)
                · (try dsimp only); refine ⟨?_, ?_⟩ <;> first | (go_simp; done) | (exact cell_later (by assumption) (by go_simp))
                refine takeYes (i := 0) (d := 49) (v := ?_) rfl rfl (by kernel_rfl) (by kernel_rfl) (by kernel_rfl) (fun _ _ _ h => h) (by rfl) (by assumption) ?_ ?_
                rotate_left
                · intro w' hSw; (try dsimp only at hSw); go_simp; try exact rfl
                try simp only [List.setIfInBounds_toArray, List.set_cons_zero, List.set_cons_succ]
                refine takeYes (i := 1) (d := 50) (v := ?_) rfl rfl (by kernel_rfl) (by kernel_rfl) (by kernel_rfl) (fun _ _ _ h => h) (by rfl) (by assumption) ?_ ?_
                rotate_left
                · intro w' hSw; (try dsimp only at hSw); go_simp; try exact rfl
                try simp only [List.setIfInBounds_toArray, List.set_cons_zero, List.set_cons_succ]
                refine takeYes (i := 2) (d := 51) (v := ?_) rfl rfl (by kernel_rfl) (by kernel_rfl) (by kernel_rfl) (fun _ _ _ h => h) (by rfl) (by assumption) ?_ ?_
                rotate_left
                · intro w' hSw; (try dsimp only at hSw); go_simp; try exact rfl
                try simp only [List.setIfInBounds_toArray, List.set_cons_zero, List.set_cons_succ]
                refine takeYes (i := 3) (d := 52) (v := ?_) rfl rfl (by kernel_rfl) (by kernel_rfl) (by kernel_rfl) (fun _ _ _ h => h) (by rfl) (by assumption) ?_ ?_
                rotate_left
                · intro w' hSw; (try dsimp only at hSw); go_simp; try exact rfl
                try simp only [List.setIfInBounds_toArray, List.set_cons_zero, List.set_cons_succ]
                refine takeYes (i := 4) (d := 53) (v := ?_) rfl rfl (by kernel_rfl) (by kernel_rfl) (by kernel_rfl) (fun _ _ _ h => h) (by rfl) (by assumption) ?_ ?_
                rotate_left
                · intro w' hSw; (try dsimp only at hSw); go_simp; try exact rfl
                try simp only [List.setIfInBounds_toArray, List.set_cons_zero, List.set_cons_succ]
                refine wpAnyH_ready (rs := [5]) (by kernel_rfl) (by simp) ?_
                refine AllReadyH.cons rfl (fun K hK => ?_) AllReadyH.nil
                go_simp
                go_at_call 78
                refine (specName_any m _ hms).mono ?_
                rintro e w1 ⟨rfl, rfl⟩
                try go_wp2_with fail
                refine hK.out _ _ ?_ (fun hHeld5 => ?_)
                · (try dsimp only); refine ⟨?_, ?_⟩ <;> first | (go_simp; done) | (exact cell_later (by assumption) (by go_simp))
                clear hK
                refine takeYes (i := 6) (d := 55) (v := ?_) rfl rfl (by kernel_rfl) (by kernel_rfl) (by kernel_rfl) (fun _ _ _ h => h) (by rfl) (by assumption) ?_ ?_
                rotate_left
                · intro w' hSw; (try dsimp only at hSw); go_simp; try exact rfl
                try simp only [List.setIfInBounds_toArray, List.set_cons_zero, List.set_cons_succ]
                refine takeYes (i := 7) (d := 56) (v := ?_) rfl rfl (by kernel_rfl) (by kernel_rfl) (by kernel_rfl) (fun _ _ _ h => h) (by rfl) (by assumption) ?_ ?_
                rotate_left
                · intro w' hSw; (try dsimp only at hSw); go_simp; try exact rfl
                try simp only [List.setIfInBounds_toArray, List.set_cons_zero, List.set_cons_succ]
                refine takeYes (i := 8) (d := 57) (v := ?_) rfl rfl (by kernel_rfl) (by kernel_rfl) (by kernel_rfl) (fun _ _ _ h => h) (by rfl) (by assumption) ?_ ?_
                rotate_left
                · intro w' hSw; (try dsimp only at hSw); go_simp; try exact rfl
                try simp only [List.setIfInBounds_toArray, List.set_cons_zero, List.set_cons_succ]
                refine takeYes (i := 9) (d := 58) (v := ?_) rfl rfl (by kernel_rfl) (by kernel_rfl) (by kernel_rfl) (fun _ _ _ h => h) (by rfl) (by assumption) ?_ ?_
                rotate_left
                · intro w' hSw; (try dsimp only at hSw); go_simp; try exact rfl
                try simp only [List.setIfInBounds_toArray, List.set_cons_zero, List.set_cons_succ]
                refine takeYes (i := 10) (d := 59) (v := ?_) rfl rfl (by kernel_rfl) (by kernel_rfl) (by kernel_rfl) (fun _ _ _ h => h) (by rfl) (by assumption) ?_ ?_
                rotate_left
                · intro w' hSw; (try dsimp only at hSw); go_simp; try exact rfl
                try simp only [List.setIfInBounds_toArray, List.set_cons_zero, List.set_cons_succ]
                refine takeYes (i := 11) (d := 60) (v := ?_) rfl rfl (by kernel_rfl) (by kernel_rfl) (by kernel_rfl) (fun _ _ _ h => h) (by rfl) (by assumption) ?_ ?_
                rotate_left
                · intro w' hSw; (try dsimp only at hSw); go_simp; try exact rfl
                try simp only [List.setIfInBounds_toArray, List.set_cons_zero, List.set_cons_succ]
                refine takeYes (i := 12) (d := 61) (v := ?_) rfl rfl (by kernel_rfl) (by kernel_rfl) (by kernel_rfl) (fun _ _ _ h => h) (by rfl) (by assumption) ?_ ?_
                rotate_left
                · intro w' hSw; (try dsimp only at hSw); go_simp; try exact rfl
                try simp only [List.setIfInBounds_toArray, List.set_cons_zero, List.set_cons_succ]
                refine takeYes (i := 13) (d := 62) (v := ?_) rfl rfl (by kernel_rfl) (by kernel_rfl) (by kernel_rfl) (fun _ _ _ h => h) (by rfl) (by assumption) ?_ ?_
                rotate_left
                · intro w' hSw; (try dsimp only at hSw); go_simp; try exact rfl
                try simp only [List.setIfInBounds_toArray, List.set_cons_zero, List.set_cons_succ]
                refine takeYes (i := 14) (d := 63) (v := ?_) rfl rfl (by kernel_rfl) (by kernel_rfl) (by kernel_rfl) (fun _ _ _ h => h) (by rfl) (by assumption) ?_ ?_
                rotate_left
                · intro w' hSw; (try dsimp only at hSw); go_simp; try exact rfl
                try simp only [List.setIfInBounds_toArray, List.set_cons_zero, List.set_cons_succ]
                refine takeYes (i := 15) (d := 64) (v := ?_) rfl rfl (by kernel_rfl) (by kernel_rfl) (by kernel_rfl) (fun _ _ _ h => h) (by rfl) (by assumption) ?_ ?_
                rotate_left
                · intro w' hSw; (try dsimp only at hSw); go_simp; try exact rfl
                try simp only [List.setIfInBounds_toArray, List.set_cons_zero, List.set_cons_succ]
                refine takeYes (i := 16) (d := 65) (v := ?_) rfl rfl (by kernel_rfl) (by kernel_rfl) (by kernel_rfl) (fun _ _ _ h => h) (by rfl) (by assumption) ?_ ?_
                rotate_left
                · intro w' hSw; (try dsimp only at hSw); go_simp; try exact rfl
                try simp only [List.setIfInBounds_toArray, List.set_cons_zero, List.set_cons_succ]
                refine wpAnyH_ready (rs := [17]) (by kernel_rfl) (by simp) ?_
                refine AllReadyH.cons rfl (fun K hK => ?_) AllReadyH.nil
                go_simp
                go_at_call 110
                refine Calls.mono (l03HasF_any _ _ g' m _ (hcut.below (by repeat (first | exact Below.refl _ _ | refine Below.drew ?_ | refine Below.alloc ?_ (by first | (simp; done) | (simp; omega) | omega) _ | refine Below.setCell ?_ (by first | (simp; done) | (simp; omega) | omega) _ | refine bstep (by assumption) (by first | (simp; done) | (simp; omega) | omega) ?_)))) ?_
                rw [HH.out]
                rintro e w1 ⟨rfl, rfl⟩
                try go_wp2_with fail
                refine hK.out _ _ ?_ (fun hHeld17 => ?_)
                · (try dsimp only); refine ⟨?_, ?_⟩ <;> first | (go_simp; done) | (exact cell_later (by assumption) (by go_simp))
                clear hK
                refine takeYes (i := 18) (d := 67) (v := ?_) rfl rfl (by kernel_rfl) (by kernel_rfl) (by kernel_rfl) (fun _ _ _ h => h) (by rfl) (by assumption) ?_ ?_
                rotate_left
                · intro w' hSw; (try dsimp only at hSw); go_simp; try exact rfl
                try simp only [List.setIfInBounds_toArray, List.set_cons_zero, List.set_cons_succ]
                refine wpAnyH_done (by kernel_rfl) ?_ _
                go_wp2
                go_returns
                refine ⟨ret_bool ?_, by repeat (first | exact Below.refl _ _ | refine Below.drew ?_ | refine Below.alloc ?_ (by first | (simp; done) | (simp; omega) | omega) _ | refine Below.setCell ?_ (by first | (simp; done) | (simp; omega) | omega) _ | refine bstep (by assumption) (by first | (simp; done) | (simp; omega) | omega) ?_)⟩
                unfold okSch
                rw [HE.out, HS.out, HC.out, HE2.out, HS2.out, HN2.out, HH.out]
                simp
              | false =>
                go_wp2_with fail
                refine wp_region_held_drew (S := (fun w' => w'.cell? ⟨wo.heap.size, 1, none⟩ = some (.slice (some ⟨bc, oc, none⟩) x.cs.length cr) ∧ w'.cell? ⟨bc, oc + n, none⟩ = some (.string m))) (by kernel_rfl) ?_ (fun hHeld => ?_)
                · (try dsimp only); refine ⟨?_, ?_⟩ <;> first | (go_simp; done) | (exact cell_later (by assumption) (by go_simp))
                refine takeYes (i := 0) (d := 49) (v := ?_) rfl rfl (by kernel_rfl) (by kernel_rfl) (by kernel_rfl) (fun _ _ _ h => h) (by rfl) (by assumption) ?_ ?_
                rotate_left
                · intro w' hSw; (try dsimp only at hSw); go_simp; try exact rfl
                try simp only [List.setIfInBounds_toArray, List.set_cons_zero, List.set_cons_succ]
                refine takeYes (i := 1) (d := 50) (v := ?_) rfl rfl (by kernel_rfl) (by kernel_rfl) (by kernel_rfl) (fun _ _ _ h => h) (by rfl) (by assumption) ?_ ?_
                rotate_left
                · intro w' hSw; (try dsimp only at hSw); go_simp; try exact rfl
                try simp only [List.setIfInBounds_toArray, List.set_cons_zero, List.set_cons_succ]
                refine takeYes (i := 2) (d := 51) (v := ?_) rfl rfl (by kernel_rfl) (by kernel_rfl) (by kernel_rfl) (fun _ _ _ h => h) (by rfl) (by assumption) ?_ ?_
                rotate_left
                · intro w' hSw; (try dsimp only at hSw); go_simp; try exact rfl
                try simp only [List.setIfInBounds_toArray, List.set_cons_zero, List.set_cons_succ]
                refine takeYes (i := 3) (d := 52) (v := ?_) rfl rfl (by kernel_rfl) (by kernel_rfl) (by kernel_rfl) (fun _ _ _ h => h) (by rfl) (by assumption) ?_ ?_
                rotate_left
                · intro w' hSw; (try dsimp only at hSw); go_simp; try exact rfl
                try simp only [List.setIfInBounds_toArray, List.set_cons_zero, List.set_cons_succ]
                refine takeYes (i := 4) (d := 53) (v := ?_) rfl rfl (by kernel_rfl) (by kernel_rfl) (by kernel_rfl) (fun _ _ _ h => h) (by rfl) (by assumption) ?_ ?_
                rotate_left
                · intro w' hSw; (try dsimp only at hSw); go_simp; try exact rfl
                try simp only [List.setIfInBounds_toArray, List.set_cons_zero, List.set_cons_succ]
                refine wpAnyH_ready (rs := [5]) (by kernel_rfl) (by simp) ?_
                refine AllReadyH.cons rfl (fun K hK => ?_) AllReadyH.nil
                go_simp
                go_at_call 78
                refine (specName_any m _ hms).mono ?_
                rintro e w1 ⟨rfl, rfl⟩
                try go_wp2_with fail
                refine hK.out _ _ ?_ (fun hHeld5 => ?_)
                · (try dsimp only); refine ⟨?_, ?_⟩ <;> first | (go_simp; done) | (exact cell_later (by assumption) (by go_simp))
                clear hK
                refine takeYes (i := 6) (d := 55) (v := ?_) rfl rfl (by kernel_rfl) (by kernel_rfl) (by kernel_rfl) (fun _ _ _ h => h) (by rfl) (by assumption) ?_ ?_
                rotate_left
                · intro w' hSw; (try dsimp only at hSw); go_simp; try exact rfl
                try simp only [List.setIfInBounds_toArray, List.set_cons_zero, List.set_cons_succ]
                refine takeYes (i := 7) (d := 56) (v := ?_) rfl rfl (by kernel_rfl) (by kernel_rfl) (by kernel_rfl) (fun _ _ _ h => h) (by rfl) (by assumption) ?_ ?_
                rotate_left
                · intro w' hSw; (try dsimp only at hSw); go_simp; try exact rfl
                try simp only [List.setIfInBounds_toArray, List.set_cons_zero, List.set_cons_succ]
                refine takeYes (i := 8) (d := 57) (v := ?_) rfl rfl (by kernel_rfl) (by kernel_rfl) (by kernel_rfl) (fun _ _ _ h => h) (by rfl) (by assumption) ?_ ?_
                rotate_left
                · intro w' hSw; (try dsimp only at hSw); go_simp; try exact rfl
                try simp only [List.setIfInBounds_toArray, List.set_cons_zero, List.set_cons_succ]
                refine takeYes (i := 9) (d := 58) (v := ?_) rfl rfl (by kernel_rfl) (by kernel_rfl) (by kernel_rfl) (fun _ _ _ h => h) (by rfl) (by assumption) ?_ ?_
                rotate_left
                · intro w' hSw; (try dsimp only at hSw); go_simp; try exact rfl
                try simp only [List.setIfInBounds_toArray, List.set_cons_zero, List.set_cons_succ]
                refine takeYes (i := 10) (d := 59) (v := ?_) rfl rfl (by kernel_rfl) (by kernel_rfl) (by kernel_rfl) (fun _ _ _ h => h) (by rfl) (by assumption) ?_ ?_
                rotate_left
                · intro w' hSw; (try dsimp only at hSw); go_simp; try exact rfl
                try simp only [List.setIfInBounds_toArray, List.set_cons_zero, List.set_cons_succ]
                refine takeYes (i := 11) (d := 60) (v := ?_) rfl rfl (by kernel_rfl) (by kernel_rfl) (by kernel_rfl) (fun _ _ _ h => h) (by rfl) (by assumption) ?_ ?_
                rotate_left
                · intro w' hSw; (try dsimp only at hSw); go_simp; try exact rfl
                try simp only [List.setIfInBounds_toArray, List.set_cons_zero, List.set_cons_succ]
                refine takeYes (i := 12) (d := 61) (v := ?_) rfl rfl (by kernel_rfl) (by kernel_rfl) (by kernel_rfl) (fun _ _ _ h => h) (by rfl) (by assumption) ?_ ?_
                rotate_left
                · intro w' hSw; (try dsimp only at hSw); go_simp; try exact rfl
                try simp only [List.setIfInBounds_toArray, List.set_cons_zero, List.set_cons_succ]
                refine takeYes (i := 13) (d := 62) (v := ?_) rfl rfl (by kernel_rfl) (by kernel_rfl) (by kernel_rfl) (fun _ _ _ h => h) (by rfl) (by assumption) ?_ ?_
                rotate_left
                · intro w' hSw; (try dsimp only at hSw); go_simp; try exact rfl
                try simp only [List.setIfInBounds_toArray, List.set_cons_zero, List.set_cons_succ]
                refine takeYes (i := 14) (d := 63) (v := ?_) rfl rfl (by kernel_rfl) (by kernel_rfl) (by kernel_rfl) (fun _ _ _ h => h) (by rfl) (by assumption) ?_ ?_
                rotate_left
                · intro w' hSw; (try dsimp only at hSw); go_simp; try exact rfl
                try simp only [List.setIfInBounds_toArray, List.set_cons_zero, List.set_cons_succ]
                refine takeYes (i := 15) (d := 64) (v := ?_) rfl rfl (by kernel_rfl) (by kernel_rfl) (by kernel_rfl) (fun _ _ _ h => h) (by rfl) (by assumption) ?_ ?_
                rotate_left
                · intro w' hSw; (try dsimp only at hSw); go_simp; try exact rfl
                try simp only [List.setIfInBounds_toArray, List.set_cons_zero, List.set_cons_succ]
                refine takeYes (i := 16) (d := 65) (v := ?_) rfl rfl (by kernel_rfl) (by kernel_rfl) (by kernel_rfl) (fun _ _ _ h => h) (by rfl) (by assumption) ?_ ?_
                rotate_left
                · intro w' hSw; (try dsimp only at hSw); go_simp; try exact rfl
                try simp only [List.setIfInBounds_toArray, List.set_cons_zero, List.set_cons_succ]
                refine wpAnyH_ready (rs := [17]) (by kernel_rfl) (by simp) ?_
                refine AllReadyH.cons rfl (fun K hK => ?_) AllReadyH.nil
                go_simp
                go_at_call 110
                refine Calls.mono (l03HasF_any _ _ g' m _ (hcut.below (by repeat (first | exact Below.refl _ _ | refine Below.drew ?_ | refine Below.alloc ?_ (by first | (simp; done) | (simp; omega) | omega) _ | refine Below.setCell ?_ (by first | (simp; done) | (simp; omega) | omega) _ | refine bstep (by assumption) (by first | (simp; done) | (simp; omega) | omega) ?_)))) ?_
                rw [HH.out]
                rintro e w1 ⟨rfl, rfl⟩
                try go_wp2_with fail
                refine hK.out _ _ ?_ (fun hHeld17 => ?_)
                · (try dsimp only); refine ⟨?_, ?_⟩ <;> first | (go_simp; done) | (exact cell_later (by assumption) (by go_simp))
                clear hK
                refine takeYes (i := 18) (d := 67) (v := ?_) rfl rfl (by kernel_rfl) (by kernel_rfl) (by kernel_rfl) (fun _ _ _ h => h) (by rfl) (by assumption) ?_ ?_
                rotate_left
                · intro w' hSw; (try dsimp only at hSw); go_simp; try exact rfl
                try simp only [List.setIfInBounds_toArray, List.set_cons_zero, List.set_cons_succ]
                refine wpAnyH_done (by kernel_rfl) ?_ _
                go_wp2
                refine ⟨⟨n + 1, hnl, by simp, by (repeat (first | exact hbi | refine Below.drew ?_)), ?_⟩, by simp [intOf]; omega⟩
                rw [HE2.out, HS2.out, HN2.out, HH.out]
                simp
            · have HC : Hid (okCols x.cs = true) := by
                show okCols x.cs = true
                rw [okCols_cols hin, HE2.out, List.drop_eq_nil_of_le (by omega)]; rfl
              clear hR5 hR hxw hin q1
              go_wp2_with fail
              refine ⟨⟨1, 1, hlt, rfl, by simp, by (repeat (first | exact hbwi | refine Below.drew ?_)), ?_⟩, by simp [intOf]; omega⟩
              rw [HE.out, HS.out, hnm, HC.out, prevH_zero]
              simp [okPrevH]
      · obtain ⟨j, rfl⟩ : ∃ j, k = j + 1 := ⟨k - 1, by omega⟩
        obtain rfl : q = (j : Int) + 1 := by omega
        obtain ⟨y, t, gy, hy, d0, d1, hT, _⟩ := hL.at hblt hb (show j < rs.length by omega)
        have HP : Hid (prevH rs (j + 1) = some y) := prevH_succ hy
        have HQ : Hid (okPrevH (prevH rs (j + 1)) x = Op.bytesLess y.s.toList x.s.toList) := by rw [HP.out]; rfl
        have hw1 : IntKind.i64.wrap (j : Int) = j := by rw [IntKind.wrap_i64]; omega
        have hw2 : IntKind.i64.wrap ((j : Int) + 1 - 1) = j := by rw [IntKind.wrap_i64]; omega
        have hi0 : (0 : Int) ≤ j := by omega
        have hi1 : (j : Int) < rs.length := by omega
        have hi2 : (0 : Int) < (j : Int) + 1 := by omega
        clear ha hw hL hx hy hq d1 hT
        cases hcmp : Op.bytesLess y.s.toList x.s.toList with
        | false =>
          have hor : (Op.bytesLess x.s.toList y.s.toList || x.s.toList == y.s.toList) = true := by
            cases h1 : Op.bytesLess x.s.toList y.s.toList with
            | true => rfl
            | false =>
              cases h2 : x.s.toList == y.s.toList with
              | true => rfl
              | false => have := bless_total h1 (by simpa using h2); rw [hcmp] at this; cases this
          go_wp2_with fail
          refine wp_region_held_drew (S := (fun w' => w'.cell? ⟨wo.heap.size, 0, none⟩ = some (.string x.s) ∧ w'.cell? ⟨wo.heap.size, 1, none⟩ = some (.slice ur x.cs.length cr) ∧ w'.cell? ⟨b, o + j * 2, none⟩ = some (.string y.s))) (by kernel_rfl) ?_ (fun hHeld => ?_)
          · (try dsimp only); refine ⟨?_, ?_, ?_⟩ <;> first | (go_simp; done) | (exact cell_later (by assumption) (by go_simp))
          refine takeYes (i := 0) (d := 16) (v := ?_) rfl rfl (by kernel_rfl) (by kernel_rfl) (by kernel_rfl) (fun _ _ _ h => h) (by rfl) (by assumption) ?_ ?_
          rotate_left
          · intro w' hSw; (try dsimp only at hSw); go_simp; try exact rfl
          try simp only [List.setIfInBounds_toArray, List.set_cons_zero, List.set_cons_succ]
          refine takeYes (i := 1) (d := 17) (v := ?_) rfl rfl (by kernel_rfl) (by kernel_rfl) (by kernel_rfl) (fun _ _ _ h => h) (by rfl) (by assumption) ?_ ?_
          rotate_left
          · intro w' hSw; (try dsimp only at hSw); go_simp; try exact rfl
          try simp only [List.setIfInBounds_toArray, List.set_cons_zero, List.set_cons_succ]
          refine wpAnyH_ready (rs := [2]) (by kernel_rfl) (by simp) ?_
          refine AllReadyH.cons rfl (fun K hK => ?_) AllReadyH.nil
          go_simp
          go_at_call 78
          refine (specName_any x.s _ hxs).mono ?_
          rintro e w1 ⟨rfl, rfl⟩
          try go_wp2_with fail
          refine hK.out _ _ ?_ (fun hHeld2 => ?_)
          · (try dsimp only); refine ⟨?_, ?_, ?_⟩ <;> first | (go_simp; done) | (exact cell_later (by assumption) (by go_simp))
          clear hK
          refine takeYes (i := 3) (d := 19) (v := ?_) rfl rfl (by kernel_rfl) (by kernel_rfl) (by kernel_rfl) (fun _ _ _ h => h) (by rfl) (by assumption) ?_ ?_
          rotate_left
          · intro w' hSw; (try dsimp only at hSw); go_simp; try exact rfl
          try simp only [List.setIfInBounds_toArray, List.set_cons_zero, List.set_cons_succ]
          refine takeYes (i := 4) (d := 20) (v := ?_) rfl rfl (by kernel_rfl) (by kernel_rfl) (by kernel_rfl) (fun _ _ _ h => h) (by rfl) (by assumption) ?_ ?_
          rotate_left
          · intro w' hSw; (try dsimp only at hSw); go_simp; try exact rfl
          try simp only [List.setIfInBounds_toArray, List.set_cons_zero, List.set_cons_succ]
          refine takeYes (i := 5) (d := 21) (v := ?_) rfl rfl (by kernel_rfl) (by kernel_rfl) (by kernel_rfl) (fun _ _ _ h => h) (by rfl) (by assumption) ?_ ?_
          rotate_left
          · intro w' hSw; (try dsimp only at hSw); go_simp; try exact rfl
          try simp only [List.setIfInBounds_toArray, List.set_cons_zero, List.set_cons_succ]
          refine takeYes (i := 6) (d := 22) (v := ?_) rfl rfl (by kernel_rfl) (by kernel_rfl) (by kernel_rfl) (fun _ _ _ h => h) (by rfl) (by assumption) ?_ ?_
          rotate_left
          · intro w' hSw; (try dsimp only at hSw); go_simp; try exact rfl
          try simp only [List.setIfInBounds_toArray, List.set_cons_zero, List.set_cons_succ]
          refine takeYes (i := 7) (d := 23) (v := ?_) rfl rfl (by kernel_rfl) (by kernel_rfl) (by kernel_rfl) (fun _ _ _ h => h) (by rfl) (by assumption) ?_ ?_
          rotate_left
          · intro w' hSw; (try dsimp only at hSw); go_simp; try exact rfl
          try simp only [List.setIfInBounds_toArray, List.set_cons_zero, List.set_cons_succ]
          refine takeYes (i := 8) (d := 24) (v := ?_) rfl rfl (by kernel_rfl) (by kernel_rfl) (by kernel_rfl) (fun _ _ _ h => h) (by rfl) (by assumption) ?_ ?_
          rotate_left
          · intro w' hSw; (try dsimp only at hSw); go_simp; try exact rfl
          try simp only [List.setIfInBounds_toArray, List.set_cons_zero, List.set_cons_succ]
          refine takeYes (i := 9) (d := 25) (v := ?_) rfl rfl (by kernel_rfl) (by kernel_rfl) (by kernel_rfl) (fun _ _ _ h => h) (by rfl) (by assumption) ?_ ?_
          rotate_left
          · intro w' hSw; (try dsimp only at hSw); go_simp; try exact rfl
          try simp only [List.setIfInBounds_toArray, List.set_cons_zero, List.set_cons_succ]
          refine takeYes (i := 10) (d := 26) (v := ?_) rfl rfl (by kernel_rfl) (by kernel_rfl) (by kernel_rfl) (fun _ _ _ h => h) (by rfl) (by assumption) ?_ ?_
          rotate_left
          · intro w' hSw; (try dsimp only at hSw); go_simp; try exact rfl
          try simp only [List.setIfInBounds_toArray, List.set_cons_zero, List.set_cons_succ]
          refine takeYes (i := 11) (d := 27) (v := ?_) rfl rfl (by kernel_rfl) (by kernel_rfl) (by kernel_rfl) (fun _ _ _ h => h) (by rfl) (by assumption) ?_ ?_
          rotate_left
          · intro w' hSw; (try dsimp only at hSw); go_simp; try exact rfl
          try simp only [List.setIfInBounds_toArray, List.set_cons_zero, List.set_cons_succ]
          refine takeYes (i := 12) (d := 28) (v := ?_) rfl rfl (by kernel_rfl) (by kernel_rfl) (by kernel_rfl) (fun _ _ _ h => h) (by rfl) (by assumption) ?_ ?_
          rotate_left
          · intro w' hSw; (try dsimp only at hSw); go_simp; try exact rfl
          try simp only [List.setIfInBounds_toArray, List.set_cons_zero, List.set_cons_succ]
          refine takeYes (i := 13) (d := 29) (v := ?_) rfl rfl (by kernel_rfl) (by kernel_rfl) (by kernel_rfl) (fun _ _ _ h => h) (by rfl) (by assumption) ?_ ?_
          rotate_left
          · intro w' hSw; (try dsimp only at hSw); go_simp; try exact rfl
          try simp only [List.setIfInBounds_toArray, List.set_cons_zero, List.set_cons_succ]
          refine takeYes (i := 14) (d := 30) (v := ?_) rfl rfl (by kernel_rfl) (by kernel_rfl) (by kernel_rfl) (fun _ _ _ h => h) (by rfl) (by assumption) ?_ ?_
          rotate_left
          · intro w' hSw; (try dsimp only at hSw); go_simp; try exact rfl
          try simp only [List.setIfInBounds_toArray, List.set_cons_zero, List.set_cons_succ]
          refine takeYes (i := 15) (d := 31) (v := ?_) rfl rfl (by kernel_rfl) (by kernel_rfl) (by kernel_rfl) (fun _ _ _ h => h) (by rfl) (by assumption) ?_ ?_
          rotate_left
          · intro w' hSw; (try dsimp only at hSw); go_simp; try exact rfl
          try simp only [List.setIfInBounds_toArray, List.set_cons_zero, List.set_cons_succ]
          refine takeYes (i := 16) (d := 32) (v := ?_) rfl rfl (by kernel_rfl) (by kernel_rfl) (by kernel_rfl) (fun _ _ _ h => h) (by rfl) (by assumption) ?_ ?_
          rotate_left
          · intro w' hSw; (try dsimp only at hSw); go_simp; try exact rfl
          try simp only [List.setIfInBounds_toArray, List.set_cons_zero, List.set_cons_succ]
          refine takeYes (i := 17) (d := 33) (v := ?_) rfl rfl (by kernel_rfl) (by kernel_rfl) (by kernel_rfl) (fun _ _ _ h => h) (by rfl) (by assumption) ?_ ?_
          rotate_left
          · intro w' hSw; (try dsimp only at hSw); go_simp; try exact rfl
          try simp only [List.setIfInBounds_toArray, List.set_cons_zero, List.set_cons_succ]
          refine takeYes (i := 18) (d := 34) (v := ?_) rfl rfl (by kernel_rfl) (by kernel_rfl) (by kernel_rfl) (fun _ _ _ h => h) (by rfl) (by assumption) ?_ ?_
          rotate_left
          · intro w' hSw; (try dsimp only at hSw); go_simp; try exact rfl
          try simp only [List.setIfInBounds_toArray, List.set_cons_zero, List.set_cons_succ]
          refine takeYes (i := 19) (d := 35) (v := ?_) rfl rfl (by kernel_rfl) (by kernel_rfl) (by kernel_rfl) (fun _ _ _ h => h) (by rfl) (by assumption) ?_ ?_
          rotate_left
          · intro w' hSw; (try dsimp only at hSw); go_simp; try exact rfl
          try simp only [List.setIfInBounds_toArray, List.set_cons_zero, List.set_cons_succ]
          refine takeNo (i := 20) (d := 36) rfl rfl (by kernel_rfl) (by kernel_rfl) (by kernel_rfl) (fun _ _ _ h => h) (by rfl) (by assumption) ?_
          try simp only [List.setIfInBounds_toArray, List.set_cons_zero, List.set_cons_succ]
          refine takeNo (i := 21) (d := 37) rfl rfl (by kernel_rfl) (by kernel_rfl) (by kernel_rfl) (fun _ _ _ h => h) (by rfl) (by assumption) ?_
          try simp only [List.setIfInBounds_toArray, List.set_cons_zero, List.set_cons_succ]
          refine takeNo (i := 22) (d := 38) rfl rfl (by kernel_rfl) (by kernel_rfl) (by kernel_rfl) (fun _ _ _ h => h) (by rfl) (by assumption) ?_
          try simp only [List.setIfInBounds_toArray, List.set_cons_zero, List.set_cons_succ]
          refine wpAnyH_ready (rs := [23]) (by kernel_rfl) (by simp) ?_
          refine AllReadyH.cons rfl (fun K hK => ?_) AllReadyH.nil
          go_simp
          refine hK.out _ _ ?_ (fun hHeld23 => ?_)
          · (try dsimp only); refine ⟨?_, ?_, ?_⟩ <;> first | (go_simp; done) | (exact cell_later (by assumption) (by go_simp))
          clear hK
          refine takeNo (i := 24) (d := 40) rfl rfl (by kernel_rfl) (by kernel_rfl) (by kernel_rfl) (fun _ _ _ h => h) (by rfl) (by assumption) ?_
          try simp only [List.setIfInBounds_toArray, List.set_cons_zero, List.set_cons_succ]
          refine takeYes (i := 25) (d := 41) (v := ?_) rfl rfl (by kernel_rfl) (by kernel_rfl) (by kernel_rfl) (fun _ _ _ h => h) (by rfl) (by assumption) ?_ ?_
          rotate_left
          · intro w' hSw; (try dsimp only at hSw); go_simp; try exact rfl
          try simp only [List.setIfInBounds_toArray, List.set_cons_zero, List.set_cons_succ]
          refine wpAnyH_done (by kernel_rfl) ?_ _
          go_wp2
          go_returns
          refine ⟨ret_bool ?_, by repeat (first | exact Below.refl _ _ | refine Below.drew ?_ | refine Below.alloc ?_ (by first | (simp; done) | (simp; omega) | omega) _ | refine Below.setCell ?_ (by first | (simp; done) | (simp; omega) | omega) _ | refine bstep (by assumption) (by first | (simp; done) | (simp; omega) | omega) ?_)⟩
          unfold okSch
          rw [HE.out, HS.out, HQ.out, hcmp]
          simp
        | true =>
          have hno : Op.bytesLess x.s.toList y.s.toList = false := bless_asymm hcmp
          have hne : (x.s.toList == y.s.toList) = false := by
            cases h2 : x.s.toList == y.s.toList with
            | false => rfl
            | true => rw [beq_iff_eq] at h2; rw [h2, bless_irrefl] at hcmp; cases hcmp
          cases hin : inB x.cs.length 1 12 with
          | false =>
            go_wp2_with fail
            refine wp_region_held_drew (S := (fun w' => w'.cell? ⟨wo.heap.size, 0, none⟩ = some (.string x.s) ∧ w'.cell? ⟨wo.heap.size, 1, none⟩ = some (.slice ur x.cs.length cr) ∧ w'.cell? ⟨b, o + j * 2, none⟩ = some (.string y.s))) (by kernel_rfl) ?_ (fun hHeld => ?_)
            · (try dsimp only); refine ⟨?_, ?_, ?_⟩ <;> first | (go_simp; done) | (exact cell_later (by assumption) (by go_simp))
            refine takeYes (i := 0) (d := 16) (v := ?_) rfl rfl (by kernel_rfl) (by kernel_rfl) (by kernel_rfl) (fun _ _ _ h => h) (by rfl) (by assumption) ?_ ?_
            rotate_left
            · intro w' hSw; (try dsimp only at hSw); go_simp; try exact rfl
            try simp only [List.setIfInBounds_toArray, List.set_cons_zero, List.set_cons_succ]
            refine takeYes (i := 1) (d := 17) (v := ?_) rfl rfl (by kernel_rfl) (by kernel_rfl) (by kernel_rfl) (fun _ _ _ h => h) (by rfl) (by assumption) ?_ ?_
            rotate_left
            · intro w' hSw; (try dsimp only at hSw); go_simp; try exact rfl
            try simp only [List.setIfInBounds_toArray, List.set_cons_zero, List.set_cons_succ]
            refine wpAnyH_ready (rs := [2]) (by kernel_rfl) (by simp) ?_
            refine AllReadyH.cons rfl (fun K hK => ?_) AllReadyH.nil
            go_simp
            go_at_call 78
            refine (specName_any x.s _ hxs).mono ?_
            rintro e w1 ⟨rfl, rfl⟩
            try go_wp2_with fail
            refine hK.out _ _ ?_ (fun hHeld2 => ?_)
            · (try dsimp only); refine ⟨?_, ?_, ?_⟩ <;> first | (go_simp; done) | (exact cell_later (by assumption) (by go_simp))
            clear hK
            refine takeYes (i := 3) (d := 19) (v := ?_) rfl rfl (by kernel_rfl) (by kernel_rfl) (by kernel_rfl) (fun _ _ _ h => h) (by rfl) (by assumption) ?_ ?_
            rotate_left
            · intro w' hSw; (try dsimp only at hSw); go_simp; try exact rfl
            try simp only [List.setIfInBounds_toArray, List.set_cons_zero, List.set_cons_succ]
            refine takeYes (i := 4) (d := 20) (v := ?_) rfl rfl (by kernel_rfl) (by kernel_rfl) (by kernel_rfl) (fun _ _ _ h => h) (by rfl) (by assumption) ?_ ?_
            rotate_left
            · intro w' hSw; (try dsimp only at hSw); go_simp; try exact rfl
            try simp only [List.setIfInBounds_toArray, List.set_cons_zero, List.set_cons_succ]
            refine takeYes (i := 5) (d := 21) (v := ?_) rfl rfl (by kernel_rfl) (by kernel_rfl) (by kernel_rfl) (fun _ _ _ h => h) (by rfl) (by assumption) ?_ ?_
            rotate_left
            · intro w' hSw; (try dsimp only at hSw); go_simp; try exact rfl
            try simp only [List.setIfInBounds_toArray, List.set_cons_zero, List.set_cons_succ]
            refine takeYes (i := 6) (d := 22) (v := ?_) rfl rfl (by kernel_rfl) (by kernel_rfl) (by kernel_rfl) (fun _ _ _ h => h) (by rfl) (by assumption) ?_ ?_
            rotate_left
            · intro w' hSw; (try dsimp only at hSw); go_simp; try exact rfl
            try simp only [List.setIfInBounds_toArray, List.set_cons_zero, List.set_cons_succ]
            refine takeYes (i := 7) (d := 23) (v := ?_) rfl rfl (by kernel_rfl) (by kernel_rfl) (by kernel_rfl) (fun _ _ _ h => h) (by rfl) (by assumption) ?_ ?_
            rotate_left
            · intro w' hSw; (try dsimp only at hSw); go_simp; try exact rfl
            try simp only [List.setIfInBounds_toArray, List.set_cons_zero, List.set_cons_succ]
            refine takeYes (i := 8) (d := 24) (v := ?_) rfl rfl (by kernel_rfl) (by kernel_rfl) (by kernel_rfl) (fun _ _ _ h => h) (by rfl) (by assumption) ?_ ?_
            rotate_left
            · intro w' hSw; (try dsimp only at hSw); go_simp; try exact rfl
            try simp only [List.setIfInBounds_toArray, List.set_cons_zero, List.set_cons_succ]
            refine takeYes (i := 9) (d := 25) (v := ?_) rfl rfl (by kernel_rfl) (by kernel_rfl) (by kernel_rfl) (fun _ _ _ h => h) (by rfl) (by assumption) ?_ ?_
            rotate_left
            · intro w' hSw; (try dsimp only at hSw); go_simp; try exact rfl
            try simp only [List.setIfInBounds_toArray, List.set_cons_zero, List.set_cons_succ]
            refine takeYes (i := 10) (d := 26) (v := ?_) rfl rfl (by kernel_rfl) (by kernel_rfl) (by kernel_rfl) (fun _ _ _ h => h) (by rfl) (by assumption) ?_ ?_
            rotate_left
            · intro w' hSw; (try dsimp only at hSw); go_simp; try exact rfl
            try simp only [List.setIfInBounds_toArray, List.set_cons_zero, List.set_cons_succ]
            refine takeYes (i := 11) (d := 27) (v := ?_) rfl rfl (by kernel_rfl) (by kernel_rfl) (by kernel_rfl) (fun _ _ _ h => h) (by rfl) (by assumption) ?_ ?_
            rotate_left
            · intro w' hSw; (try dsimp only at hSw); go_simp; try exact rfl
            try simp only [List.setIfInBounds_toArray, List.set_cons_zero, List.set_cons_succ]
            refine takeYes (i := 12) (d := 28) (v := ?_) rfl rfl (by kernel_rfl) (by kernel_rfl) (by kernel_rfl) (fun _ _ _ h => h) (by rfl) (by assumption) ?_ ?_
            rotate_left
            · intro w' hSw; (try dsimp only at hSw); go_simp; try exact rfl
            try simp only [List.setIfInBounds_toArray, List.set_cons_zero, List.set_cons_succ]
            refine takeYes (i := 13) (d := 29) (v := ?_) rfl rfl (by kernel_rfl) (by kernel_rfl) (by kernel_rfl) (fun _ _ _ h => h) (by rfl) (by assumption) ?_ ?_
            rotate_left
            · intro w' hSw; (try dsimp only at hSw); go_simp; try exact rfl
            try simp only [List.setIfInBounds_toArray, List.set_cons_zero, List.set_cons_succ]
            refine takeYes (i := 14) (d := 30) (v := ?_) rfl rfl (by kernel_rfl) (by kernel_rfl) (by kernel_rfl) (fun _ _ _ h => h) (by rfl) (by assumption) ?_ ?_
            rotate_left
            · intro w' hSw; (try dsimp only at hSw); go_simp; try exact rfl
            try simp only [List.setIfInBounds_toArray, List.set_cons_zero, List.set_cons_succ]
            refine takeYes (i := 15) (d := 31) (v := ?_) rfl rfl (by kernel_rfl) (by kernel_rfl) (by kernel_rfl) (fun _ _ _ h => h) (by rfl) (by assumption) ?_ ?_
            rotate_left
            · intro w' hSw; (try dsimp only at hSw); go_simp; try exact rfl
            try simp only [List.setIfInBounds_toArray, List.set_cons_zero, List.set_cons_succ]
            refine takeYes (i := 16) (d := 32) (v := ?_) rfl rfl (by kernel_rfl) (by kernel_rfl) (by kernel_rfl) (fun _ _ _ h => h) (by rfl) (by assumption) ?_ ?_
            rotate_left
            · intro w' hSw; (try dsimp only at hSw); go_simp; try exact rfl
            try simp only [List.setIfInBounds_toArray, List.set_cons_zero, List.set_cons_succ]
            refine takeYes (i := 17) (d := 33) (v := ?_) rfl rfl (by kernel_rfl) (by kernel_rfl) (by kernel_rfl) (fun _ _ _ h => h) (by rfl) (by assumption) ?_ ?_
            rotate_left
            · intro w' hSw; (try dsimp only at hSw); go_simp; try exact rfl
            try simp only [List.setIfInBounds_toArray, List.set_cons_zero, List.set_cons_succ]
            refine takeYes (i := 18) (d := 34) (v := ?_) rfl rfl (by kernel_rfl) (by kernel_rfl) (by kernel_rfl) (fun _ _ _ h => h) (by rfl) (by assumption) ?_ ?_
            rotate_left
            · intro w' hSw; (try dsimp only at hSw); go_simp; try exact rfl
            try simp only [List.setIfInBounds_toArray, List.set_cons_zero, List.set_cons_succ]
            refine takeYes (i := 19) (d := 35) (v := ?_) rfl rfl (by kernel_rfl) (by kernel_rfl) (by kernel_rfl) (fun _ _ _ h => h) (by rfl) (by assumption) ?_ ?_
            rotate_left
            · intro w' hSw; (try dsimp only at hSw); go_simp; try exact rfl
            try simp only [List.setIfInBounds_toArray, List.set_cons_zero, List.set_cons_succ]
            refine takeYes (i := 20) (d := 36) (v := ?_) rfl rfl (by kernel_rfl) (by kernel_rfl) (by kernel_rfl) (fun _ _ _ h => h) (by rfl) (by assumption) ?_ ?_
            rotate_left
            · intro w' hSw; (try dsimp only at hSw); go_simp; try exact rfl
            try simp only [List.setIfInBounds_toArray, List.set_cons_zero, List.set_cons_succ]
            refine takeYes (i := 21) (d := 37) (v := ?_) rfl rfl (by kernel_rfl) (by kernel_rfl) (by kernel_rfl) (fun _ _ _ h => h) (by rfl) (by assumption) ?_ ?_
            rotate_left
            · intro w' hSw; (try dsimp only at hSw); go_simp; try exact rfl
            try simp only [List.setIfInBounds_toArray, List.set_cons_zero, List.set_cons_succ]
            refine takeYes (i := 22) (d := 38) (v := ?_) rfl rfl (by kernel_rfl) (by kernel_rfl) (by kernel_rfl) (fun _ _ _ h => h) (by rfl) (by assumption) ?_ ?_
            rotate_left
            · intro w' hSw; (try dsimp only at hSw); go_simp; try exact rfl
            try simp only [List.setIfInBounds_toArray, List.set_cons_zero, List.set_cons_succ]
            refine wpAnyH_ready (rs := [23]) (by kernel_rfl) (by simp) ?_
            refine AllReadyH.cons rfl (fun K hK => ?_) AllReadyH.nil
            go_simp
            go_at_call 79
            refine (l01InN_any _ _ _ _).mono ?_
            rintro e w1 ⟨rfl, rfl⟩
            try go_wp2_with fail
            refine hK.out _ _ ?_ (fun hHeld23 => ?_)
            · (try dsimp only); refine ⟨?_, ?_, ?_⟩ <;> first | (go_simp; done) | (exact cell_later (by assumption) (by go_simp))
            clear hK
            refine takeYes (i := 24) (d := 40) (v := ?_) rfl rfl (by kernel_rfl) (by kernel_rfl) (by kernel_rfl) (fun _ _ _ h => h) (by rfl) (by assumption) ?_ ?_
            rotate_left
            · intro w' hSw; (try dsimp only at hSw); go_simp; try exact rfl
            try simp only [List.setIfInBounds_toArray, List.set_cons_zero, List.set_cons_succ]
            refine takeYes (i := 25) (d := 41) (v := ?_) rfl rfl (by kernel_rfl) (by kernel_rfl) (by kernel_rfl) (fun _ _ _ h => h) (by rfl) (by assumption) ?_ ?_
            rotate_left
            · intro w' hSw; (try dsimp only at hSw); go_simp; try exact rfl
            try simp only [List.setIfInBounds_toArray, List.set_cons_zero, List.set_cons_succ]
            refine wpAnyH_done (by kernel_rfl) ?_ _
            go_wp2
            go_returns
            refine ⟨ret_bool ?_, by repeat (first | exact Below.refl _ _ | refine Below.drew ?_ | refine Below.alloc ?_ (by first | (simp; done) | (simp; omega) | omega) _ | refine Below.setCell ?_ (by first | (simp; done) | (simp; omega) | omega) _ | refine bstep (by assumption) (by first | (simp; done) | (simp; omega) | omega) ?_)⟩
            unfold okSch
            rw [HE.out, HS.out, okCols_no hin]
            simp
          | true =>
            go_wp2_with fail
            refine wp_region_held_drew (S := (fun w' => w'.cell? ⟨wo.heap.size, 0, none⟩ = some (.string x.s) ∧ w'.cell? ⟨wo.heap.size, 1, none⟩ = some (.slice ur x.cs.length cr) ∧ w'.cell? ⟨b, o + j * 2, none⟩ = some (.string y.s))) (by kernel_rfl) ?_ (fun hHeld => ?_)
            · (try dsimp only); refine ⟨?_, ?_, ?_⟩ <;> first | (go_simp; done) | (exact cell_later (by assumption) (by go_simp))
            refine takeYes (i := 0) (d := 16) (v := ?_) rfl rfl (by kernel_rfl) (by kernel_rfl) (by kernel_rfl) (fun _ _ _ h => h) (by rfl) (by assumption) ?_ ?_
            rotate_left
            · intro w' hSw; (try dsimp only at hSw); go_simp; try exact rfl
            try simp only [List.setIfInBounds_toArray, List.set_cons_zero, List.set_cons_succ]
            refine takeYes (i := 1) (d := 17) (v := ?_) rfl rfl (by kernel_rfl) (by kernel_rfl) (by kernel_rfl) (fun _ _ _ h => h) (by rfl) (by assumption) ?_ ?_
            rotate_left
            · intro w' hSw; (try dsimp only at hSw); go_simp; try exact rfl
            try simp only [List.setIfInBounds_toArray, List.set_cons_zero, List.set_cons_succ]
            refine wpAnyH_ready (rs := [2]) (by kernel_rfl) (by simp) ?_
            refine AllReadyH.cons rfl (fun K hK => ?_) AllReadyH.nil
            go_simp
            go_at_call 78
            refine (specName_any x.s _ hxs).mono ?_
            rintro e w1 ⟨rfl, rfl⟩
            try go_wp2_with fail
            refine hK.out _ _ ?_ (fun hHeld2 => ?_)
            · (try dsimp only); refine ⟨?_, ?_, ?_⟩ <;> first | (go_simp; done) | (exact cell_later (by assumption) (by go_simp))
            clear hK
            refine takeYes (i := 3) (d := 19) (v := ?_) rfl rfl (by kernel_rfl) (by kernel_rfl) (by kernel_rfl) (fun _ _ _ h => h) (by rfl) (by assumption) ?_ ?_
            rotate_left
            · intro w' hSw; (try dsimp only at hSw); go_simp; try exact rfl
            try simp only [List.setIfInBounds_toArray, List.set_cons_zero, List.set_cons_succ]
            refine takeYes (i := 4) (d := 20) (v := ?_) rfl rfl (by kernel_rfl) (by kernel_rfl) (by kernel_rfl) (fun _ _ _ h => h) (by rfl) (by assumption) ?_ ?_
            rotate_left
            · intro w' hSw; (try dsimp only at hSw); go_simp; try exact rfl
            try simp only [List.setIfInBounds_toArray, List.set_cons_zero, List.set_cons_succ]
            refine takeYes (i := 5) (d := 21) (v := ?_) rfl rfl (by kernel_rfl) (by kernel_rfl) (by kernel_rfl) (fun _ _ _ h => h) (by rfl) (by assumption) ?_ ?_
            rotate_left
            · intro w' hSw; (try dsimp only at hSw); go_simp; try exact rfl
            try simp only [List.setIfInBounds_toArray, List.set_cons_zero, List.set_cons_succ]
            refine takeYes (i := 6) (d := 22) (v := ?_) rfl rfl (by kernel_rfl) (by kernel_rfl) (by kernel_rfl) (fun _ _ _ h => h) (by rfl) (by assumption) ?_ ?_
            rotate_left
            · intro w' hSw; (try dsimp only at hSw); go_simp; try exact rfl
            try simp only [List.setIfInBounds_toArray, List.set_cons_zero, List.set_cons_succ]
            refine takeYes (i := 7) (d := 23) (v := ?_) rfl rfl (by kernel_rfl) (by kernel_rfl) (by kernel_rfl) (fun _ _ _ h => h) (by rfl) (by assumption) ?_ ?_
            rotate_left
            · intro w' hSw; (try dsimp only at hSw); go_simp; try exact rfl
            try simp only [List.setIfInBounds_toArray, List.set_cons_zero, List.set_cons_succ]
            refine takeYes (i := 8) (d := 24) (v := ?_) rfl rfl (by kernel_rfl) (by kernel_rfl) (by kernel_rfl) (fun _ _ _ h => h) (by rfl) (by assumption) ?_ ?_
            rotate_left
            · intro w' hSw; (try dsimp only at hSw); go_simp; try exact rfl
            try simp only [List.setIfInBounds_toArray, List.set_cons_zero, List.set_cons_succ]
            refine takeYes (i := 9) (d := 25) (v := ?_) rfl rfl (by kernel_rfl) (by kernel_rfl) (by kernel_rfl) (fun _ _ _ h => h) (by rfl) (by assumption) ?_ ?_
            rotate_left
            · intro w' hSw; (try dsimp only at hSw); go_simp; try exact rfl
            try simp only [List.setIfInBounds_toArray, List.set_cons_zero, List.set_cons_succ]
            refine takeYes (i := 10) (d := 26) (v := ?_) rfl rfl (by kernel_rfl) (by kernel_rfl) (by kernel_rfl) (fun _ _ _ h => h) (by rfl) (by assumption) ?_ ?_
            rotate_left
            · intro w' hSw; (try dsimp only at hSw); go_simp; try exact rfl
            try simp only [List.setIfInBounds_toArray, List.set_cons_zero, List.set_cons_succ]
            refine takeYes (i := 11) (d := 27) (v := ?_) rfl rfl (by kernel_rfl) (by kernel_rfl) (by kernel_rfl) (fun _ _ _ h => h) (by rfl) (by assumption) ?_ ?_
            rotate_left
            · intro w' hSw; (try dsimp only at hSw); go_simp; try exact rfl
            try simp only [List.setIfInBounds_toArray, List.set_cons_zero, List.set_cons_succ]
            refine takeYes (i := 12) (d := 28) (v := ?_) rfl rfl (by kernel_rfl) (by kernel_rfl) (by kernel_rfl) (fun _ _ _ h => h) (by rfl) (by assumption) ?_ ?_
            rotate_left
            · intro w' hSw; (try dsimp only at hSw); go_simp; try exact rfl
            try simp only [List.setIfInBounds_toArray, List.set_cons_zero, List.set_cons_succ]
            refine takeYes (i := 13) (d := 29) (v := ?_) rfl rfl (by kernel_rfl) (by kernel_rfl) (by kernel_rfl) (fun _ _ _ h => h) (by rfl) (by assumption) ?_ ?_
            rotate_left
            · intro w' hSw; (try dsimp only at hSw); go_simp; try exact rfl
            try simp only [List.setIfInBounds_toArray, List.set_cons_zero, List.set_cons_succ]
            refine takeYes (i := 14) (d := 30) (v := ?_) rfl rfl (by kernel_rfl) (by kernel_rfl) (by kernel_rfl) (fun _ _ _ h => h) (by rfl) (by assumption) ?_ ?_
            rotate_left
            · intro w' hSw; (try dsimp only at hSw); go_simp; try exact rfl
            try simp only [List.setIfInBounds_toArray, List.set_cons_zero, List.set_cons_succ]
            refine takeYes (i := 15) (d := 31) (v := ?_) rfl rfl (by kernel_rfl) (by kernel_rfl) (by kernel_rfl) (fun _ _ _ h => h) (by rfl) (by assumption) ?_ ?_
            rotate_left
            · intro w' hSw; (try dsimp only at hSw); go_simp; try exact rfl
            try simp only [List.setIfInBounds_toArray, List.set_cons_zero, List.set_cons_succ]
            refine takeYes (i := 16) (d := 32) (v := ?_) rfl rfl (by kernel_rfl) (by kernel_rfl) (by kernel_rfl) (fun _ _ _ h => h) (by rfl) (by assumption) ?_ ?_
            rotate_left
            · intro w' hSw; (try dsimp only at hSw); go_simp; try exact rfl
            try simp only [List.setIfInBounds_toArray, List.set_cons_zero, List.set_cons_succ]
            refine takeYes (i := 17) (d := 33) (v := ?_) rfl rfl (by kernel_rfl) (by kernel_rfl) (by kernel_rfl) (fun _ _ _ h => h) (by rfl) (by assumption) ?_ ?_
            rotate_left
            · intro w' hSw; (try dsimp only at hSw); go_simp; try exact rfl
            try simp only [List.setIfInBounds_toArray, List.set_cons_zero, List.set_cons_succ]
            refine takeYes (i := 18) (d := 34) (v := ?_) rfl rfl (by kernel_rfl) (by kernel_rfl) (by kernel_rfl) (fun _ _ _ h => h) (by rfl) (by assumption) ?_ ?_
            rotate_left
            · intro w' hSw; (try dsimp only at hSw); go_simp; try exact rfl
            try simp only [List.setIfInBounds_toArray, List.set_cons_zero, List.set_cons_succ]
            refine takeYes (i := 19) (d := 35) (v := ?_) rfl rfl (by kernel_rfl) (by kernel_rfl) (by kernel_rfl) (fun _ _ _ h => h) (by rfl) (by assumption) ?_ ?_
            rotate_left
            · intro w' hSw; (try dsimp only at hSw); go_simp; try exact rfl
            try simp only [List.setIfInBounds_toArray, List.set_cons_zero, List.set_cons_succ]
            refine takeYes (i := 20) (d := 36) (v := ?_) rfl rfl (by kernel_rfl) (by kernel_rfl) (by kernel_rfl) (fun _ _ _ h => h) (by rfl) (by assumption) ?_ ?_
            rotate_left
            · intro w' hSw; (try dsimp only at hSw); go_simp; try exact rfl
            try simp only [List.setIfInBounds_toArray, List.set_cons_zero, List.set_cons_succ]
            refine takeYes (i := 21) (d := 37) (v := ?_) rfl rfl (by kernel_rfl) (by kernel_rfl) (by kernel_rfl) (fun _ _ _ h => h) (by rfl) (by assumption) ?_ ?_
            rotate_left
            · intro w' hSw; (try dsimp only at hSw); go_simp; try exact rfl
            try simp only [List.setIfInBounds_toArray, List.set_cons_zero, List.set_cons_succ]
            refine takeYes (i := 22) (d := 38) (v := ?_) rfl rfl (by kernel_rfl) (by kernel_rfl) (by kernel_rfl) (fun _ _ _ h => h) (by rfl) (by assumption) ?_ ?_
            rotate_left
            · intro w' hSw; (try dsimp only at hSw); go_simp; try exact rfl
            try simp only [List.setIfInBounds_toArray, List.set_cons_zero, List.set_cons_succ]
            refine wpAnyH_ready (rs := [23]) (by kernel_rfl) (by simp) ?_
            refine AllReadyH.cons rfl (fun K hK => ?_) AllReadyH.nil
            go_simp
            go_at_call 79
            refine (l01InN_any _ _ _ _).mono ?_
            rintro e w1 ⟨rfl, rfl⟩
            try go_wp2_with fail
            refine hK.out _ _ ?_ (fun hHeld23 => ?_)
            · (try dsimp only); refine ⟨?_, ?_, ?_⟩ <;> first | (go_simp; done) | (exact cell_later (by assumption) (by go_simp))
            clear hK
            refine takeYes (i := 24) (d := 40) (v := ?_) rfl rfl (by kernel_rfl) (by kernel_rfl) (by kernel_rfl) (fun _ _ _ h => h) (by rfl) (by assumption) ?_ ?_
            rotate_left
            · intro w' hSw; (try dsimp only at hSw); go_simp; try exact rfl
            try simp only [List.setIfInBounds_toArray, List.set_cons_zero, List.set_cons_succ]
            refine takeYes (i := 25) (d := 41) (v := ?_) rfl rfl (by kernel_rfl) (by kernel_rfl) (by kernel_rfl) (fun _ _ _ h => h) (by rfl) (by assumption) ?_ ?_
            rotate_left
            · intro w' hSw; (try dsimp only at hSw); go_simp; try exact rfl
            try simp only [List.setIfInBounds_toArray, List.set_cons_zero, List.set_cons_succ]
            refine wpAnyH_done (by kernel_rfl) ?_ _
            go_wp2_with fail
            have hb5 : Below wo.heap.size wo (wo.alloc (.cells #[.string x.s, .slice ur x.cs.length cr] 122)).drew := by repeat (first | (with_reducible exact Below.refl _ _) | (with_reducible refine Below.drew ?_) | (with_reducible refine Below.alloc ?_ ?hh _; case hh => first | (simp; done) | (simp; omega) | omega) | (with_reducible refine Below.setCell ?_ ?hh _; case hh => first | (simp; done) | (simp; omega) | omega) | refine bstep (by assumption) (by first | (simp; done) | (simp; omega) | omega) ?_)
            have q1 : ((wo.alloc (.cells #[.string x.s, .slice ur x.cs.length cr] 122)).drew).cell? ⟨wo.heap.size, 1, none⟩ = some (.slice ur x.cs.length cr) := hHeld23.2.1
            have hs5 : wo.heap.size < ((wo.alloc (.cells #[.string x.s, .slice ur x.cs.length cr] 122)).drew).heap.size := by simp
            clear hHeld hHeld2 hHeld23
            generalize (wo.alloc (.cells #[.string x.s, .slice ur x.cs.length cr] 122)).drew = w5 at hb5 q1 hs5 ⊢
            have hR5 := hR.below hb5
            have hbw5 : Below w.heap.size w w5 := hb.trans (hb5.mono hzb)
            go_loopw [5] (fun i wi => ∃ n : Nat, n ≤ x.cs.length ∧ i = .int .i64 n ∧ Below w5.heap.size w5 wi ∧ colsB [] x.cs = colsB (x.cs.take n) (x.cs.drop n)) (fun i _ => x.cs.length - (intOf i).toNat)
            case atStart => exact ⟨0, Nat.zero_le _, rfl, Below.refl _ _, by simp⟩
            case round =>
              obtain ⟨n, hn, rfl, hbi, heq2⟩ := hrel
              have HE2 : Hid (colsB [] x.cs = colsB (x.cs.take n) (x.cs.drop n)) := heq2
              clear heq2
              have hzi := hbi.size
              have qi : wr.cell? ⟨wo.heap.size, 1, none⟩ = some (.slice ur x.cs.length cr) := (hbi.cell (p := ⟨wo.heap.size, 1, none⟩) hs5).trans q1
              have hsi : wo.heap.size < wr.heap.size := by omega
              have hbwi : Below w.heap.size w wr := hbw5.trans (hbi.mono hbw5.size)
              by_cases hnl : n < x.cs.length
              · have hRi := hR5.below hbi
                obtain ⟨m, hm⟩ : ∃ m, x.cs[n]? = some m := ⟨x.cs[n], by simp [hnl]⟩
                obtain ⟨g', hcut⟩ := hRi.cut hn
                obtain ⟨a', c', bc, oc, e, _, _, _, h4⟩ := hRi.pick
                obtain ⟨rfl, _, rfl⟩ : ur = a' ∧ x.cs.length = x.cs.length ∧ cr = c' := by injection e with e1 e2 e3; exact ⟨e1, e2, e3⟩
                obtain ⟨rfl, hbc, _, hcell⟩ := h4 n hnl
                have hcm1 := hcell n m hm
                have hms := hxw m (List.mem_of_getElem? hm)
                have HS2 : Hid (colsB (x.cs.take n) (x.cs.drop n) = (nameB m && !hasS (x.cs.take n) m && colsB (x.cs.take (n + 1)) (x.cs.drop (n + 1)))) := colsB_step hm
                have HC : Hid (okCols x.cs = colsB [] x.cs) := okCols_cols hin
                have hncr : n ≤ cr := by omega
                clear h4 hcell hm hRi hR5 hR hxw q1 hin e
                by_cases hnm2 : nameB m = true
                rotate_left
                · have hf2 : nameB m = false := by simpa using hnm2
                  have HF2 : Hid (nameB m = false) := hf2
                  go_wp2_with fail
                  refine wp_region_held_drew (S := (fun w' => w'.cell? ⟨wo.heap.size, 1, none⟩ = some (.slice (some ⟨bc, oc, none⟩) x.cs.length cr) ∧ w'.cell? ⟨bc, oc + n, none⟩ = some (.string m))) (by kernel_rfl) ?_ (fun hHeld => ?_)
                  · (try dsimp only); refine ⟨?_, ?_⟩ <;> first | (go_simp; done) | (exact cell_later (by assumption) (by go_simp))
                  refine takeYes (i := 0) (d := 49) (v := ?_) rfl rfl (by kernel_rfl) (by kernel_rfl) (by kernel_rfl) (fun _ _ _ h => h) (by rfl) (by assumption) ?_ ?_
                  rotate_left
                  · intro w' hSw; (try dsimp only at hSw); go_simp; try exact rfl
                  try simp only [List.setIfInBounds_toArray, List.set_cons_zero, List.set_cons_succ]
                  refine takeYes (i := 1) (d := 50) (v := ?_) rfl rfl (by kernel_rfl) (by kernel_rfl) (by kernel_rfl) (fun _ _ _ h => h) (by rfl) (by assumption) ?_ ?_
                  rotate_left
                  · intro w' hSw; (try dsimp only at hSw); go_simp; try exact rfl
                  try simp only [List.setIfInBounds_toArray, List.set_cons_zero, List.set_cons_succ]
                  refine takeYes (i := 2) (d := 51) (v := ?_) rfl rfl (by kernel_rfl) (by kernel_rfl) (by kernel_rfl) (fun _ _ _ h => h) (by rfl) (by assumption) ?_ ?_
                  rotate_left
                  · intro w' hSw; (try dsimp only at hSw); go_simp; try exact rfl
                  try simp only [List.setIfInBounds_toArray, List.set_cons_zero, List.set_cons_succ]
                  refine takeYes (i := 3) (d := 52) (v := ?_) rfl rfl (by kernel_rfl) (by kernel_rfl) (by kernel_rfl) (fun _ _ _ h => h) (by rfl) (by assumption) ?_ ?_
                  rotate_left
                  · intro w' hSw; (try dsimp only at hSw); go_simp; try exact rfl
                  try simp only [List.setIfInBounds_toArray, List.set_cons_zero, List.set_cons_succ]
                  refine takeYes (i := 4) (d := 53) (v := ?_) rfl rfl (by kernel_rfl) (by kernel_rfl) (by kernel_rfl) (fun _ _ _ h => h) (by rfl) (by assumption) ?_ ?_
                  rotate_left
                  · intro w' hSw; (try dsimp only at hSw); go_simp; try exact rfl
                  try simp only [List.setIfInBounds_toArray, List.set_cons_zero, List.set_cons_succ]
                  refine wpAnyH_ready (rs := [5]) (by kernel_rfl) (by simp) ?_
                  refine AllReadyH.cons rfl (fun K hK => ?_) AllReadyH.nil
                  go_simp
                  go_at_call 78
                  refine (specName_any m _ hms).mono ?_
                  rintro e w1 ⟨rfl, rfl⟩
                  try go_wp2_with fail
                  refine hK.out _ _ ?_ (fun hHeld5 => ?_)
                  · (try dsimp only); refine ⟨?_, ?_⟩ <;> first | (go_simp; done) | (exact cell_later (by assumption) (by go_simp))
                  clear hK
                  refine takeYes (i := 6) (d := 55) (v := ?_) rfl rfl (by kernel_rfl) (by kernel_rfl) (by kernel_rfl) (fun _ _ _ h => h) (by rfl) (by assumption) ?_ ?_
                  rotate_left
                  · intro w' hSw; (try dsimp only at hSw); go_simp; try exact rfl
                  try simp only [List.setIfInBounds_toArray, List.set_cons_zero, List.set_cons_succ]
                  refine takeYes (i := 7) (d := 56) (v := ?_) rfl rfl (by kernel_rfl) (by kernel_rfl) (by kernel_rfl) (fun _ _ _ h => h) (by rfl) (by assumption) ?_ ?_
                  rotate_left
                  · intro w' hSw; (try dsimp only at hSw); go_simp; try exact rfl
                  try simp only [List.setIfInBounds_toArray, List.set_cons_zero, List.set_cons_succ]
                  refine takeNo (i := 8) (d := 57) rfl rfl (by kernel_rfl) (by kernel_rfl) (by kernel_rfl) (fun _ _ _ h => h) (by rfl) (by assumption) ?_
                  try simp only [List.setIfInBounds_toArray, List.set_cons_zero, List.set_cons_succ]
                  refine takeNo (i := 9) (d := 58) rfl rfl (by kernel_rfl) (by kernel_rfl) (by kernel_rfl) (fun _ _ _ h => h) (by rfl) (by assumption) ?_
                  try simp only [List.setIfInBounds_toArray, List.set_cons_zero, List.set_cons_succ]
                  refine takeNo (i := 10) (d := 59) rfl rfl (by kernel_rfl) (by kernel_rfl) (by kernel_rfl) (fun _ _ _ h => h) (by rfl) (by assumption) ?_
                  try simp only [List.setIfInBounds_toArray, List.set_cons_zero, List.set_cons_succ]
                  refine takeNo (i := 11) (d := 60) rfl rfl (by kernel_rfl) (by kernel_rfl) (by kernel_rfl) (fun _ _ _ h => h) (by rfl) (by assumption) ?_
                  try simp only [List.setIfInBounds_toArray, List.set_cons_zero, List.set_cons_succ]
                  refine takeNo (i := 12) (d := 61) rfl rfl (by kernel_rfl) (by kernel_rfl) (by kernel_rfl) (fun _ _ _ h => h) (by rfl) (by assumption) ?_
                  try simp only [List.setIfInBounds_toArray, List.set_cons_zero, List.set_cons_succ]
                  refine takeNo (i := 13) (d := 62) rfl rfl (by kernel_rfl) (by kernel_rfl) (by kernel_rfl) (fun _ _ _ h => h) (by rfl) (by assumption) ?_
                  try simp only [List.setIfInBounds_toArray, List.set_cons_zero, List.set_cons_succ]
                  refine takeNo (i := 14) (d := 63) rfl rfl (by kernel_rfl) (by kernel_rfl) (by kernel_rfl) (fun _ _ _ h => h) (by rfl) (by assumption) ?_
                  try simp only [List.setIfInBounds_toArray, List.set_cons_zero, List.set_cons_succ]
                  refine takeNo (i := 15) (d := 64) rfl rfl (by kernel_rfl) (by kernel_rfl) (by kernel_rfl) (fun _ _ _ h => h) (by rfl) (by assumption) ?_
                  try simp only [List.setIfInBounds_toArray, List.set_cons_zero, List.set_cons_succ]
                  refine takeNo (i := 16) (d := 65) rfl rfl (by kernel_rfl) (by kernel_rfl) (by kernel_rfl) (fun _ _ _ h => h) (by rfl) (by assumption) ?_
                  try simp only [List.setIfInBounds_toArray, List.set_cons_zero, List.set_cons_succ]
                  refine wpAnyH_ready (rs := [17]) (by kernel_rfl) (by simp) ?_
                  refine AllReadyH.cons rfl (fun K hK => ?_) AllReadyH.nil
                  go_simp
                  refine hK.out _ _ ?_ (fun hHeld17 => ?_)
                  · (try dsimp only); refine ⟨?_, ?_⟩ <;> first | (go_simp; done) | (exact cell_later (by assumption) (by go_simp))
                  clear hK
                  refine takeYes (i := 18) (d := 67) (v := ?_) rfl rfl (by kernel_rfl) (by kernel_rfl) (by kernel_rfl) (fun _ _ _ h => h) (by rfl) (by assumption) ?_ ?_
                  rotate_left
                  · intro w' hSw; (try dsimp only at hSw); go_simp; try exact rfl
                  try simp only [List.setIfInBounds_toArray, List.set_cons_zero, List.set_cons_succ]
                  refine wpAnyH_done (by kernel_rfl) ?_ _
                  go_wp2
                  go_returns
                  refine ⟨ret_bool ?_, by repeat (first | exact Below.refl _ _ | refine Below.drew ?_ | refine Below.alloc ?_ (by first | (simp; done) | (simp; omega) | omega) _ | refine Below.setCell ?_ (by first | (simp; done) | (simp; omega) | omega) _ | refine bstep (by assumption) (by first | (simp; done) | (simp; omega) | omega) ?_)⟩
                  unfold okSch
                  rw [HE.out, HS.out, HC.out, HE2.out, HS2.out, HF2.out]
                  simp
                have HN2 : Hid (nameB m = true) := hnm2
                obtain ⟨hs, HH⟩ : ∃ hs, Hid (hasS (x.cs.take n) m = hs) := ⟨_, rfl⟩
                cases hs with
                | true =>
                  go_wp2_with fail
                  refine wp_region_held_drew (S := (fun w' => w'.cell? ⟨wo.heap.size, 1, none⟩ = some (.slice (some ⟨bc, oc, none⟩) x.cs.length cr) ∧ w'.cell? ⟨bc, oc + n, none⟩ = some (.string m))) (by kernel_rfl) ?_ (fun hHeld => ?_)
                  · (try dsimp only); refine ⟨?_, ?_⟩ <;> first | (go_simp; done) | (exact cell_later (by assumption) (by go_simp))
                  refine takeYes (i := 0) (d := 49) (v := ?_) rfl rfl (by kernel_rfl) (by kernel_rfl) (by kernel_rfl) (fun _ _ _ h => h) (by rfl) (by assumption) ?_ ?_
                  rotate_left
                  · intro w' hSw; (try dsimp only at hSw); go_simp; try exact rfl
                  try simp only [List.setIfInBounds_toArray, List.set_cons_zero, List.set_cons_succ]
                  refine takeYes (i := 1) (d := 50) (v := ?_) rfl rfl (by kernel_rfl) (by kernel_rfl) (by kernel_rfl) (fun _ _ _ h => h) (by rfl) (by assumption) ?_ ?_
                  rotate_left
                  · intro w' hSw; (try dsimp only at hSw); go_simp; try exact rfl
                  try simp only [List.setIfInBounds_toArray, List.set_cons_zero, List.set_cons_succ]
                  refine takeYes (i := 2) (d := 51) (v := ?_) rfl rfl (by kernel_rfl) (by kernel_rfl) (by kernel_rfl) (fun _ _ _ h => h) (by rfl) (by assumption) ?_ ?_
                  rotate_left
                  · intro w' hSw; (try dsimp only at hSw); go_simp; try exact rfl
                  try simp only [List.setIfInBounds_toArray, List.set_cons_zero, List.set_cons_succ]
                  refine takeYes (i := 3) (d := 52) (v := ?_) rfl rfl (by kernel_rfl) (by kernel_rfl) (by kernel_rfl) (fun _ _ _ h => h) (by rfl) (by assumption) ?_ ?_
                  rotate_left
                  · intro w' hSw; (try dsimp only at hSw); go_simp; try exact rfl
                  try simp only [List.setIfInBounds_toArray, List.set_cons_zero, List.set_cons_succ]
                  refine takeYes (i := 4) (d := 53) (v := ?_) rfl rfl (by kernel_rfl) (by kernel_rfl) (by kernel_rfl) (fun _ _ _ h => h) (by rfl) (by assumption) ?_ ?_
                  rotate_left
                  · intro w' hSw; (try dsimp only at hSw); go_simp; try exact rfl
                  try simp only [List.setIfInBounds_toArray, List.set_cons_zero, List.set_cons_succ]
                  refine wpAnyH_ready (rs := [5]) (by kernel_rfl) (by simp) ?_
                  refine AllReadyH.cons rfl (fun K hK => ?_) AllReadyH.nil
                  go_simp
                  go_at_call 78
                  refine (specName_any m _ hms).mono ?_
                  rintro e w1 ⟨rfl, rfl⟩
                  try go_wp2_with fail
                  refine hK.out _ _ ?_ (fun hHeld5 => ?_)
                  · (try dsimp only); refine ⟨?_, ?_⟩ <;> first | (go_simp; done) | (exact cell_later (by assumption) (by go_simp))
                  clear hK
                  refine takeYes (i := 6) (d := 55) (v := ?_) rfl rfl (by kernel_rfl) (by kernel_rfl) (by kernel_rfl) (fun _ _ _ h => h) (by rfl) (by assumption) ?_ ?_
                  rotate_left
                  · intro w' hSw; (try dsimp only at hSw); go_simp; try exact rfl
                  try simp only [List.setIfInBounds_toArray, List.set_cons_zero, List.set_cons_succ]
                  refine takeYes (i := 7) (d := 56) (v := ?_) rfl rfl (by kernel_rfl) (by kernel_rfl) (by kernel_rfl) (fun _ _ _ h => h) (by rfl) (by assumption) ?_ ?_
                  rotate_left
                  · intro w' hSw; (try dsimp only at hSw); go_simp; try exact rfl
                  try simp only [List.setIfInBounds_toArray, List.set_cons_zero, List.set_cons_succ]
                  refine takeYes (i := 8) (d := 57) (v := ?_) rfl rfl (by kernel_rfl) (by kernel_rfl) (by kernel_rfl) (fun _ _ _ h => h) (by rfl) (by assumption) ?_ ?_
                  rotate_left
                  · intro w' hSw; (try dsimp only at hSw); go_simp; try exact rfl
                  try simp only [List.setIfInBounds_toArray, List.set_cons_zero, List.set_cons_succ]
                  refine takeYes (i := 9) (d := 58) (v := ?_) rfl rfl (by kernel_rfl) (by kernel_rfl) (by kernel_rfl) (fun _ _ _ h => h) (by rfl) (by assumption) ?_ ?_
                  rotate_left
                  · intro w' hSw; (try dsimp only at hSw); go_simp; try exact rfl
                  try simp only [List.setIfInBounds_toArray, List.set_cons_zero, List.set_cons_succ]
                  refine takeYes (i := 10) (d := 59) (v := ?_) rfl rfl (by kernel_rfl) (by kernel_rfl) (by kernel_rfl) (fun _ _ _ h => h) (by rfl) (by assumption) ?_ ?_
                  rotate_left
                  · intro w' hSw; (try dsimp only at hSw); go_simp; try exact rfl
                  try simp only [List.setIfInBounds_toArray, List.set_cons_zero, List.set_cons_succ]
                  refine takeYes (i := 11) (d := 60) (v := ?_) rfl rfl (by kernel_rfl) (by kernel_rfl) (by kernel_rfl) (fun _ _ _ h => h) (by rfl) (by assumption) ?_ ?_
                  rotate_left
                  · intro w' hSw; (try dsimp only at hSw); go_simp; try exact rfl
                  try simp only [List.setIfInBounds_toArray, List.set_cons_zero, List.set_cons_succ]
                  refine takeYes (i := 12) (d := 61) (v := ?_) rfl rfl (by kernel_rfl) (by kernel_rfl) (by kernel_rfl) (fun _ _ _ h => h) (by rfl) (by assumption) ?_ ?_
                  rotate_left
                  · intro w' hSw; (try dsimp only at hSw); go_simp; try exact rfl
                  try simp only [List.setIfInBounds_toArray, List.set_cons_zero, List.set_cons_succ]
                  refine takeYes (i := 13) (d := 62) (v := ?_) rfl rfl (by kernel_rfl) (by kernel_rfl) (by kernel_rfl) (fun _ _ _ h => h) (by rfl) (by assumption) ?_ ?_
                  rotate_left
                  · intro w' hSw; (try dsimp only at hSw); go_simp; try exact rfl
                  try simp only [List.setIfInBounds_toArray, List.set_cons_zero, List.set_cons_succ]
                  refine takeYes (i := 14) (d := 63) (v := ?_) rfl rfl (by kernel_rfl) (by kernel_rfl) (by kernel_rfl) (fun _ _ _ h => h) (by rfl) (by assumption) ?_ ?_
                  rotate_left
                  · intro w' hSw; (try dsimp only at hSw); go_simp; try exact rfl
                  try simp only [List.setIfInBounds_toArray, List.set_cons_zero, List.set_cons_succ]
                  refine takeYes (i := 15) (d := 64) (v := ?_) rfl rfl (by kernel_rfl) (by kernel_rfl) (by kernel_rfl) (fun _ _ _ h => h) (by rfl) (by assumption) ?_ ?_
                  rotate_left
                  · intro w' hSw; (try dsimp only at hSw); go_simp; try exact rfl
                  try simp only [List.setIfInBounds_toArray, List.set_cons_zero, List.set_cons_succ]
                  refine takeYes (i := 16) (d := 65) (v := ?_) rfl rfl (by kernel_rfl) (by kernel_rfl) (by kernel_rfl) (fun _ _ _ h => h) (by rfl) (by assumption) ?_ ?_
                  rotate_left
                  · intro w' hSw; (try dsimp only at hSw); go_simp; try exact rfl
                  try simp only [List.setIfInBounds_toArray, List.set_cons_zero, List.set_cons_succ]
                  refine wpAnyH_ready (rs := [17]) (by kernel_rfl) (by simp) ?_
                  refine AllReadyH.cons rfl (fun K hK => ?_) AllReadyH.nil
                  go_simp
                  go_at_call 110
                  refine Calls.mono (l03HasF_any _ _ g' m _ (hcut.below (by repeat (first | exact Below.refl _ _ | refine Below.drew ?_ | refine Below.alloc ?_ (by first | (simp; done) | (simp; omega) | omega) _ | refine Below.setCell ?_ (by first | (simp; done) | (simp; omega) | omega) _ | refine bstep (by assumption) (by first | (simp; done) | (simp; omega) | omega) ?_)))) ?_
                  rw [HH.out]
                  rintro e w1 ⟨rfl, rfl⟩
                  try go_wp2_with fail
                  refine hK.out _ _ ?_ (fun hHeld17 => ?_)
                  · (try dsimp only); refine ⟨?_, ?_⟩ <;> first | (go_simp; done) | (exact cell_later (by assumption) (by go_simp))
                  clear hK
                  refine takeYes (i := 18) (d := 67) (v := ?_) rfl rfl (by kernel_rfl) (by kernel_rfl) (by kernel_rfl) (fun _ _ _ h => h) (by rfl) (by assumption) ?_ ?_
                  rotate_left
                  · intro w' hSw; (try dsimp only at hSw); go_simp; try exact rfl
                  try simp only [List.setIfInBounds_toArray, List.set_cons_zero, List.set_cons_succ]
                  refine wpAnyH_done (by kernel_rfl) ?_ _
                  go_wp2
                  go_returns
                  refine ⟨ret_bool ?_, by repeat (first | exact Below.refl _ _ | refine Below.drew ?_ | refine Below.alloc ?_ (by first | (simp; done) | (simp; omega) | omega) _ | refine Below.setCell ?_ (by first | (simp; done) | (simp; omega) | omega) _ | refine bstep (by assumption) (by first | (simp; done) | (simp; omega) | omega) ?_)⟩
                  unfold okSch
                  rw [HE.out, HS.out, HC.out, HE2.out, HS2.out, HN2.out, HH.out]
                  simp
                | false =>
                  go_wp2_with fail
                  refine wp_region_held_drew (S := (fun w' => w'.cell? ⟨wo.heap.size, 1, none⟩ = some (.slice (some ⟨bc, oc, none⟩) x.cs.length cr) ∧ w'.cell? ⟨bc, oc + n, none⟩ = some (.string m))) (by kernel_rfl) ?_ (fun hHeld => ?_)
                  · (try dsimp only); refine ⟨?_, ?_⟩ <;> first | (go_simp; done) | (exact cell_later (by assumption) (by go_simp))
                  refine takeYes (i := 0) (d := 49) (v := ?_) rfl rfl (by kernel_rfl) (by kernel_rfl) (by kernel_rfl) (fun _ _ _ h => h) (by rfl) (by assumption) ?_ ?_
                  rotate_left
                  · intro w' hSw; (try dsimp only at hSw); go_simp; try exact rfl
                  try simp only [List.setIfInBounds_toArray, List.set_cons_zero, List.set_cons_succ]
                  refine takeYes (i := 1) (d := 50) (v := ?_) rfl rfl (by kernel_rfl) (by kernel_rfl) (by kernel_rfl) (fun _ _ _ h => h) (by rfl) (by assumption) ?_ ?_
                  rotate_left
                  · intro w' hSw; (try dsimp only at hSw); go_simp; try exact rfl
                  try simp only [List.setIfInBounds_toArray, List.set_cons_zero, List.set_cons_succ]
                  refine takeYes (i := 2) (d := 51) (v := ?_) rfl rfl (by kernel_rfl) (by kernel_rfl) (by kernel_rfl) (fun _ _ _ h => h) (by rfl) (by assumption) ?_ ?_
                  rotate_left
                  · intro w' hSw; (try dsimp only at hSw); go_simp; try exact rfl
                  try simp only [List.setIfInBounds_toArray, List.set_cons_zero, List.set_cons_succ]
                  refine takeYes (i := 3) (d := 52) (v := ?_) rfl rfl (by kernel_rfl) (by kernel_rfl) (by kernel_rfl) (fun _ _ _ h => h) (by rfl) (by assumption) ?_ ?_
                  rotate_left
                  · intro w' hSw; (try dsimp only at hSw); go_simp; try exact rfl
                  try simp only [List.setIfInBounds_toArray, List.set_cons_zero, List.set_cons_succ]
                  refine takeYes (i := 4) (d := 53) (v := ?_) rfl rfl (by kernel_rfl) (by kernel_rfl) (by kernel_rfl) (fun _ _ _ h => h) (by rfl) (by assumption) ?_ ?_
                  rotate_left
                  · intro w' hSw; (try dsimp only at hSw); go_simp; try exact rfl
                  try simp only [List.setIfInBounds_toArray, List.set_cons_zero, List.set_cons_succ]
                  refine wpAnyH_ready (rs := [5]) (by kernel_rfl) (by simp) ?_
                  refine AllReadyH.cons rfl (fun K hK => ?_) AllReadyH.nil
                  go_simp
                  go_at_call 78
                  refine (specName_any m _ hms).mono ?_
                  rintro e w1 ⟨rfl, rfl⟩
                  try go_wp2_with fail
                  refine hK.out _ _ ?_ (fun hHeld5 => ?_)
                  · (try dsimp only); refine ⟨?_, ?_⟩ <;> first | (go_simp; done) | (exact cell_later (by assumption) (by go_simp))
                  clear hK
                  refine takeYes (i := 6) (d := 55) (v := ?_) rfl rfl (by kernel_rfl) (by kernel_rfl) (by kernel_rfl) (fun _ _ _ h => h) (by rfl) (by assumption) ?_ ?_
                  rotate_left
                  · intro w' hSw; (try dsimp only at hSw); go_simp; try exact rfl
                  try simp only [List.setIfInBounds_toArray, List.set_cons_zero, List.set_cons_succ]
                  refine takeYes (i := 7) (d := 56) (v := ?_) rfl rfl (by kernel_rfl) (by kernel_rfl) (by kernel_rfl) (fun _ _ _ h => h) (by rfl) (by assumption) ?_ ?_
                  rotate_left
                  · intro w' hSw; (try dsimp only at hSw); go_simp; try exact rfl
                  try simp only [List.setIfInBounds_toArray, List.set_cons_zero, List.set_cons_succ]
                  refine takeYes (i := 8) (d := 57) (v := ?_) rfl rfl (by kernel_rfl) (by kernel_rfl) (by kernel_rfl) (fun _ _ _ h => h) (by rfl) (by assumption) ?_ ?_
                  rotate_left
                  · intro w' hSw; (try dsimp only at hSw); go_simp; try exact rfl
                  try simp only [List.setIfInBounds_toArray, List.set_cons_zero, List.set_cons_succ]
                  refine takeYes (i := 9) (d := 58) (v := ?_) rfl rfl (by kernel_rfl) (by kernel_rfl) (by kernel_rfl) (fun _ _ _ h => h) (by rfl) (by assumption) ?_ ?_
                  rotate_left
                  · intro w' hSw; (try dsimp only at hSw); go_simp; try exact rfl
                  try simp only [List.setIfInBounds_toArray, List.set_cons_zero, List.set_cons_succ]
                  refine takeYes (i := 10) (d := 59) (v := ?_) rfl rfl (by kernel_rfl) (by kernel_rfl) (by kernel_rfl) (fun _ _ _ h => h) (by rfl) (by assumption) ?_ ?_
                  rotate_left
                  · intro w' hSw; (try dsimp only at hSw); go_simp; try exact rfl
                  try simp only [List.setIfInBounds_toArray, List.set_cons_zero, List.set_cons_succ]
                  refine takeYes (i := 11) (d := 60) (v := ?_) rfl rfl (by kernel_rfl) (by kernel_rfl) (by kernel_rfl) (fun _ _ _ h => h) (by rfl) (by assumption) ?_ ?_
                  rotate_left
                  · intro w' hSw; (try dsimp only at hSw); go_simp; try exact rfl
                  try simp only [List.setIfInBounds_toArray, List.set_cons_zero, List.set_cons_succ]
                  refine takeYes (i := 12) (d := 61) (v := ?_) rfl rfl (by kernel_rfl) (by kernel_rfl) (by kernel_rfl) (fun _ _ _ h => h) (by rfl) (by assumption) ?_ ?_
                  rotate_left
                  · intro w' hSw; (try dsimp only at hSw); go_simp; try exact rfl
                  try simp only [List.setIfInBounds_toArray, List.set_cons_zero, List.set_cons_succ]
                  refine takeYes (i := 13) (d := 62) (v := ?_) rfl rfl (by kernel_rfl) (by kernel_rfl) (by kernel_rfl) (fun _ _ _ h => h) (by rfl) (by assumption) ?_ ?_
                  rotate_left
                  · intro w' hSw; (try dsimp only at hSw); go_simp; try exact rfl
                  try simp only [List.setIfInBounds_toArray, List.set_cons_zero, List.set_cons_succ]
                  refine takeYes (i := 14) (d := 63) (v := ?_) rfl rfl (by kernel_rfl) (by kernel_rfl) (by kernel_rfl) (fun _ _ _ h => h) (by rfl) (by assumption) ?_ ?_
                  rotate_left
                  · intro w' hSw; (try dsimp only at hSw); go_simp; try exact rfl
                  try simp only [List.setIfInBounds_toArray, List.set_cons_zero, List.set_cons_succ]
                  refine takeYes (i := 15) (d := 64) (v := ?_) rfl rfl (by kernel_rfl) (by kernel_rfl) (by kernel_rfl) (fun _ _ _ h => h) (by rfl) (by assumption) ?_ ?_
                  rotate_left
                  · intro w' hSw; (try dsimp only at hSw); go_simp; try exact rfl
                  try simp only [List.setIfInBounds_toArray, List.set_cons_zero, List.set_cons_succ]
                  refine takeYes (i := 16) (d := 65) (v := ?_) rfl rfl (by kernel_rfl) (by kernel_rfl) (by kernel_rfl) (fun _ _ _ h => h) (by rfl) (by assumption) ?_ ?_
                  rotate_left
                  · intro w' hSw; (try dsimp only at hSw); go_simp; try exact rfl
                  try simp only [List.setIfInBounds_toArray, List.set_cons_zero, List.set_cons_succ]
                  refine wpAnyH_ready (rs := [17]) (by kernel_rfl) (by simp) ?_
                  refine AllReadyH.cons rfl (fun K hK => ?_) AllReadyH.nil
                  go_simp
                  go_at_call 110
                  refine Calls.mono (l03HasF_any _ _ g' m _ (hcut.below (by repeat (first | exact Below.refl _ _ | refine Below.drew ?_ | refine Below.alloc ?_ (by first | (simp; done) | (simp; omega) | omega) _ | refine Below.setCell ?_ (by first | (simp; done) | (simp; omega) | omega) _ | refine bstep (by assumption) (by first | (simp; done) | (simp; omega) | omega) ?_)))) ?_
                  rw [HH.out]
                  rintro e w1 ⟨rfl, rfl⟩
                  try go_wp2_with fail
                  refine hK.out _ _ ?_ (fun hHeld17 => ?_)
                  · (try dsimp only); refine ⟨?_, ?_⟩ <;> first | (go_simp; done) | (exact cell_later (by assumption) (by go_simp))
                  clear hK
                  refine takeYes (i := 18) (d := 67) (v := ?_) rfl rfl (by kernel_rfl) (by kernel_rfl) (by kernel_rfl) (fun _ _ _ h => h) (by rfl) (by assumption) ?_ ?_
                  rotate_left
                  · intro w' hSw; (try dsimp only at hSw); go_simp; try exact rfl
                  try simp only [List.setIfInBounds_toArray, List.set_cons_zero, List.set_cons_succ]
                  refine wpAnyH_done (by kernel_rfl) ?_ _
                  go_wp2
                  refine ⟨⟨n + 1, hnl, by simp, by (repeat (first | exact hbi | refine Below.drew ?_)), ?_⟩, by simp [intOf]; omega⟩
                  rw [HE2.out, HS2.out, HN2.out, HH.out]
                  simp
              · have HC : Hid (okCols x.cs = true) := by
                  show okCols x.cs = true
                  rw [okCols_cols hin, HE2.out, List.drop_eq_nil_of_le (by omega)]; rfl
                clear hR5 hR hxw hin q1
                go_wp2_with fail
                refine ⟨⟨j + 1 + 1, (j : Int) + 1 + 1, hlt, by omega, by simp, by (repeat (first | exact hbwi | refine Below.drew ?_)), ?_⟩, by simp [intOf]; omega⟩
                rw [HE.out, HS.out, HQ.out, hnm, HC.out, hcmp]
                simp
    · have HN : Hid (okHs none rs = true) := by rw [HE.out, List.drop_eq_nil_of_le (by omega)]; rfl
      clear ha hw
      go_wp2
      go_returns
      refine ⟨ret_bool ?_, hb⟩
      unfold okSch
      rw [HN.out, Bool.and_true]
      first | rfl | (rw [Bool.eq_iff_iff]; simp; omega) | (simp; omega)
end Go.Proofs.Ytmomffaceglibaa
/- Own text. The contract of spec.StepOk. -/
namespace Go.Proofs.Ytmomffaceglibaa
open Go.RowKit
set_option linter.unusedVariables false
theorem pos_of {α : Type} {l : List α} (h : l.isEmpty = false) : 0 < l.length := by cases l <;> simp at h ⊢
theorem pos_not {α : Type} {l : List α} (h : l.isEmpty = true) : ¬ 0 < l.length := by cases l <;> simp at h ⊢
set_option maxHeartbeats 8000000 in
set_option maxRecDepth 100000 in
theorem specStepOk_any (x : T5) (uc ur : Value) (w : World) (hw : x.wf) (hr : StpIs w uc ur x) :
    Calls Try.prog 39 #[(.agg #[.int .i64 x.k, .string x.s, uc, .string x.q, ur])] w fun e w' => e = .returned (.bool (okStep x)) ∧ Below w.heap.size w w' := by
  obtain ⟨_, ws, wc, wq, wr'⟩ := hw
  obtain ⟨⟨ac, cc, rfl, _, _⟩, _⟩ := hr.shape
  obtain ⟨⟨g, hS⟩, hR⟩ := hr
  obtain ⟨ar, cr, b, o, rfl, hl, hc, ha⟩ := hR.pick
  unfold maxLen at hc
  have hq := wq
  unfold maxLen at hq
  have e2 := isEmpty_len x.cs
  have e4 := isEmpty_len x.rs
  obtain ⟨b1, e1⟩ : ∃ b, x.s.toList.isEmpty = b := ⟨_, rfl⟩
  obtain ⟨b2, HB2⟩ : ∃ b, Hid (x.cs.isEmpty = b) := ⟨_, rfl⟩
  obtain ⟨b3, e3⟩ : ∃ b, x.q.toList.isEmpty = b := ⟨_, rfl⟩
  obtain ⟨b4, HB4⟩ : ∃ b, Hid (x.rs.isEmpty = b) := ⟨_, rfl⟩
  rw [HB2.out] at e2
  rw [HB4.out] at e4
  have HK : Hid (okStep x = if x.k = 0 then okSch [⟨x.s, x.cs⟩] && b3 && b4
    else if x.k = 1 then nameB x.s && b2 && decide (x.q.size ≤ 1000) && b4
    else if x.k = 2 then nameB x.s && b2 && b3 && b4
    else if x.k = 3 then b1 && b2 && b3 && okRels x.rs
    else false) := by simp only [Hid, okStep, e1, HB2.out, e3, HB4.out]
  have hp2 : b2 = false → 0 < x.cs.length := fun e => pos_of (HB2.out.trans e)
  have hn2 : b2 = true → ¬ 0 < x.cs.length := fun e => pos_not (HB2.out.trans e)
  have hp4 : b4 = false → 0 < x.rs.length := fun e => pos_of (HB4.out.trans e)
  have hn4 : b4 = true → ¬ 0 < x.rs.length := fun e => pos_not (HB4.out.trans e)
  by_cases k0 : x.k = 0
  · rw [if_pos k0] at HK
    have k0' : (x.k == 0) = true := by simpa using k0
    have n0' : (x.k != 0) = false := by simp [k0]
    have k1' : (x.k == 1) = false := by rw [k0]; rfl
    have n1' : (x.k != 1) = true := by rw [k0]; rfl
    have k3' : (x.k == 3) = false := by rw [k0]; rfl
    have n3' : (x.k != 3) = true := by rw [k0]; rfl
    obtain ⟨bo, HO⟩ : ∃ b, Hid (okSch [⟨x.s, x.cs⟩] = b) := ⟨_, rfl⟩
    clear k0
    cases b3 with
    | false =>
      clear hp2 hn2 hp4 hn4
      go_enter Try.func39, Try.ntmps39
      go_wp2_with fail
      go_returns
      exact ⟨ret_bool (by rw [HK.out]; try simp), by repeat (first | (with_reducible exact Below.refl _ _) | (with_reducible refine Below.drew ?_) | (with_reducible refine Below.alloc ?_ ?hh _; case hh => first | (simp; done) | (simp; omega) | omega) | (with_reducible refine Below.setCell ?_ ?hh _; case hh => first | (simp; done) | (simp; omega) | omega) | refine bstep (by assumption) (by first | (simp; done) | (simp; omega) | omega) ?_)⟩
    | true =>
    cases b4 with
    | false =>
      have l4 := hp4 rfl
      clear hp2 hn2 hp4 hn4
      go_enter Try.func39, Try.ntmps39
      go_wp2_with fail
      go_returns
      exact ⟨ret_bool (by rw [HK.out]; try simp), by repeat (first | (with_reducible exact Below.refl _ _) | (with_reducible refine Below.drew ?_) | (with_reducible refine Below.alloc ?_ ?hh _; case hh => first | (simp; done) | (simp; omega) | omega) | (with_reducible refine Below.setCell ?_ ?hh _; case hh => first | (simp; done) | (simp; omega) | omega) | refine bstep (by assumption) (by first | (simp; done) | (simp; omega) | omega) ?_)⟩
    | true =>
    have l4 := hn4 rfl
    clear hp2 hn2 hp4 hn4
    go_enter Try.func39, Try.ntmps39
    go_wp2_with fail
    refine Calls.mono (specSchemasOk_any _ [⟨x.s, x.cs⟩] _ ?hw (schs_one (s := x.s) (hS.below ?hb) rfl ?hl ?h0 ?h1)) ?_
    case hw => intro y hy; obtain rfl := List.mem_singleton.1 hy; exact ⟨ws, wc⟩
    case hb => repeat (first | (with_reducible exact Below.refl _ _) | (with_reducible refine Below.drew ?_) | (with_reducible refine Below.alloc ?_ ?hh _; case hh => first | (simp; done) | (simp; omega) | omega) | (with_reducible refine Below.setCell ?_ ?hh _; case hh => first | (simp; done) | (simp; omega) | omega) | refine bstep (by assumption) (by first | (simp; done) | (simp; omega) | omega) ?_)
    case hl => simp
    case h0 => go_simp
    case h1 => go_simp
    rw [HO.out]
    rintro e w1 ⟨rfl, hb1⟩
    have bel1 : Below w.heap.size w w1 := by
      refine Below.trans ?_ (hb1.mono ?_)
      · repeat (first | (with_reducible exact Below.refl _ _) | (with_reducible refine Below.drew ?_) | (with_reducible refine Below.alloc ?_ ?hh _; case hh => first | (simp; done) | (simp; omega) | omega) | (with_reducible refine Below.setCell ?_ ?hh _; case hh => first | (simp; done) | (simp; omega) | omega) | refine bstep (by assumption) (by first | (simp; done) | (simp; omega) | omega) ?_)
      · (simp; try omega)
    cases bo <;> (
      go_wp2_with fail
      go_returns
      exact ⟨ret_bool (by rw [HK.out, HO.out]; rfl), bel1⟩)
  have k0' : (x.k == 0) = false := by simpa using k0
  have n0' : (x.k != 0) = true := by simp [k0]
  rw [if_neg k0] at HK
  clear k0
  by_cases k1 : x.k = 1
  · rw [if_pos k1] at HK
    have k1' : (x.k == 1) = true := by simpa using k1
    have n1' : (x.k != 1) = false := by simp [k1]
    have k3' : (x.k == 3) = false := by rw [k1]; rfl
    have n3' : (x.k != 3) = true := by rw [k1]; rfl
    obtain ⟨bo, HO⟩ : ∃ b, Hid (nameB x.s = b) := ⟨_, rfl⟩
    clear k1
    cases b2 with
    | false =>
      have l2 := hp2 rfl
      clear hp2 hn2 hp4 hn4
      go_enter Try.func39, Try.ntmps39
      go_wp2_with fail
      go_returns
      exact ⟨ret_bool (by rw [HK.out]; try simp), by repeat (first | (with_reducible exact Below.refl _ _) | (with_reducible refine Below.drew ?_) | (with_reducible refine Below.alloc ?_ ?hh _; case hh => first | (simp; done) | (simp; omega) | omega) | (with_reducible refine Below.setCell ?_ ?hh _; case hh => first | (simp; done) | (simp; omega) | omega) | refine bstep (by assumption) (by first | (simp; done) | (simp; omega) | omega) ?_)⟩
    | true =>
    have l2 := hn2 rfl
    cases b4 with
    | false =>
      have l4 := hp4 rfl
      clear hp2 hn2 hp4 hn4
      go_enter Try.func39, Try.ntmps39
      go_wp2_with fail
      go_returns
      exact ⟨ret_bool (by rw [HK.out]; try simp), by repeat (first | (with_reducible exact Below.refl _ _) | (with_reducible refine Below.drew ?_) | (with_reducible refine Below.alloc ?_ ?hh _; case hh => first | (simp; done) | (simp; omega) | omega) | (with_reducible refine Below.setCell ?_ ?hh _; case hh => first | (simp; done) | (simp; omega) | omega) | refine bstep (by assumption) (by first | (simp; done) | (simp; omega) | omega) ?_)⟩
    | true =>
    have l4 := hn4 rfl
    clear hp2 hn2 hp4 hn4
    by_cases hk : (x.q.size : Int) ≤ 1000
    · have HQ : Hid (decide (x.q.size ≤ 1000) = true) := by simp [Hid]; omega
      go_enter Try.func39, Try.ntmps39
      go_wp2_with fail
      refine Calls.mono (specName_any x.s _ ws) ?_
      rw [HO.out]
      rintro e w1 ⟨rfl, rfl⟩
      cases bo <;> (
        go_wp2_with fail
        go_returns
        exact ⟨ret_bool (by rw [HK.out, HO.out, HQ.out]; first | rfl | (simp; omega)), by repeat (first | (with_reducible exact Below.refl _ _) | (with_reducible refine Below.drew ?_) | (with_reducible refine Below.alloc ?_ ?hh _; case hh => first | (simp; done) | (simp; omega) | omega) | (with_reducible refine Below.setCell ?_ ?hh _; case hh => first | (simp; done) | (simp; omega) | omega) | refine bstep (by assumption) (by first | (simp; done) | (simp; omega) | omega) ?_)⟩)
    · have HQ : Hid (decide (x.q.size ≤ 1000) = false) := by simp [Hid]; omega
      go_enter Try.func39, Try.ntmps39
      go_wp2_with fail
      refine Calls.mono (specName_any x.s _ ws) ?_
      rw [HO.out]
      rintro e w1 ⟨rfl, rfl⟩
      cases bo <;> (
        go_wp2_with fail
        go_returns
        exact ⟨ret_bool (by rw [HK.out, HO.out, HQ.out]; first | rfl | (simp; omega)), by repeat (first | (with_reducible exact Below.refl _ _) | (with_reducible refine Below.drew ?_) | (with_reducible refine Below.alloc ?_ ?hh _; case hh => first | (simp; done) | (simp; omega) | omega) | (with_reducible refine Below.setCell ?_ ?hh _; case hh => first | (simp; done) | (simp; omega) | omega) | refine bstep (by assumption) (by first | (simp; done) | (simp; omega) | omega) ?_)⟩)
  have k1' : (x.k == 1) = false := by simpa using k1
  have n1' : (x.k != 1) = true := by simp [k1]
  rw [if_neg k1] at HK
  clear k1
  by_cases k2 : x.k = 2
  · rw [if_pos k2] at HK
    have k2' : (x.k == 2) = true := by simpa using k2
    have k3' : (x.k == 3) = false := by rw [k2]; rfl
    have n3' : (x.k != 3) = true := by rw [k2]; rfl
    obtain ⟨bo, HO⟩ : ∃ b, Hid (nameB x.s = b) := ⟨_, rfl⟩
    clear k2
    cases b2 with
    | false =>
      have l2 := hp2 rfl
      clear hp2 hn2 hp4 hn4
      go_enter Try.func39, Try.ntmps39
      go_wp2_with fail
      go_returns
      exact ⟨ret_bool (by rw [HK.out]; try simp), by repeat (first | (with_reducible exact Below.refl _ _) | (with_reducible refine Below.drew ?_) | (with_reducible refine Below.alloc ?_ ?hh _; case hh => first | (simp; done) | (simp; omega) | omega) | (with_reducible refine Below.setCell ?_ ?hh _; case hh => first | (simp; done) | (simp; omega) | omega) | refine bstep (by assumption) (by first | (simp; done) | (simp; omega) | omega) ?_)⟩
    | true =>
    have l2 := hn2 rfl
    cases b3 with
    | false =>
      clear hp2 hn2 hp4 hn4
      go_enter Try.func39, Try.ntmps39
      go_wp2_with fail
      go_returns
      exact ⟨ret_bool (by rw [HK.out]; try simp), by repeat (first | (with_reducible exact Below.refl _ _) | (with_reducible refine Below.drew ?_) | (with_reducible refine Below.alloc ?_ ?hh _; case hh => first | (simp; done) | (simp; omega) | omega) | (with_reducible refine Below.setCell ?_ ?hh _; case hh => first | (simp; done) | (simp; omega) | omega) | refine bstep (by assumption) (by first | (simp; done) | (simp; omega) | omega) ?_)⟩
    | true =>
    cases b4 with
    | false =>
      have l4 := hp4 rfl
      clear hp2 hn2 hp4 hn4
      go_enter Try.func39, Try.ntmps39
      go_wp2_with fail
      go_returns
      exact ⟨ret_bool (by rw [HK.out]; try simp), by repeat (first | (with_reducible exact Below.refl _ _) | (with_reducible refine Below.drew ?_) | (with_reducible refine Below.alloc ?_ ?hh _; case hh => first | (simp; done) | (simp; omega) | omega) | (with_reducible refine Below.setCell ?_ ?hh _; case hh => first | (simp; done) | (simp; omega) | omega) | refine bstep (by assumption) (by first | (simp; done) | (simp; omega) | omega) ?_)⟩
    | true =>
    have l4 := hn4 rfl
    clear hp2 hn2 hp4 hn4
    go_enter Try.func39, Try.ntmps39
    go_wp2_with fail
    refine Calls.mono (specName_any x.s _ ws) ?_
    rw [HO.out]
    rintro e w1 ⟨rfl, rfl⟩
    cases bo <;> (
      go_wp2_with fail
      go_returns
      exact ⟨ret_bool (by rw [HK.out, HO.out]; rfl), by repeat (first | (with_reducible exact Below.refl _ _) | (with_reducible refine Below.drew ?_) | (with_reducible refine Below.alloc ?_ ?hh _; case hh => first | (simp; done) | (simp; omega) | omega) | (with_reducible refine Below.setCell ?_ ?hh _; case hh => first | (simp; done) | (simp; omega) | omega) | refine bstep (by assumption) (by first | (simp; done) | (simp; omega) | omega) ?_)⟩)
  have k2' : (x.k == 2) = false := by simpa using k2
  rw [if_neg k2] at HK
  clear k2
  by_cases k3 : x.k = 3
  · rw [if_pos k3] at HK
    have k3' : (x.k == 3) = true := by simpa using k3
    have n3' : (x.k != 3) = false := by simp [k3]
    clear k3
    cases b2 with
    | false =>
      have l2 := hp2 rfl
      clear hp2 hn2 hp4 hn4
      go_enter Try.func39, Try.ntmps39
      go_wp2_with fail
      go_returns
      exact ⟨ret_bool (by rw [HK.out]; try simp), by repeat (first | (with_reducible exact Below.refl _ _) | (with_reducible refine Below.drew ?_) | (with_reducible refine Below.alloc ?_ ?hh _; case hh => first | (simp; done) | (simp; omega) | omega) | (with_reducible refine Below.setCell ?_ ?hh _; case hh => first | (simp; done) | (simp; omega) | omega) | refine bstep (by assumption) (by first | (simp; done) | (simp; omega) | omega) ?_)⟩
    | true =>
    have l2 := hn2 rfl
    cases b3 with
    | false =>
      clear hp2 hn2 hp4 hn4
      go_enter Try.func39, Try.ntmps39
      go_wp2_with fail
      go_returns
      exact ⟨ret_bool (by rw [HK.out]; try simp), by repeat (first | (with_reducible exact Below.refl _ _) | (with_reducible refine Below.drew ?_) | (with_reducible refine Below.alloc ?_ ?hh _; case hh => first | (simp; done) | (simp; omega) | omega) | (with_reducible refine Below.setCell ?_ ?hh _; case hh => first | (simp; done) | (simp; omega) | omega) | refine bstep (by assumption) (by first | (simp; done) | (simp; omega) | omega) ?_)⟩
    | true =>
    clear hp2 hn2 hp4 hn4
    go_enter Try.func39, Try.ntmps39
    go_wp2_with fail
    go_loopw [3] (fun i wr => ∃ (k : Nat) (q : Int), k ≤ x.rs.length ∧ q = k ∧ i = .int .i64 q ∧ Below w.heap.size w wr ∧ w.heap.size < wr.heap.size ∧ wr.cell? ⟨w.heap.size, 0, none⟩ = some (.int .i64 x.k) ∧ wr.cell? ⟨w.heap.size, 1, none⟩ = some (.string x.s) ∧ wr.cell? ⟨w.heap.size, 4, none⟩ = some (.slice ar x.rs.length cr) ∧ okTs none x.rs = okTs (prevT x.rs k) (x.rs.drop k)) (fun i _ => x.rs.length - (intOf i).toNat)
    case atStart => exact ⟨0, 0, Nat.zero_le _, rfl, rfl, by repeat (first | (with_reducible exact Below.refl _ _) | (with_reducible refine Below.drew ?_) | (with_reducible refine Below.alloc ?_ ?hh _; case hh => first | (simp; done) | (simp; omega) | omega) | (with_reducible refine Below.setCell ?_ ?hh _; case hh => first | (simp; done) | (simp; omega) | omega) | refine bstep (by assumption) (by first | (simp; done) | (simp; omega) | omega) ?_), by simp, by go_simp, by go_simp, by go_simp, by simp [prevT]⟩
    case round =>
      obtain ⟨k, q, hk, hq, rfl, hb, hsz, q0, q1, q4, heq⟩ := hrel
      have HE : Hid (okTs none x.rs = okTs (prevT x.rs k) (x.rs.drop k)) := heq
      have hzb := hb.size
      clear heq
      by_cases hlt : k < x.rs.length
      · obtain ⟨rfl, hblt, hL⟩ := ha k hlt
        obtain ⟨y, u, hx, c0, c1, c2, hRw, hbr⟩ := hL.at hblt hb hlt
        obtain ⟨ur, lr, cq, rfl⟩ := hRw.shape
        obtain ⟨hxs, _, hxw⟩ := wr' y (List.mem_of_getElem? hx)
        have HS : Hid (okTs (prevT x.rs k) (x.rs.drop k) = (nameB y.s && okBag y.W y.cs && okPrevT (prevT x.rs k) y && okTs (prevT x.rs (k + 1)) (x.rs.drop (k + 1)))) := okTs_step hx
        by_cases hnm : nameB y.s = true
        rotate_left
        · have hf : nameB y.s = false := by simpa using hnm
          clear ha wr' hL hx
          subst hq
          go_wp2_with fail
          refine wp_region_held_drew (S := (fun w' => w'.cell? ⟨w.heap.size, 4, none⟩ = some (.slice (some ⟨b, o, none⟩) x.rs.length cr) ∧ w'.cell? ⟨b, o + k * 3, none⟩ = some (.string y.s) ∧ w'.cell? ⟨b, o + k * 3 + 1, none⟩ = some (.int .i64 y.W) ∧ w'.cell? ⟨b, o + k * 3 + 2, none⟩ = some (.slice ur lr cq))) (by kernel_rfl) ?_ (fun hHeld => ?_)
          · (try dsimp only); refine ⟨?_, ?_, ?_, ?_⟩ <;> first | (go_simp; done) | (exact cell_later (by assumption) (by go_simp))
          refine takeYes (i := 0) (d := 68) (v := ?_) rfl rfl (by kernel_rfl) (by kernel_rfl) (by kernel_rfl) (fun _ _ _ h => h) (by rfl) (by assumption) ?_ ?_
          rotate_left
          · intro w' hSw; (try dsimp only at hSw); go_simp; try exact rfl
          try simp only [List.setIfInBounds_toArray, List.set_cons_zero, List.set_cons_succ]
          refine takeYes (i := 1) (d := 69) (v := ?_) rfl rfl (by kernel_rfl) (by kernel_rfl) (by kernel_rfl) (fun _ _ _ h => h) (by rfl) (by assumption) ?_ ?_
          rotate_left
          · intro w' hSw; (try dsimp only at hSw); go_simp; try exact rfl
          try simp only [List.setIfInBounds_toArray, List.set_cons_zero, List.set_cons_succ]
          refine takeYes (i := 2) (d := 70) (v := ?_) rfl rfl (by kernel_rfl) (by kernel_rfl) (by kernel_rfl) (fun _ _ _ h => h) (by rfl) (by assumption) ?_ ?_
          rotate_left
          · intro w' hSw; (try dsimp only at hSw); go_simp; try exact rfl
          try simp only [List.setIfInBounds_toArray, List.set_cons_zero, List.set_cons_succ]
          refine takeYes (i := 3) (d := 71) (v := ?_) rfl rfl (by kernel_rfl) (by kernel_rfl) (by kernel_rfl) (fun _ _ _ h => h) (by rfl) (by assumption) ?_ ?_
          rotate_left
          · intro w' hSw; (try dsimp only at hSw); go_simp; try exact rfl
          try simp only [List.setIfInBounds_toArray, List.set_cons_zero, List.set_cons_succ]
          refine takeYes (i := 4) (d := 72) (v := ?_) rfl rfl (by kernel_rfl) (by kernel_rfl) (by kernel_rfl) (fun _ _ _ h => h) (by rfl) (by assumption) ?_ ?_
          rotate_left
          · intro w' hSw; (try dsimp only at hSw); go_simp; try exact rfl
          try simp only [List.setIfInBounds_toArray, List.set_cons_zero, List.set_cons_succ]
          refine takeYes (i := 5) (d := 73) (v := ?_) rfl rfl (by kernel_rfl) (by kernel_rfl) (by kernel_rfl) (fun _ _ _ h => h) (by rfl) (by assumption) ?_ ?_
          rotate_left
          · intro w' hSw; (try dsimp only at hSw); go_simp; try exact rfl
          try simp only [List.setIfInBounds_toArray, List.set_cons_zero, List.set_cons_succ]
          refine wpAnyH_ready (rs := [6]) (by kernel_rfl) (by simp) ?_
          refine AllReadyH.cons rfl (fun K hK => ?_) AllReadyH.nil
          go_simp
          go_at_call 78
          refine (specName_any y.s _ hxs).mono ?_
          rintro e w1 ⟨rfl, rfl⟩
          try go_wp2_with fail
          refine hK.out _ _ ?_ (fun hHeld6 => ?_)
          · (try dsimp only); refine ⟨?_, ?_, ?_, ?_⟩ <;> first | (go_simp; done) | (exact cell_later (by assumption) (by go_simp))
          clear hK
          refine takeYes (i := 7) (d := 75) (v := ?_) rfl rfl (by kernel_rfl) (by kernel_rfl) (by kernel_rfl) (fun _ _ _ h => h) (by rfl) (by assumption) ?_ ?_
          rotate_left
          · intro w' hSw; (try dsimp only at hSw); go_simp; try exact rfl
          try simp only [List.setIfInBounds_toArray, List.set_cons_zero, List.set_cons_succ]
          refine takeYes (i := 8) (d := 76) (v := ?_) rfl rfl (by kernel_rfl) (by kernel_rfl) (by kernel_rfl) (fun _ _ _ h => h) (by rfl) (by assumption) ?_ ?_
          rotate_left
          · intro w' hSw; (try dsimp only at hSw); go_simp; try exact rfl
          try simp only [List.setIfInBounds_toArray, List.set_cons_zero, List.set_cons_succ]
          refine takeNo (i := 9) (d := 77) rfl rfl (by kernel_rfl) (by kernel_rfl) (by kernel_rfl) (fun _ _ _ h => h) (by rfl) (by assumption) ?_
          try simp only [List.setIfInBounds_toArray, List.set_cons_zero, List.set_cons_succ]
          refine takeNo (i := 10) (d := 78) rfl rfl (by kernel_rfl) (by kernel_rfl) (by kernel_rfl) (fun _ _ _ h => h) (by rfl) (by assumption) ?_
          try simp only [List.setIfInBounds_toArray, List.set_cons_zero, List.set_cons_succ]
          refine takeNo (i := 11) (d := 79) rfl rfl (by kernel_rfl) (by kernel_rfl) (by kernel_rfl) (fun _ _ _ h => h) (by rfl) (by assumption) ?_
          try simp only [List.setIfInBounds_toArray, List.set_cons_zero, List.set_cons_succ]
          refine takeNo (i := 12) (d := 80) rfl rfl (by kernel_rfl) (by kernel_rfl) (by kernel_rfl) (fun _ _ _ h => h) (by rfl) (by assumption) ?_
          try simp only [List.setIfInBounds_toArray, List.set_cons_zero, List.set_cons_succ]
          refine takeNo (i := 13) (d := 81) rfl rfl (by kernel_rfl) (by kernel_rfl) (by kernel_rfl) (fun _ _ _ h => h) (by rfl) (by assumption) ?_
          try simp only [List.setIfInBounds_toArray, List.set_cons_zero, List.set_cons_succ]
          refine takeNo (i := 14) (d := 82) rfl rfl (by kernel_rfl) (by kernel_rfl) (by kernel_rfl) (fun _ _ _ h => h) (by rfl) (by assumption) ?_
          try simp only [List.setIfInBounds_toArray, List.set_cons_zero, List.set_cons_succ]
          refine wpAnyH_ready (rs := [15]) (by kernel_rfl) (by simp) ?_
          refine AllReadyH.cons rfl (fun K hK => ?_) AllReadyH.nil
          go_simp
          refine hK.out _ _ ?_ (fun hHeld15 => ?_)
          · (try dsimp only); refine ⟨?_, ?_, ?_, ?_⟩ <;> first | (go_simp; done) | (exact cell_later (by assumption) (by go_simp))
          clear hK
          refine takeNo (i := 16) (d := 84) rfl rfl (by kernel_rfl) (by kernel_rfl) (by kernel_rfl) (fun _ _ _ h => h) (by rfl) (by assumption) ?_
          try simp only [List.setIfInBounds_toArray, List.set_cons_zero, List.set_cons_succ]
          refine takeYes (i := 17) (d := 85) (v := ?_) rfl rfl (by kernel_rfl) (by kernel_rfl) (by kernel_rfl) (fun _ _ _ h => h) (by rfl) (by assumption) ?_ ?_
          rotate_left
          · intro w' hSw; (try dsimp only at hSw); go_simp; try exact rfl
          try simp only [List.setIfInBounds_toArray, List.set_cons_zero, List.set_cons_succ]
          refine takeYes (i := 18) (d := 86) (v := ?_) rfl rfl (by kernel_rfl) (by kernel_rfl) (by kernel_rfl) (fun _ _ _ h => h) (by rfl) (by assumption) ?_ ?_
          rotate_left
          · intro w' hSw; (try dsimp only at hSw); go_simp; try exact rfl
          try simp only [List.setIfInBounds_toArray, List.set_cons_zero, List.set_cons_succ]
          refine takeNo (i := 19) (d := 87) rfl rfl (by kernel_rfl) (by kernel_rfl) (by kernel_rfl) (fun _ _ _ h => h) (by rfl) (by assumption) ?_
          try simp only [List.setIfInBounds_toArray, List.set_cons_zero, List.set_cons_succ]
          refine takeNo (i := 20) (d := 88) rfl rfl (by kernel_rfl) (by kernel_rfl) (by kernel_rfl) (fun _ _ _ h => h) (by rfl) (by assumption) ?_
          try simp only [List.setIfInBounds_toArray, List.set_cons_zero, List.set_cons_succ]
          refine takeNo (i := 21) (d := 89) rfl rfl (by kernel_rfl) (by kernel_rfl) (by kernel_rfl) (fun _ _ _ h => h) (by rfl) (by assumption) ?_
          try simp only [List.setIfInBounds_toArray, List.set_cons_zero, List.set_cons_succ]
          refine takeNo (i := 22) (d := 90) rfl rfl (by kernel_rfl) (by kernel_rfl) (by kernel_rfl) (fun _ _ _ h => h) (by rfl) (by assumption) ?_
          try simp only [List.setIfInBounds_toArray, List.set_cons_zero, List.set_cons_succ]
          refine takeNo (i := 23) (d := 91) rfl rfl (by kernel_rfl) (by kernel_rfl) (by kernel_rfl) (fun _ _ _ h => h) (by rfl) (by assumption) ?_
          try simp only [List.setIfInBounds_toArray, List.set_cons_zero, List.set_cons_succ]
          refine takeNo (i := 24) (d := 92) rfl rfl (by kernel_rfl) (by kernel_rfl) (by kernel_rfl) (fun _ _ _ h => h) (by rfl) (by assumption) ?_
          try simp only [List.setIfInBounds_toArray, List.set_cons_zero, List.set_cons_succ]
          refine takeNo (i := 25) (d := 93) rfl rfl (by kernel_rfl) (by kernel_rfl) (by kernel_rfl) (fun _ _ _ h => h) (by rfl) (by assumption) ?_
          try simp only [List.setIfInBounds_toArray, List.set_cons_zero, List.set_cons_succ]
          refine takeNo (i := 26) (d := 94) rfl rfl (by kernel_rfl) (by kernel_rfl) (by kernel_rfl) (fun _ _ _ h => h) (by rfl) (by assumption) ?_
          try simp only [List.setIfInBounds_toArray, List.set_cons_zero, List.set_cons_succ]
          refine takeNo (i := 27) (d := 95) rfl rfl (by kernel_rfl) (by kernel_rfl) (by kernel_rfl) (fun _ _ _ h => h) (by rfl) (by assumption) ?_
          try simp only [List.setIfInBounds_toArray, List.set_cons_zero, List.set_cons_succ]
          refine takeNo (i := 28) (d := 96) rfl rfl (by kernel_rfl) (by kernel_rfl) (by kernel_rfl) (fun _ _ _ h => h) (by rfl) (by assumption) ?_
          try simp only [List.setIfInBounds_toArray, List.set_cons_zero, List.set_cons_succ]
          refine takeNo (i := 29) (d := 97) rfl rfl (by kernel_rfl) (by kernel_rfl) (by kernel_rfl) (fun _ _ _ h => h) (by rfl) (by assumption) ?_
          try simp only [List.setIfInBounds_toArray, List.set_cons_zero, List.set_cons_succ]
          refine takeNo (i := 30) (d := 98) rfl rfl (by kernel_rfl) (by kernel_rfl) (by kernel_rfl) (fun _ _ _ h => h) (by rfl) (by assumption) ?_
          try simp only [List.setIfInBounds_toArray, List.set_cons_zero, List.set_cons_succ]
          refine takeNo (i := 31) (d := 99) rfl rfl (by kernel_rfl) (by kernel_rfl) (by kernel_rfl) (fun _ _ _ h => h) (by rfl) (by assumption) ?_
          try simp only [List.setIfInBounds_toArray, List.set_cons_zero, List.set_cons_succ]
          refine takeNo (i := 32) (d := 100) rfl rfl (by kernel_rfl) (by kernel_rfl) (by kernel_rfl) (fun _ _ _ h => h) (by rfl) (by assumption) ?_
          try simp only [List.setIfInBounds_toArray, List.set_cons_zero, List.set_cons_succ]
          refine takeNo (i := 33) (d := 101) rfl rfl (by kernel_rfl) (by kernel_rfl) (by kernel_rfl) (fun _ _ _ h => h) (by rfl) (by assumption) ?_
          try simp only [List.setIfInBounds_toArray, List.set_cons_zero, List.set_cons_succ]
          refine takeNo (i := 34) (d := 102) rfl rfl (by kernel_rfl) (by kernel_rfl) (by kernel_rfl) (fun _ _ _ h => h) (by rfl) (by assumption) ?_
          try simp only [List.setIfInBounds_toArray, List.set_cons_zero, List.set_cons_succ]
          refine takeNo (i := 35) (d := 103) rfl rfl (by kernel_rfl) (by kernel_rfl) (by kernel_rfl) (fun _ _ _ h => h) (by rfl) (by assumption) ?_
          try simp only [List.setIfInBounds_toArray, List.set_cons_zero, List.set_cons_succ]
          refine takeNo (i := 36) (d := 104) rfl rfl (by kernel_rfl) (by kernel_rfl) (by kernel_rfl) (fun _ _ _ h => h) (by rfl) (by assumption) ?_
          try simp only [List.setIfInBounds_toArray, List.set_cons_zero, List.set_cons_succ]
          refine takeYes (i := 37) (d := 105) (v := ?_) rfl rfl (by kernel_rfl) (by kernel_rfl) (by kernel_rfl) (fun _ _ _ h => h) (by rfl) (by assumption) ?_ ?_
          rotate_left
          · intro w' hSw; (try dsimp only at hSw); go_simp; try exact rfl
          try simp only [List.setIfInBounds_toArray, List.set_cons_zero, List.set_cons_succ]
          refine wpAnyH_done (by kernel_rfl) ?_ _
          go_wp2
          go_returns
          refine ⟨ret_bool ?_, by repeat (first | exact Below.refl _ _ | refine Below.drew ?_ | refine Below.alloc ?_ (by first | (simp; done) | (simp; omega) | omega) _ | refine Below.setCell ?_ (by first | (simp; done) | (simp; omega) | omega) _ | refine bstep (by assumption) (by first | (simp; done) | (simp; omega) | omega) ?_)⟩
          rw [HK.out]
          unfold okRels; rw [HE.out, HS.out, hf]; simp
        by_cases hpl : okBag y.W y.cs = true
        rotate_left
        · have hf : okBag y.W y.cs = false := by simpa using hpl
          clear ha wr' hL hx
          subst hq
          go_wp2_with fail
          refine wp_region_held_drew (S := (fun w' => w'.cell? ⟨w.heap.size, 4, none⟩ = some (.slice (some ⟨b, o, none⟩) x.rs.length cr) ∧ w'.cell? ⟨b, o + k * 3, none⟩ = some (.string y.s) ∧ w'.cell? ⟨b, o + k * 3 + 1, none⟩ = some (.int .i64 y.W) ∧ w'.cell? ⟨b, o + k * 3 + 2, none⟩ = some (.slice ur lr cq))) (by kernel_rfl) ?_ (fun hHeld => ?_)
          · (try dsimp only); refine ⟨?_, ?_, ?_, ?_⟩ <;> first | (go_simp; done) | (exact cell_later (by assumption) (by go_simp))
          refine takeYes (i := 0) (d := 68) (v := ?_) rfl rfl (by kernel_rfl) (by kernel_rfl) (by kernel_rfl) (fun _ _ _ h => h) (by rfl) (by assumption) ?_ ?_
          rotate_left
          · intro w' hSw; (try dsimp only at hSw); go_simp; try exact rfl
          try simp only [List.setIfInBounds_toArray, List.set_cons_zero, List.set_cons_succ]
          refine takeYes (i := 1) (d := 69) (v := ?_) rfl rfl (by kernel_rfl) (by kernel_rfl) (by kernel_rfl) (fun _ _ _ h => h) (by rfl) (by assumption) ?_ ?_
          rotate_left
          · intro w' hSw; (try dsimp only at hSw); go_simp; try exact rfl
          try simp only [List.setIfInBounds_toArray, List.set_cons_zero, List.set_cons_succ]
          refine takeYes (i := 2) (d := 70) (v := ?_) rfl rfl (by kernel_rfl) (by kernel_rfl) (by kernel_rfl) (fun _ _ _ h => h) (by rfl) (by assumption) ?_ ?_
          rotate_left
          · intro w' hSw; (try dsimp only at hSw); go_simp; try exact rfl
          try simp only [List.setIfInBounds_toArray, List.set_cons_zero, List.set_cons_succ]
          refine takeYes (i := 3) (d := 71) (v := ?_) rfl rfl (by kernel_rfl) (by kernel_rfl) (by kernel_rfl) (fun _ _ _ h => h) (by rfl) (by assumption) ?_ ?_
          rotate_left
          · intro w' hSw; (try dsimp only at hSw); go_simp; try exact rfl
          try simp only [List.setIfInBounds_toArray, List.set_cons_zero, List.set_cons_succ]
          refine takeYes (i := 4) (d := 72) (v := ?_) rfl rfl (by kernel_rfl) (by kernel_rfl) (by kernel_rfl) (fun _ _ _ h => h) (by rfl) (by assumption) ?_ ?_
          rotate_left
          · intro w' hSw; (try dsimp only at hSw); go_simp; try exact rfl
          try simp only [List.setIfInBounds_toArray, List.set_cons_zero, List.set_cons_succ]
          refine takeYes (i := 5) (d := 73) (v := ?_) rfl rfl (by kernel_rfl) (by kernel_rfl) (by kernel_rfl) (fun _ _ _ h => h) (by rfl) (by assumption) ?_ ?_
          rotate_left
          · intro w' hSw; (try dsimp only at hSw); go_simp; try exact rfl
          try simp only [List.setIfInBounds_toArray, List.set_cons_zero, List.set_cons_succ]
          refine wpAnyH_ready (rs := [6]) (by kernel_rfl) (by simp) ?_
          refine AllReadyH.cons rfl (fun K hK => ?_) AllReadyH.nil
          go_simp
          go_at_call 78
          refine (specName_any y.s _ hxs).mono ?_
          rintro e w1 ⟨rfl, rfl⟩
          try go_wp2_with fail
          refine hK.out _ _ ?_ (fun hHeld6 => ?_)
          · (try dsimp only); refine ⟨?_, ?_, ?_, ?_⟩ <;> first | (go_simp; done) | (exact cell_later (by assumption) (by go_simp))
          clear hK
          refine takeYes (i := 7) (d := 75) (v := ?_) rfl rfl (by kernel_rfl) (by kernel_rfl) (by kernel_rfl) (fun _ _ _ h => h) (by rfl) (by assumption) ?_ ?_
          rotate_left
          · intro w' hSw; (try dsimp only at hSw); go_simp; try exact rfl
          try simp only [List.setIfInBounds_toArray, List.set_cons_zero, List.set_cons_succ]
          refine takeYes (i := 8) (d := 76) (v := ?_) rfl rfl (by kernel_rfl) (by kernel_rfl) (by kernel_rfl) (fun _ _ _ h => h) (by rfl) (by assumption) ?_ ?_
          rotate_left
          · intro w' hSw; (try dsimp only at hSw); go_simp; try exact rfl
          try simp only [List.setIfInBounds_toArray, List.set_cons_zero, List.set_cons_succ]
          refine takeYes (i := 9) (d := 77) (v := ?_) rfl rfl (by kernel_rfl) (by kernel_rfl) (by kernel_rfl) (fun _ _ _ h => h) (by rfl) (by assumption) ?_ ?_
          rotate_left
          · intro w' hSw; (try dsimp only at hSw); go_simp; try exact rfl
          try simp only [List.setIfInBounds_toArray, List.set_cons_zero, List.set_cons_succ]
          refine takeYes (i := 10) (d := 78) (v := ?_) rfl rfl (by kernel_rfl) (by kernel_rfl) (by kernel_rfl) (fun _ _ _ h => h) (by rfl) (by assumption) ?_ ?_
          rotate_left
          · intro w' hSw; (try dsimp only at hSw); go_simp; try exact rfl
          try simp only [List.setIfInBounds_toArray, List.set_cons_zero, List.set_cons_succ]
          refine takeYes (i := 11) (d := 79) (v := ?_) rfl rfl (by kernel_rfl) (by kernel_rfl) (by kernel_rfl) (fun _ _ _ h => h) (by rfl) (by assumption) ?_ ?_
          rotate_left
          · intro w' hSw; (try dsimp only at hSw); go_simp; try exact rfl
          try simp only [List.setIfInBounds_toArray, List.set_cons_zero, List.set_cons_succ]
          refine takeYes (i := 12) (d := 80) (v := ?_) rfl rfl (by kernel_rfl) (by kernel_rfl) (by kernel_rfl) (fun _ _ _ h => h) (by rfl) (by assumption) ?_ ?_
          rotate_left
          · intro w' hSw; (try dsimp only at hSw); go_simp; try exact rfl
          try simp only [List.setIfInBounds_toArray, List.set_cons_zero, List.set_cons_succ]
          refine takeYes (i := 13) (d := 81) (v := ?_) rfl rfl (by kernel_rfl) (by kernel_rfl) (by kernel_rfl) (fun _ _ _ h => h) (by rfl) (by assumption) ?_ ?_
          rotate_left
          · intro w' hSw; (try dsimp only at hSw); go_simp; try exact rfl
          try simp only [List.setIfInBounds_toArray, List.set_cons_zero, List.set_cons_succ]
          refine takeYes (i := 14) (d := 82) (v := ?_) rfl rfl (by kernel_rfl) (by kernel_rfl) (by kernel_rfl) (fun _ _ _ h => h) (by rfl) (by assumption) ?_ ?_
          rotate_left
          · intro w' hSw; (try dsimp only at hSw); go_simp; try exact rfl
          try simp only [List.setIfInBounds_toArray, List.set_cons_zero, List.set_cons_succ]
          refine wpAnyH_ready (rs := [15]) (by kernel_rfl) (by simp) ?_
          refine AllReadyH.cons rfl (fun K hK => ?_) AllReadyH.nil
          go_simp
          go_at_call 64
          refine Calls.mono (specBagOk_any y.W (.slice ur lr cq) y.cs _ hxw (hRw.below (by repeat (first | exact Below.refl _ _ | refine Below.drew ?_ | refine Below.alloc ?_ (by first | (simp; done) | (simp; omega) | omega) _ | refine Below.setCell ?_ (by first | (simp; done) | (simp; omega) | omega) _ | refine bstep (by assumption) (by first | (simp; done) | (simp; omega) | omega) ?_)))) ?_
          rintro e w2 ⟨rfl, hb2⟩
          have hz2 := hb2.size
          (try simp at hz2)
          try go_wp2_with fail
          refine hK.out _ _ ?_ (fun hHeld15 => ?_)
          · (try dsimp only); refine ⟨?_, ?_, ?_, ?_⟩ <;> first | (go_simp; done) | (exact cell_later (by assumption) (by go_simp))
          clear hK
          refine takeYes (i := 16) (d := 84) (v := ?_) rfl rfl (by kernel_rfl) (by kernel_rfl) (by kernel_rfl) (fun _ _ _ h => h) (by rfl) (by assumption) ?_ ?_
          rotate_left
          · intro w' hSw; (try dsimp only at hSw); go_simp; try exact rfl
          try simp only [List.setIfInBounds_toArray, List.set_cons_zero, List.set_cons_succ]
          refine takeYes (i := 17) (d := 85) (v := ?_) rfl rfl (by kernel_rfl) (by kernel_rfl) (by kernel_rfl) (fun _ _ _ h => h) (by rfl) (by assumption) ?_ ?_
          rotate_left
          · intro w' hSw; (try dsimp only at hSw); go_simp; try exact rfl
          try simp only [List.setIfInBounds_toArray, List.set_cons_zero, List.set_cons_succ]
          refine takeYes (i := 18) (d := 86) (v := ?_) rfl rfl (by kernel_rfl) (by kernel_rfl) (by kernel_rfl) (fun _ _ _ h => h) (by rfl) (by assumption) ?_ ?_
          rotate_left
          · intro w' hSw; (try dsimp only at hSw); go_simp; try exact rfl
          try simp only [List.setIfInBounds_toArray, List.set_cons_zero, List.set_cons_succ]
          refine takeNo (i := 19) (d := 87) rfl rfl (by kernel_rfl) (by kernel_rfl) (by kernel_rfl) (fun _ _ _ h => h) (by rfl) (by assumption) ?_
          try simp only [List.setIfInBounds_toArray, List.set_cons_zero, List.set_cons_succ]
          refine takeNo (i := 20) (d := 88) rfl rfl (by kernel_rfl) (by kernel_rfl) (by kernel_rfl) (fun _ _ _ h => h) (by rfl) (by assumption) ?_
          try simp only [List.setIfInBounds_toArray, List.set_cons_zero, List.set_cons_succ]
          refine takeNo (i := 21) (d := 89) rfl rfl (by kernel_rfl) (by kernel_rfl) (by kernel_rfl) (fun _ _ _ h => h) (by rfl) (by assumption) ?_
          try simp only [List.setIfInBounds_toArray, List.set_cons_zero, List.set_cons_succ]
          refine takeNo (i := 22) (d := 90) rfl rfl (by kernel_rfl) (by kernel_rfl) (by kernel_rfl) (fun _ _ _ h => h) (by rfl) (by assumption) ?_
          try simp only [List.setIfInBounds_toArray, List.set_cons_zero, List.set_cons_succ]
          refine takeNo (i := 23) (d := 91) rfl rfl (by kernel_rfl) (by kernel_rfl) (by kernel_rfl) (fun _ _ _ h => h) (by rfl) (by assumption) ?_
          try simp only [List.setIfInBounds_toArray, List.set_cons_zero, List.set_cons_succ]
          refine takeNo (i := 24) (d := 92) rfl rfl (by kernel_rfl) (by kernel_rfl) (by kernel_rfl) (fun _ _ _ h => h) (by rfl) (by assumption) ?_
          try simp only [List.setIfInBounds_toArray, List.set_cons_zero, List.set_cons_succ]
          refine takeNo (i := 25) (d := 93) rfl rfl (by kernel_rfl) (by kernel_rfl) (by kernel_rfl) (fun _ _ _ h => h) (by rfl) (by assumption) ?_
          try simp only [List.setIfInBounds_toArray, List.set_cons_zero, List.set_cons_succ]
          refine takeNo (i := 26) (d := 94) rfl rfl (by kernel_rfl) (by kernel_rfl) (by kernel_rfl) (fun _ _ _ h => h) (by rfl) (by assumption) ?_
          try simp only [List.setIfInBounds_toArray, List.set_cons_zero, List.set_cons_succ]
          refine takeNo (i := 27) (d := 95) rfl rfl (by kernel_rfl) (by kernel_rfl) (by kernel_rfl) (fun _ _ _ h => h) (by rfl) (by assumption) ?_
          try simp only [List.setIfInBounds_toArray, List.set_cons_zero, List.set_cons_succ]
          refine takeNo (i := 28) (d := 96) rfl rfl (by kernel_rfl) (by kernel_rfl) (by kernel_rfl) (fun _ _ _ h => h) (by rfl) (by assumption) ?_
          try simp only [List.setIfInBounds_toArray, List.set_cons_zero, List.set_cons_succ]
          refine takeNo (i := 29) (d := 97) rfl rfl (by kernel_rfl) (by kernel_rfl) (by kernel_rfl) (fun _ _ _ h => h) (by rfl) (by assumption) ?_
          try simp only [List.setIfInBounds_toArray, List.set_cons_zero, List.set_cons_succ]
          refine takeNo (i := 30) (d := 98) rfl rfl (by kernel_rfl) (by kernel_rfl) (by kernel_rfl) (fun _ _ _ h => h) (by rfl) (by assumption) ?_
          try simp only [List.setIfInBounds_toArray, List.set_cons_zero, List.set_cons_succ]
          refine takeNo (i := 31) (d := 99) rfl rfl (by kernel_rfl) (by kernel_rfl) (by kernel_rfl) (fun _ _ _ h => h) (by rfl) (by assumption) ?_
          try simp only [List.setIfInBounds_toArray, List.set_cons_zero, List.set_cons_succ]
          refine takeNo (i := 32) (d := 100) rfl rfl (by kernel_rfl) (by kernel_rfl) (by kernel_rfl) (fun _ _ _ h => h) (by rfl) (by assumption) ?_
          try simp only [List.setIfInBounds_toArray, List.set_cons_zero, List.set_cons_succ]
          refine takeNo (i := 33) (d := 101) rfl rfl (by kernel_rfl) (by kernel_rfl) (by kernel_rfl) (fun _ _ _ h => h) (by rfl) (by assumption) ?_
          try simp only [List.setIfInBounds_toArray, List.set_cons_zero, List.set_cons_succ]
          refine takeNo (i := 34) (d := 102) rfl rfl (by kernel_rfl) (by kernel_rfl) (by kernel_rfl) (fun _ _ _ h => h) (by rfl) (by assumption) ?_
          try simp only [List.setIfInBounds_toArray, List.set_cons_zero, List.set_cons_succ]
          refine takeNo (i := 35) (d := 103) rfl rfl (by kernel_rfl) (by kernel_rfl) (by kernel_rfl) (fun _ _ _ h => h) (by rfl) (by assumption) ?_
          try simp only [List.setIfInBounds_toArray, List.set_cons_zero, List.set_cons_succ]
          refine takeNo (i := 36) (d := 104) rfl rfl (by kernel_rfl) (by kernel_rfl) (by kernel_rfl) (fun _ _ _ h => h) (by rfl) (by assumption) ?_
          try simp only [List.setIfInBounds_toArray, List.set_cons_zero, List.set_cons_succ]
          refine takeYes (i := 37) (d := 105) (v := ?_) rfl rfl (by kernel_rfl) (by kernel_rfl) (by kernel_rfl) (fun _ _ _ h => h) (by rfl) (by assumption) ?_ ?_
          rotate_left
          · intro w' hSw; (try dsimp only at hSw); go_simp; try exact rfl
          try simp only [List.setIfInBounds_toArray, List.set_cons_zero, List.set_cons_succ]
          refine wpAnyH_done (by kernel_rfl) ?_ _
          go_wp2
          go_returns
          refine ⟨ret_bool ?_, by repeat (first | exact Below.refl _ _ | refine Below.drew ?_ | refine Below.alloc ?_ (by first | (simp; done) | (simp; omega) | omega) _ | refine Below.setCell ?_ (by first | (simp; done) | (simp; omega) | omega) _ | refine bstep (by assumption) (by first | (simp; done) | (simp; omega) | omega) ?_)⟩
          rw [HK.out]
          unfold okRels; rw [HE.out, HS.out, hf]; simp
        rcases Nat.eq_zero_or_pos k with hk0 | hk0
        · subst hk0
          obtain rfl : q = 0 := by simpa using hq
          rw [Nat.zero_mul, Nat.add_zero] at c0 c1 c2
          clear ha wr' hL hx hq
          go_wp2_with fail
          refine wp_region_held_drew (S := (fun w' => w'.cell? ⟨w.heap.size, 4, none⟩ = some (.slice (some ⟨b, o, none⟩) x.rs.length cr) ∧ w'.cell? ⟨b, o, none⟩ = some (.string y.s) ∧ w'.cell? ⟨b, o + 1, none⟩ = some (.int .i64 y.W) ∧ w'.cell? ⟨b, o + 2, none⟩ = some (.slice ur lr cq))) (by kernel_rfl) ?_ (fun hHeld => ?_)
          · (try dsimp only); refine ⟨?_, ?_, ?_, ?_⟩ <;> first | (go_simp; done) | (exact cell_later (by assumption) (by go_simp))
          refine takeYes (i := 0) (d := 68) (v := ?_) rfl rfl (by kernel_rfl) (by kernel_rfl) (by kernel_rfl) (fun _ _ _ h => h) (by rfl) (by assumption) ?_ ?_
          rotate_left
          · intro w' hSw; (try dsimp only at hSw); go_simp; try exact rfl
          try simp only [List.setIfInBounds_toArray, List.set_cons_zero, List.set_cons_succ]
          refine takeYes (i := 1) (d := 69) (v := ?_) rfl rfl (by kernel_rfl) (by kernel_rfl) (by kernel_rfl) (fun _ _ _ h => h) (by rfl) (by assumption) ?_ ?_
          rotate_left
          · intro w' hSw; (try dsimp only at hSw); go_simp; try exact rfl
          try simp only [List.setIfInBounds_toArray, List.set_cons_zero, List.set_cons_succ]
          refine takeYes (i := 2) (d := 70) (v := ?_) rfl rfl (by kernel_rfl) (by kernel_rfl) (by kernel_rfl) (fun _ _ _ h => h) (by rfl) (by assumption) ?_ ?_
          rotate_left
          · intro w' hSw; (try dsimp only at hSw); go_simp; try exact rfl
          try simp only [List.setIfInBounds_toArray, List.set_cons_zero, List.set_cons_succ]
          refine takeYes (i := 3) (d := 71) (v := ?_) rfl rfl (by kernel_rfl) (by kernel_rfl) (by kernel_rfl) (fun _ _ _ h => h) (by rfl) (by assumption) ?_ ?_
          rotate_left
          · intro w' hSw; (try dsimp only at hSw); go_simp; try exact rfl
          try simp only [List.setIfInBounds_toArray, List.set_cons_zero, List.set_cons_succ]
          refine takeYes (i := 4) (d := 72) (v := ?_) rfl rfl (by kernel_rfl) (by kernel_rfl) (by kernel_rfl) (fun _ _ _ h => h) (by rfl) (by assumption) ?_ ?_
          rotate_left
          · intro w' hSw; (try dsimp only at hSw); go_simp; try exact rfl
          try simp only [List.setIfInBounds_toArray, List.set_cons_zero, List.set_cons_succ]
          refine takeYes (i := 5) (d := 73) (v := ?_) rfl rfl (by kernel_rfl) (by kernel_rfl) (by kernel_rfl) (fun _ _ _ h => h) (by rfl) (by assumption) ?_ ?_
          rotate_left
          · intro w' hSw; (try dsimp only at hSw); go_simp; try exact rfl
          try simp only [List.setIfInBounds_toArray, List.set_cons_zero, List.set_cons_succ]
          refine wpAnyH_ready (rs := [6]) (by kernel_rfl) (by simp) ?_
          refine AllReadyH.cons rfl (fun K hK => ?_) AllReadyH.nil
          go_simp
          go_at_call 78
          refine (specName_any y.s _ hxs).mono ?_
          rintro e w1 ⟨rfl, rfl⟩
          try go_wp2_with fail
          refine hK.out _ _ ?_ (fun hHeld6 => ?_)
          · (try dsimp only); refine ⟨?_, ?_, ?_, ?_⟩ <;> first | (go_simp; done) | (exact cell_later (by assumption) (by go_simp))
          clear hK
          refine takeYes (i := 7) (d := 75) (v := ?_) rfl rfl (by kernel_rfl) (by kernel_rfl) (by kernel_rfl) (fun _ _ _ h => h) (by rfl) (by assumption) ?_ ?_
          rotate_left
          · intro w' hSw; (try dsimp only at hSw); go_simp; try exact rfl
          try simp only [List.setIfInBounds_toArray, List.set_cons_zero, List.set_cons_succ]
          refine takeYes (i := 8) (d := 76) (v := ?_) rfl rfl (by kernel_rfl) (by kernel_rfl) (by kernel_rfl) (fun _ _ _ h => h) (by rfl) (by assumption) ?_ ?_
          rotate_left
          · intro w' hSw; (try dsimp only at hSw); go_simp; try exact rfl
          try simp only [List.setIfInBounds_toArray, List.set_cons_zero, List.set_cons_succ]
          refine takeYes (i := 9) (d := 77) (v := ?_) rfl rfl (by kernel_rfl) (by kernel_rfl) (by kernel_rfl) (fun _ _ _ h => h) (by rfl) (by assumption) ?_ ?_
          rotate_left
          · intro w' hSw; (try dsimp only at hSw); go_simp; try exact rfl
          try simp only [List.setIfInBounds_toArray, List.set_cons_zero, List.set_cons_succ]
          refine takeYes (i := 10) (d := 78) (v := ?_) rfl rfl (by kernel_rfl) (by kernel_rfl) (by kernel_rfl) (fun _ _ _ h => h) (by rfl) (by assumption) ?_ ?_
          rotate_left
          · intro w' hSw; (try dsimp only at hSw); go_simp; try exact rfl
          try simp only [List.setIfInBounds_toArray, List.set_cons_zero, List.set_cons_succ]
          refine takeYes (i := 11) (d := 79) (v := ?_) rfl rfl (by kernel_rfl) (by kernel_rfl) (by kernel_rfl) (fun _ _ _ h => h) (by rfl) (by assumption) ?_ ?_
          rotate_left
          · intro w' hSw; (try dsimp only at hSw); go_simp; try exact rfl
          try simp only [List.setIfInBounds_toArray, List.set_cons_zero, List.set_cons_succ]
          refine takeYes (i := 12) (d := 80) (v := ?_) rfl rfl (by kernel_rfl) (by kernel_rfl) (by kernel_rfl) (fun _ _ _ h => h) (by rfl) (by assumption) ?_ ?_
          rotate_left
          · intro w' hSw; (try dsimp only at hSw); go_simp; try exact rfl
          try simp only [List.setIfInBounds_toArray, List.set_cons_zero, List.set_cons_succ]
          refine takeYes (i := 13) (d := 81) (v := ?_) rfl rfl (by kernel_rfl) (by kernel_rfl) (by kernel_rfl) (fun _ _ _ h => h) (by rfl) (by assumption) ?_ ?_
          rotate_left
          · intro w' hSw; (try dsimp only at hSw); go_simp; try exact rfl
          try simp only [List.setIfInBounds_toArray, List.set_cons_zero, List.set_cons_succ]
          refine takeYes (i := 14) (d := 82) (v := ?_) rfl rfl (by kernel_rfl) (by kernel_rfl) (by kernel_rfl) (fun _ _ _ h => h) (by rfl) (by assumption) ?_ ?_
          rotate_left
          · intro w' hSw; (try dsimp only at hSw); go_simp; try exact rfl
          try simp only [List.setIfInBounds_toArray, List.set_cons_zero, List.set_cons_succ]
          refine wpAnyH_ready (rs := [15]) (by kernel_rfl) (by simp) ?_
          refine AllReadyH.cons rfl (fun K hK => ?_) AllReadyH.nil
          go_simp
          go_at_call 64
          refine Calls.mono (specBagOk_any y.W (.slice ur lr cq) y.cs _ hxw (hRw.below (by repeat (first | exact Below.refl _ _ | refine Below.drew ?_ | refine Below.alloc ?_ (by first | (simp; done) | (simp; omega) | omega) _ | refine Below.setCell ?_ (by first | (simp; done) | (simp; omega) | omega) _ | refine bstep (by assumption) (by first | (simp; done) | (simp; omega) | omega) ?_)))) ?_
          rintro e w2 ⟨rfl, hb2⟩
          have hz2 := hb2.size
          (try simp at hz2)
          try go_wp2_with fail
          refine hK.out _ _ ?_ (fun hHeld15 => ?_)
          · (try dsimp only); refine ⟨?_, ?_, ?_, ?_⟩ <;> first | (go_simp; done) | (exact cell_later (by assumption) (by go_simp))
          clear hK
          refine takeYes (i := 16) (d := 84) (v := ?_) rfl rfl (by kernel_rfl) (by kernel_rfl) (by kernel_rfl) (fun _ _ _ h => h) (by rfl) (by assumption) ?_ ?_
          rotate_left
          · intro w' hSw; (try dsimp only at hSw); go_simp; try exact rfl
          try simp only [List.setIfInBounds_toArray, List.set_cons_zero, List.set_cons_succ]
          refine takeYes (i := 17) (d := 85) (v := ?_) rfl rfl (by kernel_rfl) (by kernel_rfl) (by kernel_rfl) (fun _ _ _ h => h) (by rfl) (by assumption) ?_ ?_
          rotate_left
          · intro w' hSw; (try dsimp only at hSw); go_simp; try exact rfl
          try simp only [List.setIfInBounds_toArray, List.set_cons_zero, List.set_cons_succ]
          refine takeYes (i := 18) (d := 86) (v := ?_) rfl rfl (by kernel_rfl) (by kernel_rfl) (by kernel_rfl) (fun _ _ _ h => h) (by rfl) (by assumption) ?_ ?_
          rotate_left
          · intro w' hSw; (try dsimp only at hSw); go_simp; try exact rfl
          try simp only [List.setIfInBounds_toArray, List.set_cons_zero, List.set_cons_succ]
          refine takeYes (i := 19) (d := 87) (v := ?_) rfl rfl (by kernel_rfl) (by kernel_rfl) (by kernel_rfl) (fun _ _ _ h => h) (by rfl) (by assumption) ?_ ?_
          rotate_left
          · intro w' hSw; (try dsimp only at hSw); go_simp; try exact rfl
          try simp only [List.setIfInBounds_toArray, List.set_cons_zero, List.set_cons_succ]
          refine takeYes (i := 20) (d := 88) (v := ?_) rfl rfl (by kernel_rfl) (by kernel_rfl) (by kernel_rfl) (fun _ _ _ h => h) (by rfl) (by assumption) ?_ ?_
          rotate_left
          · intro w' hSw; (try dsimp only at hSw); go_simp; try exact rfl
          try simp only [List.setIfInBounds_toArray, List.set_cons_zero, List.set_cons_succ]
          refine takeYes (i := 21) (d := 89) (v := ?_) rfl rfl (by kernel_rfl) (by kernel_rfl) (by kernel_rfl) (fun _ _ _ h => h) (by rfl) (by assumption) ?_ ?_
          rotate_left
          · intro w' hSw; (try dsimp only at hSw); go_simp; try exact rfl
          try simp only [List.setIfInBounds_toArray, List.set_cons_zero, List.set_cons_succ]
          refine takeNo (i := 22) (d := 90) rfl rfl (by kernel_rfl) (by kernel_rfl) (by kernel_rfl) (fun _ _ _ h => h) (by rfl) (by assumption) ?_
          try simp only [List.setIfInBounds_toArray, List.set_cons_zero, List.set_cons_succ]
          refine takeNo (i := 23) (d := 91) rfl rfl (by kernel_rfl) (by kernel_rfl) (by kernel_rfl) (fun _ _ _ h => h) (by rfl) (by assumption) ?_
          try simp only [List.setIfInBounds_toArray, List.set_cons_zero, List.set_cons_succ]
          refine takeNo (i := 24) (d := 92) rfl rfl (by kernel_rfl) (by kernel_rfl) (by kernel_rfl) (fun _ _ _ h => h) (by rfl) (by assumption) ?_
          try simp only [List.setIfInBounds_toArray, List.set_cons_zero, List.set_cons_succ]
          refine takeNo (i := 25) (d := 93) rfl rfl (by kernel_rfl) (by kernel_rfl) (by kernel_rfl) (fun _ _ _ h => h) (by rfl) (by assumption) ?_
          try simp only [List.setIfInBounds_toArray, List.set_cons_zero, List.set_cons_succ]
          refine takeNo (i := 26) (d := 94) rfl rfl (by kernel_rfl) (by kernel_rfl) (by kernel_rfl) (fun _ _ _ h => h) (by rfl) (by assumption) ?_
          try simp only [List.setIfInBounds_toArray, List.set_cons_zero, List.set_cons_succ]
          refine takeNo (i := 27) (d := 95) rfl rfl (by kernel_rfl) (by kernel_rfl) (by kernel_rfl) (fun _ _ _ h => h) (by rfl) (by assumption) ?_
          try simp only [List.setIfInBounds_toArray, List.set_cons_zero, List.set_cons_succ]
          refine takeNo (i := 28) (d := 96) rfl rfl (by kernel_rfl) (by kernel_rfl) (by kernel_rfl) (fun _ _ _ h => h) (by rfl) (by assumption) ?_
          try simp only [List.setIfInBounds_toArray, List.set_cons_zero, List.set_cons_succ]
          refine takeNo (i := 29) (d := 97) rfl rfl (by kernel_rfl) (by kernel_rfl) (by kernel_rfl) (fun _ _ _ h => h) (by rfl) (by assumption) ?_
          try simp only [List.setIfInBounds_toArray, List.set_cons_zero, List.set_cons_succ]
          refine takeNo (i := 30) (d := 98) rfl rfl (by kernel_rfl) (by kernel_rfl) (by kernel_rfl) (fun _ _ _ h => h) (by rfl) (by assumption) ?_
          try simp only [List.setIfInBounds_toArray, List.set_cons_zero, List.set_cons_succ]
          refine takeNo (i := 31) (d := 99) rfl rfl (by kernel_rfl) (by kernel_rfl) (by kernel_rfl) (fun _ _ _ h => h) (by rfl) (by assumption) ?_
          try simp only [List.setIfInBounds_toArray, List.set_cons_zero, List.set_cons_succ]
          refine takeNo (i := 32) (d := 100) rfl rfl (by kernel_rfl) (by kernel_rfl) (by kernel_rfl) (fun _ _ _ h => h) (by rfl) (by assumption) ?_
          try simp only [List.setIfInBounds_toArray, List.set_cons_zero, List.set_cons_succ]
          refine takeNo (i := 33) (d := 101) rfl rfl (by kernel_rfl) (by kernel_rfl) (by kernel_rfl) (fun _ _ _ h => h) (by rfl) (by assumption) ?_
          try simp only [List.setIfInBounds_toArray, List.set_cons_zero, List.set_cons_succ]
          refine takeNo (i := 34) (d := 102) rfl rfl (by kernel_rfl) (by kernel_rfl) (by kernel_rfl) (fun _ _ _ h => h) (by rfl) (by assumption) ?_
          try simp only [List.setIfInBounds_toArray, List.set_cons_zero, List.set_cons_succ]
          refine takeNo (i := 35) (d := 103) rfl rfl (by kernel_rfl) (by kernel_rfl) (by kernel_rfl) (fun _ _ _ h => h) (by rfl) (by assumption) ?_
          try simp only [List.setIfInBounds_toArray, List.set_cons_zero, List.set_cons_succ]
          refine takeYes (i := 36) (d := 104) (v := ?_) rfl rfl (by kernel_rfl) (by kernel_rfl) (by kernel_rfl) (fun _ _ _ h => h) (by rfl) (by assumption) ?_ ?_
          rotate_left
          · intro w' hSw; (try dsimp only at hSw); go_simp; try exact rfl
          try simp only [List.setIfInBounds_toArray, List.set_cons_zero, List.set_cons_succ]
          refine takeYes (i := 37) (d := 105) (v := ?_) rfl rfl (by kernel_rfl) (by kernel_rfl) (by kernel_rfl) (fun _ _ _ h => h) (by rfl) (by assumption) ?_ ?_
          rotate_left
          · intro w' hSw; (try dsimp only at hSw); go_simp; try exact rfl
          try simp only [List.setIfInBounds_toArray, List.set_cons_zero, List.set_cons_succ]
          refine wpAnyH_done (by kernel_rfl) ?_ _
          go_wp2
          go_roundw
          case rel =>
            refine ⟨1, 1, hlt, rfl, by simp, by repeat (first | exact Below.refl _ _ | refine Below.drew ?_ | refine Below.alloc ?_ (by first | (simp; done) | (simp; omega) | omega) _ | refine Below.setCell ?_ (by first | (simp; done) | (simp; omega) | omega) _ | refine bstep (by assumption) (by first | (simp; done) | (simp; omega) | omega) ?_), ?_, ?_, ?_, ?_, ?_⟩
            · first | (simp; done) | (simp; omega) | omega
            · first | (go_simp; done) | (exact cell_later (by assumption) (by go_simp))
            · first | (go_simp; done) | (exact cell_later (by assumption) (by go_simp))
            · first | (go_simp; done) | (exact cell_later (by assumption) (by go_simp))
            · rw [HE.out, HS.out, hnm, hpl, prevT_zero]
              simp [okPrevT]
          case measure => simp [intOf]; omega
        · obtain ⟨j, rfl⟩ : ∃ j, k = j + 1 := ⟨k - 1, by omega⟩
          obtain rfl : q = (j : Int) + 1 := by omega
          obtain ⟨z, t, hy, d0, d1, d2', hT, _⟩ := hL.at hblt hb (show j < x.rs.length by omega)
          have HP : Hid (prevT x.rs (j + 1) = some z) := prevT_succ hy
          have HQ : Hid (okPrevT (prevT x.rs (j + 1)) y = Op.bytesLess z.s.toList y.s.toList) := by rw [HP.out]; rfl
          have hw1 : IntKind.i64.wrap (j : Int) = j := by rw [IntKind.wrap_i64]; omega
          have hw2 : IntKind.i64.wrap ((j : Int) + 1 - 1) = j := by rw [IntKind.wrap_i64]; omega
          have hi0 : (0 : Int) ≤ j := by omega
          have hi1 : (j : Int) < x.rs.length := by omega
          have hi2 : (0 : Int) < (j : Int) + 1 := by omega
          clear ha wr' hL hx hy hq d1 d2' hT
          go_wp2_with fail
          refine wp_region_held_drew (S := (fun w' => w'.cell? ⟨w.heap.size, 4, none⟩ = some (.slice (some ⟨b, o, none⟩) x.rs.length cr) ∧ w'.cell? ⟨b, o + (j + 1) * 3, none⟩ = some (.string y.s) ∧ w'.cell? ⟨b, o + (j + 1) * 3 + 1, none⟩ = some (.int .i64 y.W) ∧ w'.cell? ⟨b, o + (j + 1) * 3 + 2, none⟩ = some (.slice ur lr cq) ∧ w'.cell? ⟨b, o + j * 3, none⟩ = some (.string z.s))) (by kernel_rfl) ?_ (fun hHeld => ?_)
          · (try dsimp only); refine ⟨?_, ?_, ?_, ?_, ?_⟩ <;> first | (go_simp; done) | (exact cell_later (by assumption) (by go_simp))
          refine takeYes (i := 0) (d := 68) (v := ?_) rfl rfl (by kernel_rfl) (by kernel_rfl) (by kernel_rfl) (fun _ _ _ h => h) (by rfl) (by assumption) ?_ ?_
          rotate_left
          · intro w' hSw; (try dsimp only at hSw); go_simp; try exact rfl
          try simp only [List.setIfInBounds_toArray, List.set_cons_zero, List.set_cons_succ]
          refine takeYes (i := 1) (d := 69) (v := ?_) rfl rfl (by kernel_rfl) (by kernel_rfl) (by kernel_rfl) (fun _ _ _ h => h) (by rfl) (by assumption) ?_ ?_
          rotate_left
          · intro w' hSw; (try dsimp only at hSw); go_simp; try exact rfl
          try simp only [List.setIfInBounds_toArray, List.set_cons_zero, List.set_cons_succ]
          refine takeYes (i := 2) (d := 70) (v := ?_) rfl rfl (by kernel_rfl) (by kernel_rfl) (by kernel_rfl) (fun _ _ _ h => h) (by rfl) (by assumption) ?_ ?_
          rotate_left
          · intro w' hSw; (try dsimp only at hSw); go_simp; try exact rfl
          try simp only [List.setIfInBounds_toArray, List.set_cons_zero, List.set_cons_succ]
          refine takeYes (i := 3) (d := 71) (v := ?_) rfl rfl (by kernel_rfl) (by kernel_rfl) (by kernel_rfl) (fun _ _ _ h => h) (by rfl) (by assumption) ?_ ?_
          rotate_left
          · intro w' hSw; (try dsimp only at hSw); go_simp; try exact rfl
          try simp only [List.setIfInBounds_toArray, List.set_cons_zero, List.set_cons_succ]
          refine takeYes (i := 4) (d := 72) (v := ?_) rfl rfl (by kernel_rfl) (by kernel_rfl) (by kernel_rfl) (fun _ _ _ h => h) (by rfl) (by assumption) ?_ ?_
          rotate_left
          · intro w' hSw; (try dsimp only at hSw); go_simp; try exact rfl
          try simp only [List.setIfInBounds_toArray, List.set_cons_zero, List.set_cons_succ]
          refine takeYes (i := 5) (d := 73) (v := ?_) rfl rfl (by kernel_rfl) (by kernel_rfl) (by kernel_rfl) (fun _ _ _ h => h) (by rfl) (by assumption) ?_ ?_
          rotate_left
          · intro w' hSw; (try dsimp only at hSw); go_simp; try exact rfl
          try simp only [List.setIfInBounds_toArray, List.set_cons_zero, List.set_cons_succ]
          refine wpAnyH_ready (rs := [6]) (by kernel_rfl) (by simp) ?_
          refine AllReadyH.cons rfl (fun K hK => ?_) AllReadyH.nil
          go_simp
          go_at_call 78
          refine (specName_any y.s _ hxs).mono ?_
          rintro e w1 ⟨rfl, rfl⟩
          try go_wp2_with fail
          refine hK.out _ _ ?_ (fun hHeld6 => ?_)
          · (try dsimp only); refine ⟨?_, ?_, ?_, ?_, ?_⟩ <;> first | (go_simp; done) | (exact cell_later (by assumption) (by go_simp))
          clear hK
          refine takeYes (i := 7) (d := 75) (v := ?_) rfl rfl (by kernel_rfl) (by kernel_rfl) (by kernel_rfl) (fun _ _ _ h => h) (by rfl) (by assumption) ?_ ?_
          rotate_left
          · intro w' hSw; (try dsimp only at hSw); go_simp; try exact rfl
          try simp only [List.setIfInBounds_toArray, List.set_cons_zero, List.set_cons_succ]
          refine takeYes (i := 8) (d := 76) (v := ?_) rfl rfl (by kernel_rfl) (by kernel_rfl) (by kernel_rfl) (fun _ _ _ h => h) (by rfl) (by assumption) ?_ ?_
          rotate_left
          · intro w' hSw; (try dsimp only at hSw); go_simp; try exact rfl
          try simp only [List.setIfInBounds_toArray, List.set_cons_zero, List.set_cons_succ]
          refine takeYes (i := 9) (d := 77) (v := ?_) rfl rfl (by kernel_rfl) (by kernel_rfl) (by kernel_rfl) (fun _ _ _ h => h) (by rfl) (by assumption) ?_ ?_
          rotate_left
          · intro w' hSw; (try dsimp only at hSw); go_simp; try exact rfl
          try simp only [List.setIfInBounds_toArray, List.set_cons_zero, List.set_cons_succ]
          refine takeYes (i := 10) (d := 78) (v := ?_) rfl rfl (by kernel_rfl) (by kernel_rfl) (by kernel_rfl) (fun _ _ _ h => h) (by rfl) (by assumption) ?_ ?_
          rotate_left
          · intro w' hSw; (try dsimp only at hSw); go_simp; try exact rfl
          try simp only [List.setIfInBounds_toArray, List.set_cons_zero, List.set_cons_succ]
          refine takeYes (i := 11) (d := 79) (v := ?_) rfl rfl (by kernel_rfl) (by kernel_rfl) (by kernel_rfl) (fun _ _ _ h => h) (by rfl) (by assumption) ?_ ?_
          rotate_left
          · intro w' hSw; (try dsimp only at hSw); go_simp; try exact rfl
          try simp only [List.setIfInBounds_toArray, List.set_cons_zero, List.set_cons_succ]
          refine takeYes (i := 12) (d := 80) (v := ?_) rfl rfl (by kernel_rfl) (by kernel_rfl) (by kernel_rfl) (fun _ _ _ h => h) (by rfl) (by assumption) ?_ ?_
          rotate_left
          · intro w' hSw; (try dsimp only at hSw); go_simp; try exact rfl
          try simp only [List.setIfInBounds_toArray, List.set_cons_zero, List.set_cons_succ]
          refine takeYes (i := 13) (d := 81) (v := ?_) rfl rfl (by kernel_rfl) (by kernel_rfl) (by kernel_rfl) (fun _ _ _ h => h) (by rfl) (by assumption) ?_ ?_
          rotate_left
          · intro w' hSw; (try dsimp only at hSw); go_simp; try exact rfl
          try simp only [List.setIfInBounds_toArray, List.set_cons_zero, List.set_cons_succ]
          refine takeYes (i := 14) (d := 82) (v := ?_) rfl rfl (by kernel_rfl) (by kernel_rfl) (by kernel_rfl) (fun _ _ _ h => h) (by rfl) (by assumption) ?_ ?_
          rotate_left
          · intro w' hSw; (try dsimp only at hSw); go_simp; try exact rfl
          try simp only [List.setIfInBounds_toArray, List.set_cons_zero, List.set_cons_succ]
          refine wpAnyH_ready (rs := [15]) (by kernel_rfl) (by simp) ?_
          refine AllReadyH.cons rfl (fun K hK => ?_) AllReadyH.nil
          go_simp
          go_at_call 64
          refine Calls.mono (specBagOk_any y.W (.slice ur lr cq) y.cs _ hxw (hRw.below (by repeat (first | exact Below.refl _ _ | refine Below.drew ?_ | refine Below.alloc ?_ (by first | (simp; done) | (simp; omega) | omega) _ | refine Below.setCell ?_ (by first | (simp; done) | (simp; omega) | omega) _ | refine bstep (by assumption) (by first | (simp; done) | (simp; omega) | omega) ?_)))) ?_
          rintro e w2 ⟨rfl, hb2⟩
          have hz2 := hb2.size
          (try simp at hz2)
          try go_wp2_with fail
          refine hK.out _ _ ?_ (fun hHeld15 => ?_)
          · (try dsimp only); refine ⟨?_, ?_, ?_, ?_, ?_⟩ <;> first | (go_simp; done) | (exact cell_later (by assumption) (by go_simp))
          clear hK
          refine takeYes (i := 16) (d := 84) (v := ?_) rfl rfl (by kernel_rfl) (by kernel_rfl) (by kernel_rfl) (fun _ _ _ h => h) (by rfl) (by assumption) ?_ ?_
          rotate_left
          · intro w' hSw; (try dsimp only at hSw); go_simp; try exact rfl
          try simp only [List.setIfInBounds_toArray, List.set_cons_zero, List.set_cons_succ]
          refine takeYes (i := 17) (d := 85) (v := ?_) rfl rfl (by kernel_rfl) (by kernel_rfl) (by kernel_rfl) (fun _ _ _ h => h) (by rfl) (by assumption) ?_ ?_
          rotate_left
          · intro w' hSw; (try dsimp only at hSw); go_simp; try exact rfl
          try simp only [List.setIfInBounds_toArray, List.set_cons_zero, List.set_cons_succ]
          refine takeYes (i := 18) (d := 86) (v := ?_) rfl rfl (by kernel_rfl) (by kernel_rfl) (by kernel_rfl) (fun _ _ _ h => h) (by rfl) (by assumption) ?_ ?_
          rotate_left
          · intro w' hSw; (try dsimp only at hSw); go_simp; try exact rfl
          try simp only [List.setIfInBounds_toArray, List.set_cons_zero, List.set_cons_succ]
          refine takeYes (i := 19) (d := 87) (v := ?_) rfl rfl (by kernel_rfl) (by kernel_rfl) (by kernel_rfl) (fun _ _ _ h => h) (by rfl) (by assumption) ?_ ?_
          rotate_left
          · intro w' hSw; (try dsimp only at hSw); go_simp; try exact rfl
          try simp only [List.setIfInBounds_toArray, List.set_cons_zero, List.set_cons_succ]
          refine takeYes (i := 20) (d := 88) (v := ?_) rfl rfl (by kernel_rfl) (by kernel_rfl) (by kernel_rfl) (fun _ _ _ h => h) (by rfl) (by assumption) ?_ ?_
          rotate_left
          · intro w' hSw; (try dsimp only at hSw); go_simp; try exact rfl
          try simp only [List.setIfInBounds_toArray, List.set_cons_zero, List.set_cons_succ]
          refine takeYes (i := 21) (d := 89) (v := ?_) rfl rfl (by kernel_rfl) (by kernel_rfl) (by kernel_rfl) (fun _ _ _ h => h) (by rfl) (by assumption) ?_ ?_
          rotate_left
          · intro w' hSw; (try dsimp only at hSw); go_simp; try exact rfl
          try simp only [List.setIfInBounds_toArray, List.set_cons_zero, List.set_cons_succ]
          refine takeYes (i := 22) (d := 90) (v := ?_) rfl rfl (by kernel_rfl) (by kernel_rfl) (by kernel_rfl) (fun _ _ _ h => h) (by rfl) (by assumption) ?_ ?_
          rotate_left
          · intro w' hSw; (try dsimp only at hSw); go_simp; try exact rfl
          try simp only [List.setIfInBounds_toArray, List.set_cons_zero, List.set_cons_succ]
          refine takeYes (i := 23) (d := 91) (v := ?_) rfl rfl (by kernel_rfl) (by kernel_rfl) (by kernel_rfl) (fun _ _ _ h => h) (by rfl) (by assumption) ?_ ?_
          rotate_left
          · intro w' hSw; (try dsimp only at hSw); go_simp; try exact rfl
          try simp only [List.setIfInBounds_toArray, List.set_cons_zero, List.set_cons_succ]
          refine takeYes (i := 24) (d := 92) (v := ?_) rfl rfl (by kernel_rfl) (by kernel_rfl) (by kernel_rfl) (fun _ _ _ h => h) (by rfl) (by assumption) ?_ ?_
          rotate_left
          · intro w' hSw; (try dsimp only at hSw); go_simp; try exact rfl
          try simp only [List.setIfInBounds_toArray, List.set_cons_zero, List.set_cons_succ]
          refine takeYes (i := 25) (d := 93) (v := ?_) rfl rfl (by kernel_rfl) (by kernel_rfl) (by kernel_rfl) (fun _ _ _ h => h) (by rfl) (by assumption) ?_ ?_
          rotate_left
          · intro w' hSw; (try dsimp only at hSw); go_simp; try exact rfl
          try simp only [List.setIfInBounds_toArray, List.set_cons_zero, List.set_cons_succ]
          refine takeYes (i := 26) (d := 94) (v := ?_) rfl rfl (by kernel_rfl) (by kernel_rfl) (by kernel_rfl) (fun _ _ _ h => h) (by rfl) (by assumption) ?_ ?_
          rotate_left
          · intro w' hSw; (try dsimp only at hSw); go_simp; try exact rfl
          try simp only [List.setIfInBounds_toArray, List.set_cons_zero, List.set_cons_succ]
          refine takeYes (i := 27) (d := 95) (v := ?_) rfl rfl (by kernel_rfl) (by kernel_rfl) (by kernel_rfl) (fun _ _ _ h => h) (by rfl) (by assumption) ?_ ?_
          rotate_left
          · intro w' hSw; (try dsimp only at hSw); go_simp; try exact rfl
          try simp only [List.setIfInBounds_toArray, List.set_cons_zero, List.set_cons_succ]
          refine takeYes (i := 28) (d := 96) (v := ?_) rfl rfl (by kernel_rfl) (by kernel_rfl) (by kernel_rfl) (fun _ _ _ h => h) (by rfl) (by assumption) ?_ ?_
          rotate_left
          · intro w' hSw; (try dsimp only at hSw); go_simp; try exact rfl
          try simp only [List.setIfInBounds_toArray, List.set_cons_zero, List.set_cons_succ]
          refine takeYes (i := 29) (d := 97) (v := ?_) rfl rfl (by kernel_rfl) (by kernel_rfl) (by kernel_rfl) (fun _ _ _ h => h) (by rfl) (by assumption) ?_ ?_
          rotate_left
          · intro w' hSw; (try dsimp only at hSw); go_simp; try exact rfl
          try simp only [List.setIfInBounds_toArray, List.set_cons_zero, List.set_cons_succ]
          refine takeYes (i := 30) (d := 98) (v := ?_) rfl rfl (by kernel_rfl) (by kernel_rfl) (by kernel_rfl) (fun _ _ _ h => h) (by rfl) (by assumption) ?_ ?_
          rotate_left
          · intro w' hSw; (try dsimp only at hSw); go_simp; try exact rfl
          try simp only [List.setIfInBounds_toArray, List.set_cons_zero, List.set_cons_succ]
          refine takeYes (i := 31) (d := 99) (v := ?_) rfl rfl (by kernel_rfl) (by kernel_rfl) (by kernel_rfl) (fun _ _ _ h => h) (by rfl) (by assumption) ?_ ?_
          rotate_left
          · intro w' hSw; (try dsimp only at hSw); go_simp; try exact rfl
          try simp only [List.setIfInBounds_toArray, List.set_cons_zero, List.set_cons_succ]
          refine takeYes (i := 32) (d := 100) (v := ?_) rfl rfl (by kernel_rfl) (by kernel_rfl) (by kernel_rfl) (fun _ _ _ h => h) (by rfl) (by assumption) ?_ ?_
          rotate_left
          · intro w' hSw; (try dsimp only at hSw); go_simp; try exact rfl
          try simp only [List.setIfInBounds_toArray, List.set_cons_zero, List.set_cons_succ]
          refine takeYes (i := 33) (d := 101) (v := ?_) rfl rfl (by kernel_rfl) (by kernel_rfl) (by kernel_rfl) (fun _ _ _ h => h) (by rfl) (by assumption) ?_ ?_
          rotate_left
          · intro w' hSw; (try dsimp only at hSw); go_simp; try exact rfl
          try simp only [List.setIfInBounds_toArray, List.set_cons_zero, List.set_cons_succ]
          refine takeYes (i := 34) (d := 102) (v := ?_) rfl rfl (by kernel_rfl) (by kernel_rfl) (by kernel_rfl) (fun _ _ _ h => h) (by rfl) (by assumption) ?_ ?_
          rotate_left
          · intro w' hSw; (try dsimp only at hSw); go_simp; try exact rfl
          try simp only [List.setIfInBounds_toArray, List.set_cons_zero, List.set_cons_succ]
          refine takeYes (i := 35) (d := 103) (v := ?_) rfl rfl (by kernel_rfl) (by kernel_rfl) (by kernel_rfl) (fun _ _ _ h => h) (by rfl) (by assumption) ?_ ?_
          rotate_left
          · intro w' hSw; (try dsimp only at hSw); go_simp; try exact rfl
          try simp only [List.setIfInBounds_toArray, List.set_cons_zero, List.set_cons_succ]
          refine takeYes (i := 36) (d := 104) (v := ?_) rfl rfl (by kernel_rfl) (by kernel_rfl) (by kernel_rfl) (fun _ _ _ h => h) (by rfl) (by assumption) ?_ ?_
          rotate_left
          · intro w' hSw; (try dsimp only at hSw); go_simp; try exact rfl
          try simp only [List.setIfInBounds_toArray, List.set_cons_zero, List.set_cons_succ]
          refine takeYes (i := 37) (d := 105) (v := ?_) rfl rfl (by kernel_rfl) (by kernel_rfl) (by kernel_rfl) (fun _ _ _ h => h) (by rfl) (by assumption) ?_ ?_
          rotate_left
          · intro w' hSw; (try dsimp only at hSw); go_simp; try exact rfl
          try simp only [List.setIfInBounds_toArray, List.set_cons_zero, List.set_cons_succ]
          refine wpAnyH_done (by kernel_rfl) ?_ _
          go_wp2
          · have hcf : Op.bytesLess z.s.toList y.s.toList = false := by
              have h9 : Op.bytesLess y.s.toList z.s.toList = true ∨ (y.s.toList == z.s.toList) = true := by assumption
              rcases h9 with h9 | h9
              · exact bless_asymm h9
              · rw [beq_iff_eq] at h9; rw [h9]; exact bless_irrefl _
            go_returns
            refine ⟨ret_bool ?_, by repeat (first | exact Below.refl _ _ | refine Below.drew ?_ | refine Below.alloc ?_ (by first | (simp; done) | (simp; omega) | omega) _ | refine Below.setCell ?_ (by first | (simp; done) | (simp; omega) | omega) _ | refine bstep (by assumption) (by first | (simp; done) | (simp; omega) | omega) ?_)⟩
            rw [HK.out]
            unfold okRels; rw [HE.out, HS.out, HQ.out, hcf]; simp
          · have hcmp : Op.bytesLess z.s.toList y.s.toList = true := by
              have h9 : Op.bytesLess y.s.toList z.s.toList = false ∧ (y.s.toList == z.s.toList) = false := by assumption
              exact bless_total h9.1 (by simpa using h9.2)
            refine ⟨⟨j + 1 + 1, (j : Int) + 1 + 1, hlt, by omega, rfl, by repeat (first | exact Below.refl _ _ | refine Below.drew ?_ | refine Below.alloc ?_ (by first | (simp; done) | (simp; omega) | omega) _ | refine Below.setCell ?_ (by first | (simp; done) | (simp; omega) | omega) _ | refine bstep (by assumption) (by first | (simp; done) | (simp; omega) | omega) ?_), ?_, ?_, ?_, ?_, ?_⟩, by simp [intOf]; omega⟩
            · first | (simp; done) | (simp; omega) | omega
            · first | (go_simp; done) | (exact cell_later (by assumption) (by go_simp))
            · first | (go_simp; done) | (exact cell_later (by assumption) (by go_simp))
            · first | (go_simp; done) | (exact cell_later (by assumption) (by go_simp))
            · rw [HE.out, HS.out, HQ.out, hnm, hpl, hcmp]
              simp
      · have HN : Hid (okTs none x.rs = true) := by rw [HE.out, List.drop_eq_nil_of_le (by omega)]; rfl
        clear ha wr'
        cases b1 with
        | false =>
          go_wp2
          go_returns
          exact ⟨ret_bool (by rw [HK.out]; rfl), hb⟩
        | true =>
          go_wp2_with fail
          refine (l01InN_any _ _ _ _).mono ?_
          rintro e w1 ⟨rfl, rfl⟩
          go_wp2
          go_returns
          exact ⟨ret_bool (by rw [HK.out]; simp [okRels, HN.out]), hb⟩
  have k3' : (x.k == 3) = false := by simpa using k3
  have n3' : (x.k != 3) = true := by simp [k3]
  rw [if_neg k3] at HK
  clear k3
  cases b2 with
  | false =>
    have l2 := hp2 rfl
    clear hp2 hn2 hp4 hn4
    go_enter Try.func39, Try.ntmps39
    go_wp2_with fail
    go_returns
    exact ⟨ret_bool (by rw [HK.out]; try simp), by repeat (first | (with_reducible exact Below.refl _ _) | (with_reducible refine Below.drew ?_) | (with_reducible refine Below.alloc ?_ ?hh _; case hh => first | (simp; done) | (simp; omega) | omega) | (with_reducible refine Below.setCell ?_ ?hh _; case hh => first | (simp; done) | (simp; omega) | omega) | refine bstep (by assumption) (by first | (simp; done) | (simp; omega) | omega) ?_)⟩
  | true =>
  have l2 := hn2 rfl
  cases b3 with
  | false =>
    clear hp2 hn2 hp4 hn4
    go_enter Try.func39, Try.ntmps39
    go_wp2_with fail
    go_returns
    exact ⟨ret_bool (by rw [HK.out]; try simp), by repeat (first | (with_reducible exact Below.refl _ _) | (with_reducible refine Below.drew ?_) | (with_reducible refine Below.alloc ?_ ?hh _; case hh => first | (simp; done) | (simp; omega) | omega) | (with_reducible refine Below.setCell ?_ ?hh _; case hh => first | (simp; done) | (simp; omega) | omega) | refine bstep (by assumption) (by first | (simp; done) | (simp; omega) | omega) ?_)⟩
  | true =>
  cases b4 with
  | false =>
    have l4 := hp4 rfl
    clear hp2 hn2 hp4 hn4
    go_enter Try.func39, Try.ntmps39
    go_wp2_with fail
    go_returns
    exact ⟨ret_bool (by rw [HK.out]; try simp), by repeat (first | (with_reducible exact Below.refl _ _) | (with_reducible refine Below.drew ?_) | (with_reducible refine Below.alloc ?_ ?hh _; case hh => first | (simp; done) | (simp; omega) | omega) | (with_reducible refine Below.setCell ?_ ?hh _; case hh => first | (simp; done) | (simp; omega) | omega) | refine bstep (by assumption) (by first | (simp; done) | (simp; omega) | omega) ?_)⟩
  | true =>
  have l4 := hn4 rfl
  clear hp2 hn2 hp4 hn4
  go_enter Try.func39, Try.ntmps39
  go_wp2_with fail
  go_loopw [3] (fun i wr => i = .int .i64 0 ∧ Below w.heap.size w wr ∧ w.heap.size < wr.heap.size ∧ wr.cell? ⟨w.heap.size, 0, none⟩ = some (.int .i64 x.k) ∧ wr.cell? ⟨w.heap.size, 1, none⟩ = some (.string x.s) ∧ wr.cell? ⟨w.heap.size, 4, none⟩ = some (.slice ar x.rs.length cr)) (fun i _ => 0)
  case atStart => exact ⟨rfl, by repeat (first | (with_reducible exact Below.refl _ _) | (with_reducible refine Below.drew ?_) | (with_reducible refine Below.alloc ?_ ?hh _; case hh => first | (simp; done) | (simp; omega) | omega) | (with_reducible refine Below.setCell ?_ ?hh _; case hh => first | (simp; done) | (simp; omega) | omega) | refine bstep (by assumption) (by first | (simp; done) | (simp; omega) | omega) ?_), by simp, by go_simp, by go_simp, by go_simp⟩
  case round =>
    obtain ⟨rfl, hb, hsz, q0, q1, q4⟩ := hrel
    go_wp2_with fail
    go_returns
    exact ⟨ret_bool (by rw [HK.out]), hb⟩
end Go.Proofs.Ytmomffaceglibaa
