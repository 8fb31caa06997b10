/- Own text. The contract of the model's ReadRow. -/
import Derived.Test.YtbobjfokampjbaaDoorRrW
import Derived.Handy
namespace Go.Proofs.YtbobjfokampjbaaDoor
open Go.RowKit Go.ChangeShapes Go.WideShapes
set_option linter.unusedVariables false
theorem infoVr : (Tryd.prog.info? 30).map (fun i => (i.zero, i.size, i.bytes)) = some (some (.agg #[.int .i64 0, .int .i64 0, .string ⟨#[]⟩]), 3, 32) := by kernel_rfl
theorem rc_push (vs : List V3) (x : V3) : rc (vs ++ [x]) = rc vs ++ [.int .i64 x.k, .int .i64 x.n, .string x.s] := by
  unfold rc
  have hl : (vs ++ [x]).length * 3 = vs.length * 3 + 3 := by simp; omega
  rw [hl, List.range_add, List.map_append]
  congr 1
  · refine List.map_congr_left fun j hj => ?_
    have hj' := List.mem_range.1 hj
    unfold cf
    have e : (vs ++ [x]).getD (j / 3) ⟨0, 0, ⟨#[]⟩⟩ = vs.getD (j / 3) ⟨0, 0, ⟨#[]⟩⟩ := by
      rw [List.getD_eq_getElem?_getD, List.getD_eq_getElem?_getD, List.getElem?_append_left (by omega)]
    rw [e]
  · obtain ⟨h0, h1, h2⟩ := cf_at (vs := vs ++ [x]) (k := vs.length) (x := x) (by simp)
    rw [show List.range 3 = [0, 1, 2] from rfl]
    simp [h0, h1, h2]
theorem extract_l (s : ByteArray) (a b : Nat) : (s.extract a b).data.toList = (s.data.toList.drop a).take (b - a) := by
  simp [ByteArray.data_extract, Array.toList_extract, List.extract]
/-- a row in memory of the call's own, and whether there is one. -/
def RrOut (l : List UInt8) (w : World) (e : Ending) (w' : World) : Prop := (∃ u : Value, e = .returned (.tuple #[u, .bool (rrO l)]) ∧ w'.ownsRow w.heap.size 30 3 u (rrR l).length (rc (rrR l))) ∧ Below w.heap.size w w'
theorem RrOut.mk {l : List UInt8} {w w' : World} {e : Ending} {u : Value} {vs : List V3} {b : Bool} (h : rrO l = b ∧ rrR l = vs) (he : e = .returned (.tuple #[u, .bool b])) (ho : w'.ownsRow w.heap.size 30 3 u vs.length (rc vs)) (hb : Below w.heap.size w w') : RrOut l w e w' := by
  obtain ⟨rfl, rfl⟩ := h
  exact ⟨⟨u, he, ho⟩, hb⟩
theorem own_shape3 {w : World} {N n : Nat} {u : Value} {xs : List Value} (h : w.ownsRow N 30 3 u n xs) : ∃ a c, u = .slice a n c := by
  rcases h.2 with ⟨h1, h2⟩ | ⟨g, cap, cur, hv, _⟩
  · exact ⟨none, 0, by rw [h1, h2]⟩
  · exact ⟨_, cap, hv⟩
theorem own_nil3 {w : World} {N H : Nat} (hH : w.heap.size = H) (hN : N ≤ H) : (w.alloc (.cells #[] 30)).ownsRow N 30 3 (.slice (some ⟨H, 0, none⟩) 0 0) ([] : List V3).length (rc []) := own_none hH hN 30 3
set_option maxHeartbeats 8000000 in
set_option maxRecDepth 100000 in
theorem specReadRow_any (s : ByteArray) (l : List UInt8) (w : World) (HL : Hid (s.data.toList = l)) (hs : s.size ≤ 1048576) :
    Calls Tryd.prog 4 #[.string s] w fun e w' => RrOut l w e w' := by
  obtain ⟨i0, hi0, hz0, hz1, hz2⟩ := info_parts infoVr
  have hll : Hid (l.length = s.size) := by show _ = _; rw [← HL.out]; simp
  go_enter Tryd.func4, Tryd.ntmps4
  go_wp2_with fail
  go_loopw [4, 5] (fun u x wr => ∃ (i : Nat) (vs : List V3), i ≤ s.size ∧ x = .int .i64 i ∧ wr.ownsRow w.heap.size 30 3 u vs.length (rc vs) ∧ Hid (RowP l (l.drop i) vs) ∧ vs.length ≤ i ∧ Below w.heap.size w wr) (fun _ x _ => s.size + 1 - (intOf x).toNat)
  case atStart => exact ⟨0, [], Nat.zero_le _, rfl, own_nil3 rfl (Nat.le_refl _), RowP.start l, Nat.le_refl _, by repeat (first | (with_reducible exact Below.refl _ _) | (with_reducible refine Below.drew ?_) | (with_reducible refine Below.alloc ?_ ?hh _; case hh => first | (simp; done) | (simp; omega) | omega) | (with_reducible refine Below.setCell ?_ ?hh _; case hh => first | (simp; done) | (simp; omega) | omega) | refine bstep (by assumption) (by first | (simp; done) | (simp; omega) | omega) ?_)⟩
  case round =>
    obtain ⟨i, vs, hi, rfl, hO, HP, hvl, hb⟩ := hrel
    have hzb := hb.size
    obtain ⟨a, c, rfl⟩ := own_shape3 hO
    have hrl := restV_len (l.drop i)
    have hE := l12End_any s i wr hs hi
    rw [HL.out] at hE
    obtain ⟨hw1, hw2⟩ := word_rest (l.drop i)
    have hdl : (l.drop i).length = s.size - i := by rw [List.length_drop, hll.out]
    obtain ⟨E, HE⟩ : ∃ E, Hid (s.size - (restV (l.drop i)).length = E) := ⟨_, rfl⟩
    rw [HE.out] at hE
    have hEo := HE.out
    have hEi : i ≤ E := by omega
    have hEz : E ≤ s.size := by omega
    have hword : (s.extract i E).data.toList = wordV (l.drop i) := by
      rw [extract_l, HL.out]; unfold wordV; congr 1; omega
    have hEd : l.drop E = restV (l.drop i) := by
      rw [← hw1, List.drop_drop]; congr 1; omega
    have hsz : (s.extract i E).size ≤ 1048576 := by rw [ByteArray.size_extract]; omega
    have hV0 := fun wz => l12Value_any (s.extract i E) wz hsz
    rw [hword] at hV0
    have hEiI : (i : Int) ≤ (E : Int) := by omega
    have hEzI : (E : Int) ≤ (s.size : Int) := by omega
    have hlE : E - i + (restV (l.drop i)).length = s.size - i := by omega
    have hlt0 : ∀ r c', restV (l.drop i) = c' :: r → E < s.size := fun r c' h => by rw [h] at hEo; simp at hEo; rw [h] at hlE; simp at hlE; omega
    clear hword hsz hdl hw1 hrl
    generalize valV (wordV (l.drop i)) = o at *
    cases o with
    | none =>
      have hV : ∀ wz, Calls Tryd.prog 10 #[.string (s.extract i E)] wz fun e w' => (∃ v : V3, e = .returned (.tuple #[.agg #[.int .i64 v.k, .int .i64 v.n, .string v.s], .bool false])) ∧ Below wz.heap.size wz w' := fun wz => (hV0 wz).mono fun e w' ⟨⟨v, h1, h2⟩, h3⟩ => ⟨⟨v, h1⟩, h3⟩
      have HF : Hid (rrO l = false ∧ rrR l = []) := HP.out.no hw2
      clear hV0 hw2 HP hEd hlt0 hO
      go_wp2_with (first | (go_at_call 9; refine Calls.mono hE ?_; rintro r w1 ⟨rfl, hb1⟩; have hbw1 : Below w.heap.size w w1 := (hb.trans (hb1.mono hzb)); clear hb1 hb hE) | (go_at_call 10; refine Calls.mono (hV _) ?_; rintro r w2 ⟨⟨v, rfl⟩, hb2⟩; have hbw2 : Below w.heap.size w w2 := (hbw1.trans (hb2.mono hbw1.size)); clear hb2 hbw1 hV) | fail)
      have hz9 := hbw2.size
      go_returns
      exact RrOut.mk HF.out rfl (own_nil3 (by simp) (by have := hbw2.size; simp; omega)) (by repeat (first | (with_reducible exact Below.refl _ _) | (with_reducible refine Below.drew ?_) | (with_reducible refine Below.alloc ?_ ?hh _; case hh => first | (simp; done) | (simp; omega) | omega) | (with_reducible refine Below.setCell ?_ ?hh _; case hh => first | (simp; done) | (simp; omega) | omega) | refine bstep (by assumption) (by first | (simp; done) | (simp; omega) | omega) ?_))
    | some v =>
      have hV : ∀ wz, Calls Tryd.prog 10 #[.string (s.extract i E)] wz fun e w' => e = .returned (.tuple #[.agg #[.int .i64 v.k, .int .i64 v.n, .string v.s], .bool true]) ∧ Below wz.heap.size wz w' := fun wz => (hV0 wz).mono fun e w' ⟨⟨v', h1, h2⟩, h3⟩ => ⟨by rw [h1, h2 v rfl]; rfl, h3⟩
      clear hV0
      have hol := ownsRow_lt hO
      have hvlI : vs.length ≤ 1048576 := by omega
      cases hr : restV (l.drop i) with
      | nil =>
        have HF : Hid (rrO l = true ∧ rrR l = vs ++ [v]) := HP.out.fin (by rw [hw2, hr]; rfl)
        have hEq : ((E : Int) == (s.size : Int)) = true := by rw [beq_iff_eq]; rw [hr] at hEo; simp at hEo; omega
        clear hw2 HP hEd hlt0 hEo hlE HE HL hll hr
        go_wp2_with (first | (go_at_call 9; refine Calls.mono hE ?_; rintro r w1 ⟨rfl, hb1⟩; have hbw1 : Below w.heap.size w w1 := (hb.trans (hb1.mono hzb)); have hO1 := ownsRow_keep hO (fun b hb' => hb1.block b (hol b hb').2); clear hb1 hb hE hO) | (go_at_call 10; refine Calls.mono (hV _) ?_; rintro r w2 ⟨rfl, hb2⟩; have hbw2 : Below w.heap.size w w2 := (hbw1.trans (hb2.mono hbw1.size)); have hO2 := ownsRow_keep hO1 (fun b hb' => hb2.block b (ownsRow_lt hO1 b hb').2); have hz9 := hbw2.size; clear hb2 hbw1 hV hO1) | (at_builtin; refine wpList_append_own _ rfl _ _ 22 rfl w.heap.size 30 i0 _ 3 32 Tryd.underlying22 hi0 hz0 hz1 hz2 rfl (by decide) (.slice a vs.length c) vs.length (rc vs) rfl ?hown ⟨w2.heap.size + 1, 0, none⟩ 1 1 [.int .i64 v.k, .int .i64 v.n, .string v.s] rfl rfl ?c1 ?c2 ?c3 ?c4 ?c5 ?_))
        case hown =>
          refine ownsRow_keep hO2 fun b hb' => ?_
          have h1 := ownsRow_lt hO2 b hb'
          rw [Below.heap_alloc _ _ _ (by simp; omega), Below.heap_alloc _ _ _ (by omega)]
        case c1 =>
          intro j' u hu
          match j', hu with
          | 0, hu => simp at hu; subst hu; go_simp
          | 1, hu => simp at hu; subst hu; go_simp
          | 2, hu => simp at hu; subst hu; go_simp
        case c2 => intro u hu; simp at hu; rcases hu with rfl | rfl | rfl <;> rfl
        case c3 => unfold maxLen; omega
        case c4 => omega
        case c5 => simp; omega
        intro v5 w5 hown5 hgr5 _
        have hbel4 : Below w.heap.size w ((w2.alloc (.cells #[.int .i64 v.k, .int .i64 v.n, .string v.s] 30)).alloc (.cells #[.int .i64 v.k, .int .i64 v.n, .string v.s] 30)) := (hbw2.alloc (by omega) _).alloc (by simp; omega) _
        have hb5 : Below w.heap.size w w5 := hbel4.grown hgr5 (by simp; omega) (fun k' hk' => by have := (ownsRow_lt hO2 _ hk').1; omega)
        have hO6 : w5.ownsRow w.heap.size 30 3 v5 (vs ++ [v]).length (rc (vs ++ [v])) := by rw [rc_push, List.length_append]; exact hown5
        have hz5 := hb5.size
        obtain ⟨a5, c5, hv5⟩ := own_shape3 hO6
        rw [List.length_append, List.length_singleton] at hv5
        subst hv5
        clear hown5 hgr5 hbel4 hO2 hbw2
        go_wp2_with fail
        go_returns
        exact RrOut.mk HF.out rfl hO6 hb5
      | cons c' r =>
        have hlt := hlt0 r c' hr
        have hEq : ((E : Int) == (s.size : Int)) = false := by rw [beq_eq_false_iff_ne]; omega
        have hltI : (E : Int) < (s.size : Int) := by omega
        have hdE : s.data.toList.drop E = c' :: r := by rw [HL.out, hEd, hr]
        have hsE : s[E] = c' := by
          have := drop_at s E hlt
          rw [hdE] at this
          injection this with h1 h2
          exact h1.symm
        have hrE : r = l.drop (E + 1) := by
          have := drop_at s E hlt
          rw [hdE] at this
          injection this with h1 h2
          rw [h2, HL.out]
        by_cases h44 : c' = 44
        · have hc : ((s[E].toNat : Int) != 44) = false := by rw [hsE, h44]; rfl
          have HX : Hid (RowP l (l.drop (E + 1)) (vs ++ [v])) := by rw [← hrE]; exact HP.out.go (by rw [hw2, hr, h44]; rfl)
          clear hw2 HP hEd hlt0 hEo hlE HE HL hll hr hdE hsE hrE h44
          go_wp2_with (first | (go_at_call 9; refine Calls.mono hE ?_; rintro r w1 ⟨rfl, hb1⟩; have hbw1 : Below w.heap.size w w1 := (hb.trans (hb1.mono hzb)); have hO1 := ownsRow_keep hO (fun b hb' => hb1.block b (hol b hb').2); clear hb1 hb hE hO) | (go_at_call 10; refine Calls.mono (hV _) ?_; rintro r w2 ⟨rfl, hb2⟩; have hbw2 : Below w.heap.size w w2 := (hbw1.trans (hb2.mono hbw1.size)); have hO2 := ownsRow_keep hO1 (fun b hb' => hb2.block b (ownsRow_lt hO1 b hb').2); have hz9 := hbw2.size; clear hb2 hbw1 hV hO1) | (at_builtin; refine wpList_append_own _ rfl _ _ 22 rfl w.heap.size 30 i0 _ 3 32 Tryd.underlying22 hi0 hz0 hz1 hz2 rfl (by decide) (.slice a vs.length c) vs.length (rc vs) rfl ?hown ⟨w2.heap.size + 1, 0, none⟩ 1 1 [.int .i64 v.k, .int .i64 v.n, .string v.s] rfl rfl ?c1 ?c2 ?c3 ?c4 ?c5 ?_))
          case hown =>
            refine ownsRow_keep hO2 fun b hb' => ?_
            have h1 := ownsRow_lt hO2 b hb'
            rw [Below.heap_alloc _ _ _ (by simp; omega), Below.heap_alloc _ _ _ (by omega)]
          case c1 =>
            intro j' u hu
            match j', hu with
            | 0, hu => simp at hu; subst hu; go_simp
            | 1, hu => simp at hu; subst hu; go_simp
            | 2, hu => simp at hu; subst hu; go_simp
          case c2 => intro u hu; simp at hu; rcases hu with rfl | rfl | rfl <;> rfl
          case c3 => unfold maxLen; omega
          case c4 => omega
          case c5 => simp; omega
          intro v5 w5 hown5 hgr5 _
          have hbel4 : Below w.heap.size w ((w2.alloc (.cells #[.int .i64 v.k, .int .i64 v.n, .string v.s] 30)).alloc (.cells #[.int .i64 v.k, .int .i64 v.n, .string v.s] 30)) := (hbw2.alloc (by omega) _).alloc (by simp; omega) _
          have hb5 : Below w.heap.size w w5 := hbel4.grown hgr5 (by simp; omega) (fun k' hk' => by have := (ownsRow_lt hO2 _ hk').1; omega)
          have hO6 : w5.ownsRow w.heap.size 30 3 v5 (vs ++ [v]).length (rc (vs ++ [v])) := by rw [rc_push, List.length_append]; exact hown5
          have hz5 := hb5.size
          obtain ⟨a5, c5, hv5⟩ := own_shape3 hO6
          rw [List.length_append, List.length_singleton] at hv5
          subst hv5
          clear hown5 hgr5 hbel4 hO2 hbw2
          go_wp2_with fail
          exact ⟨⟨E + 1, vs ++ [v], by omega, by go_num, by first | exact hO6 | simpa using hO6, HX, by simp; omega, hb5⟩, by simp [intOf]; omega⟩
        · have hc : ((s[E].toNat : Int) != 44) = true := by
            rw [bne_iff_ne]; intro e
            exact h44 (by rw [← hsE]; exact (byte_eq (c := s[E]) (n := 44) (by decide)).1 (by rw [beq_iff_eq]; exact e))
          have HF : Hid (rrO l = false ∧ rrR l = []) := HP.out.bad (c := c') (r := r) (v := v) (by rw [hw2, hr]; rfl) h44
          clear hw2 HP hEd hlt0 hEo hlE HE HL hll hr hdE hsE hrE h44
          go_wp2_with (first | (go_at_call 9; refine Calls.mono hE ?_; rintro r w1 ⟨rfl, hb1⟩; have hbw1 : Below w.heap.size w w1 := (hb.trans (hb1.mono hzb)); have hO1 := ownsRow_keep hO (fun b hb' => hb1.block b (hol b hb').2); clear hb1 hb hE hO) | (go_at_call 10; refine Calls.mono (hV _) ?_; rintro r w2 ⟨rfl, hb2⟩; have hbw2 : Below w.heap.size w w2 := (hbw1.trans (hb2.mono hbw1.size)); have hO2 := ownsRow_keep hO1 (fun b hb' => hb2.block b (ownsRow_lt hO1 b hb').2); have hz9 := hbw2.size; clear hb2 hbw1 hV hO1) | (at_builtin; refine wpList_append_own _ rfl _ _ 22 rfl w.heap.size 30 i0 _ 3 32 Tryd.underlying22 hi0 hz0 hz1 hz2 rfl (by decide) (.slice a vs.length c) vs.length (rc vs) rfl ?hown ⟨w2.heap.size + 1, 0, none⟩ 1 1 [.int .i64 v.k, .int .i64 v.n, .string v.s] rfl rfl ?c1 ?c2 ?c3 ?c4 ?c5 ?_))
          case hown =>
            refine ownsRow_keep hO2 fun b hb' => ?_
            have h1 := ownsRow_lt hO2 b hb'
            rw [Below.heap_alloc _ _ _ (by simp; omega), Below.heap_alloc _ _ _ (by omega)]
          case c1 =>
            intro j' u hu
            match j', hu with
            | 0, hu => simp at hu; subst hu; go_simp
            | 1, hu => simp at hu; subst hu; go_simp
            | 2, hu => simp at hu; subst hu; go_simp
          case c2 => intro u hu; simp at hu; rcases hu with rfl | rfl | rfl <;> rfl
          case c3 => unfold maxLen; omega
          case c4 => omega
          case c5 => simp; omega
          intro v5 w5 hown5 hgr5 _
          have hbel4 : Below w.heap.size w ((w2.alloc (.cells #[.int .i64 v.k, .int .i64 v.n, .string v.s] 30)).alloc (.cells #[.int .i64 v.k, .int .i64 v.n, .string v.s] 30)) := (hbw2.alloc (by omega) _).alloc (by simp; omega) _
          have hb5 : Below w.heap.size w w5 := hbel4.grown hgr5 (by simp; omega) (fun k' hk' => by have := (ownsRow_lt hO2 _ hk').1; omega)
          have hO6 : w5.ownsRow w.heap.size 30 3 v5 (vs ++ [v]).length (rc (vs ++ [v])) := by rw [rc_push, List.length_append]; exact hown5
          have hz5 := hb5.size
          obtain ⟨a5, c5, hv5⟩ := own_shape3 hO6
          rw [List.length_append, List.length_singleton] at hv5
          subst hv5
          clear hown5 hgr5 hbel4 hO2 hbw2
          go_wp2_with fail
          go_returns
          exact RrOut.mk HF.out rfl (own_nil3 rfl (by omega)) (by repeat (first | (with_reducible exact Below.refl _ _) | (with_reducible refine Below.drew ?_) | (with_reducible refine Below.alloc ?_ ?hh _; case hh => first | (simp; done) | (simp; omega) | omega) | (with_reducible refine Below.setCell ?_ ?hh _; case hh => first | (simp; done) | (simp; omega) | omega) | refine bstep (by assumption) (by first | (simp; done) | (simp; omega) | omega) ?_))
end Go.Proofs.YtbobjfokampjbaaDoor
