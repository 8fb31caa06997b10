/- Own text. The contract of the program's ReadRow. -/
import Derived.Test.YtbobjfokampjbaaDoorRrX
import Derived.Handy
namespace Go.Proofs.YtbobjfokampjbaaDoor
open Go.RowKit Go.ChangeShapes Go.WideShapes
set_option linter.unusedVariables false
theorem own_nul3 (w : World) (N : Nat) : w.ownsRow N 30 3 (.slice none 0 0) ([] : List V3).length (rc []) := ⟨rfl, .inl ⟨rfl, rfl⟩⟩
set_option maxHeartbeats 8000000 in
set_option maxRecDepth 100000 in
theorem implReadRow_any (s : ByteArray) (l : List UInt8) (w : World) (HL : Hid (s = bs l)) (hs : s.size ≤ 1048576) (hE : EnvR w) :
    Calls Tryd.prog 5 #[.string s] w fun e w' => RrOut l w e w' := by
  obtain ⟨i0, hi0, hz0, hz1, hz2⟩ := info_parts infoVr
  have hl0 : l.length ≤ 1048576 := by have := congrArg ByteArray.size HL.out; rw [bs_size] at this; omega
  have HE : Hid (EnvR w) := hE
  clear hE hs
  go_enter Tryd.func5, Tryd.ntmps5
  go_wp2_with fail
  go_loopw [0, 4] (fun x u wr => ∃ (cur : List UInt8) (vs : List V3), x = .string (bs cur) ∧ wr.ownsRow w.heap.size 30 3 u vs.length (rc vs) ∧ Hid (RowP l cur vs) ∧ vs.length + cur.length ≤ 1048576 ∧ Below w.heap.size w wr) (fun x _ _ => match x with | .string t => t.size | _ => 0)
  case atStart => exact ⟨l, [], by rw [HL.out], own_nil3 rfl (Nat.le_refl _), RowP.start l, by simp; omega, by repeat (first | (with_reducible exact Below.refl _ _) | (with_reducible refine Below.drew ?_) | (with_reducible refine Below.alloc ?_ ?hh _; case hh => first | (simp; done) | (simp; omega) | omega) | (with_reducible refine Below.setCell ?_ ?hh _; case hh => first | (simp; done) | (simp; omega) | omega) | refine bstep (by assumption) (by first | (simp; done) | (simp; omega) | omega) ?_)⟩
  case round =>
    obtain ⟨cur, vs, rfl, hO, HP, hvl, hb⟩ := hrel
    have hzb := hb.size
    obtain ⟨a, c, rfl⟩ := own_shape3 hO
    have hsz : (bs cur).size = cur.length := bs_size cur
    have hC0 := cutValue_any (bs cur) wr (by omega) (HE.out.below hb)
    rw [bs_data] at hC0
    have hol := ownsRow_lt hO
    cases ho : oneV cur with
    | none =>
      have hC : Calls Tryd.prog 11 #[.string (bs cur)] wr fun e w' => (∃ (v : V3) (R : ByteArray), e = .returned (.tuple #[.agg #[.int .i64 v.k, .int .i64 v.n, .string v.s], .string R, .bool false])) ∧ Below wr.heap.size wr w' := by
        rw [ho] at hC0
        exact hC0.mono fun e w' ⟨⟨v, R, h1, h2⟩, h3⟩ => ⟨⟨v, R, h1⟩, h3⟩
      have HF : Hid (rrO l = false ∧ rrR l = []) := HP.out.no ho
      clear hC0 ho HP hO hol hsz
      generalize bs cur = S at *
      go_wp2_with (first | (go_at_call 11; refine Calls.mono hC ?_; rintro r0 w2 ⟨⟨v, R, rfl⟩, hb2⟩; have hbw2 : Below w.heap.size w w2 := (hb.trans (hb2.mono hzb)); have hz9 := hbw2.size; clear hb2 hb hC) | fail)
      go_returns
      exact RrOut.mk HF.out rfl (own_nul3 _ _) (by repeat (first | (with_reducible exact Below.refl _ _) | (with_reducible refine Below.drew ?_) | (with_reducible refine Below.alloc ?_ ?hh _; case hh => first | (simp; done) | (simp; omega) | omega) | (with_reducible refine Below.setCell ?_ ?hh _; case hh => first | (simp; done) | (simp; omega) | omega) | refine bstep (by assumption) (by first | (simp; done) | (simp; omega) | omega) ?_))
    | some x =>
      obtain ⟨v, r⟩ := x
      have hrl := oneV_len ho
      have hC : Calls Tryd.prog 11 #[.string (bs cur)] wr fun e w' => e = .returned (.tuple #[.agg #[.int .i64 v.k, .int .i64 v.n, .string v.s], .string (bs r), .bool true]) ∧ Below wr.heap.size wr w' := by
        rw [ho] at hC0
        exact hC0.mono fun e w' ⟨⟨v', R, h1, h2⟩, h3⟩ => ⟨by obtain ⟨h4, h5⟩ := h2 _ rfl; rw [h1, h4, h5]; rfl, h3⟩
      clear hC0
      cases r with
      | nil =>
        have HF : Hid (rrO l = true ∧ rrR l = vs ++ [v]) := HP.out.fin ho
        have hnil : (bs []).toList = [] := by rw [tl, bs_data]
        clear ho HP hsz hrl
        generalize bs cur = S at *
        generalize bs [] = R at *
        go_wp2_with (first | (go_at_call 11; refine Calls.mono hC ?_; rintro r0 w2 ⟨rfl, hb2⟩; have hbw2 : Below w.heap.size w w2 := (hb.trans (hb2.mono hzb)); have hO2 := ownsRow_keep hO (fun b hb' => hb2.block b (hol b hb').2); have hz9 := hbw2.size; clear hb2 hb hC hO) | (at_builtin; refine wpList_append_own _ rfl _ _ 22 rfl w.heap.size 30 i0 _ 3 32 Tryd.underlying22 hi0 hz0 hz1 hz2 rfl (by decide) (.slice a vs.length c) vs.length (rc vs) rfl ?hown ⟨w2.heap.size + 1, 0, none⟩ 1 1 [.int .i64 v.k, .int .i64 v.n, .string v.s] rfl rfl ?c1 ?c2 ?c3 ?c4 ?c5 ?_))
        case hown =>
          refine ownsRow_keep hO2 fun b hb' => ?_
          have h1 := ownsRow_lt hO2 b hb'
          rw [Below.heap_alloc _ _ _ (by simp; omega), Below.heap_alloc _ _ _ (by omega)]
        case c1 =>
          intro j' u hu
          match j', hu with
          | 0, hu => simp at hu; subst hu; go_simp
          | 1, hu => simp at hu; subst hu; go_simp
          | 2, hu => simp at hu; subst hu; go_simp
        case c2 => intro u hu; simp at hu; rcases hu with rfl | rfl | rfl <;> rfl
        case c3 => unfold maxLen; omega
        case c4 => omega
        case c5 => simp; omega
        intro v5 w5 hown5 hgr5 _
        have hbel4 : Below w.heap.size w ((w2.alloc (.cells #[.int .i64 v.k, .int .i64 v.n, .string v.s] 30)).alloc (.cells #[.int .i64 v.k, .int .i64 v.n, .string v.s] 30)) := (hbw2.alloc (by omega) _).alloc (by simp; omega) _
        have hb5 : Below w.heap.size w w5 := hbel4.grown hgr5 (by simp; omega) (fun k' hk' => by have := (ownsRow_lt hO2 _ hk').1; omega)
        have hO6 : w5.ownsRow w.heap.size 30 3 v5 (vs ++ [v]).length (rc (vs ++ [v])) := by rw [rc_push, List.length_append]; exact hown5
        have hz5 := hb5.size
        obtain ⟨a5, c5, hv5⟩ := own_shape3 hO6
        rw [List.length_append, List.length_singleton] at hv5
        subst hv5
        clear hown5 hgr5 hbel4 hO2 hbw2
        go_wp2_with fail
        go_returns
        exact RrOut.mk HF.out rfl (by first | exact hO6 | simpa using hO6) hb5
      | cons d r =>
        simp only [List.length_cons] at hrl
        have hnil : (bs (d :: r)).toList.isEmpty = false := by rw [tl, bs_data]; rfl
        have hP0 := fun wz => Tryd.strings_CutPrefix (bs (d :: r)) ⟨#[44]⟩ wz
        rw [bs_data] at hP0
        have h44b : (⟨#[44]⟩ : ByteArray).data.toList = [44] := rfl
        rw [h44b] at hP0
        by_cases hd : d = 44
        · subst hd
          have hP : ∀ wz, Calls Tryd.prog 12 #[.string (bs (44 :: r)), .string ⟨#[44]⟩] wz fun e w' => e = .returned (.tuple #[.string (bs r), .bool true]) ∧ w' = wz := hP0
          have HX : Hid (RowP l r (vs ++ [v])) := HP.out.go ho
          have HSZ : Hid ((bs r).size < (bs cur).size) := by show _ < _; rw [bs_size, bs_size]; omega
          clear ho HP hsz h44b hP0
          generalize bs cur = S at *
          generalize bs (44 :: r) = R at *
          go_wp2_with (first | (go_at_call 11; refine Calls.mono hC ?_; rintro r0 w2 ⟨rfl, hb2⟩; have hbw2 : Below w.heap.size w w2 := (hb.trans (hb2.mono hzb)); have hO2 := ownsRow_keep hO (fun b hb' => hb2.block b (hol b hb').2); have hz9 := hbw2.size; clear hb2 hb hC hO) | (at_builtin; refine wpList_append_own _ rfl _ _ 22 rfl w.heap.size 30 i0 _ 3 32 Tryd.underlying22 hi0 hz0 hz1 hz2 rfl (by decide) (.slice a vs.length c) vs.length (rc vs) rfl ?hown ⟨w2.heap.size + 1, 0, none⟩ 1 1 [.int .i64 v.k, .int .i64 v.n, .string v.s] rfl rfl ?c1 ?c2 ?c3 ?c4 ?c5 ?_))
          case hown =>
            refine ownsRow_keep hO2 fun b hb' => ?_
            have h1 := ownsRow_lt hO2 b hb'
            rw [Below.heap_alloc _ _ _ (by simp; omega), Below.heap_alloc _ _ _ (by omega)]
          case c1 =>
            intro j' u hu
            match j', hu with
            | 0, hu => simp at hu; subst hu; go_simp
            | 1, hu => simp at hu; subst hu; go_simp
            | 2, hu => simp at hu; subst hu; go_simp
          case c2 => intro u hu; simp at hu; rcases hu with rfl | rfl | rfl <;> rfl
          case c3 => unfold maxLen; omega
          case c4 => omega
          case c5 => simp; omega
          intro v5 w5 hown5 hgr5 _
          have hbel4 : Below w.heap.size w ((w2.alloc (.cells #[.int .i64 v.k, .int .i64 v.n, .string v.s] 30)).alloc (.cells #[.int .i64 v.k, .int .i64 v.n, .string v.s] 30)) := (hbw2.alloc (by omega) _).alloc (by simp; omega) _
          have hb5 : Below w.heap.size w w5 := hbel4.grown hgr5 (by simp; omega) (fun k' hk' => by have := (ownsRow_lt hO2 _ hk').1; omega)
          have hO6 : w5.ownsRow w.heap.size 30 3 v5 (vs ++ [v]).length (rc (vs ++ [v])) := by rw [rc_push, List.length_append]; exact hown5
          have hz5 := hb5.size
          obtain ⟨a5, c5, hv5⟩ := own_shape3 hO6
          rw [List.length_append, List.length_singleton] at hv5
          subst hv5
          clear hown5 hgr5 hbel4 hO2 hbw2
          go_wp2_with (first | (go_at_call 12; refine Calls.mono (hP _) ?_; rintro r1 w6 ⟨rfl, hw6⟩; obtain rfl : w5 = w6 := hw6.symm) | fail)
          exact ⟨⟨r, vs ++ [v], rfl, by first | exact hO6 | simpa using hO6, HX, by simp; omega, hb5⟩, HSZ.out⟩
        · have hP : ∀ wz, Calls Tryd.prog 12 #[.string (bs (d :: r)), .string ⟨#[44]⟩] wz fun e w' => e = .returned (.tuple #[.string (bs (d :: r)), .bool false]) ∧ w' = wz := by
            intro wz
            refine (hP0 wz).mono fun e w' ⟨h1, h2⟩ => ⟨?_, h2⟩
            have hf : Lib.hasPrefix (d :: r) [44] = false := by simp [Lib.hasPrefix, List.isPrefixOf]; intro e; exact hd e.symm
            rw [h1]
            unfold Lib.trimPrefix
            rw [hf]; rfl
          have HF : Hid (rrO l = false ∧ rrR l = []) := HP.out.bad ho hd
          clear ho HP hsz h44b hP0 hd
          generalize bs cur = S at *
          generalize bs (d :: r) = R at *
          go_wp2_with (first | (go_at_call 11; refine Calls.mono hC ?_; rintro r0 w2 ⟨rfl, hb2⟩; have hbw2 : Below w.heap.size w w2 := (hb.trans (hb2.mono hzb)); have hO2 := ownsRow_keep hO (fun b hb' => hb2.block b (hol b hb').2); have hz9 := hbw2.size; clear hb2 hb hC hO) | (at_builtin; refine wpList_append_own _ rfl _ _ 22 rfl w.heap.size 30 i0 _ 3 32 Tryd.underlying22 hi0 hz0 hz1 hz2 rfl (by decide) (.slice a vs.length c) vs.length (rc vs) rfl ?hown ⟨w2.heap.size + 1, 0, none⟩ 1 1 [.int .i64 v.k, .int .i64 v.n, .string v.s] rfl rfl ?c1 ?c2 ?c3 ?c4 ?c5 ?_))
          case hown =>
            refine ownsRow_keep hO2 fun b hb' => ?_
            have h1 := ownsRow_lt hO2 b hb'
            rw [Below.heap_alloc _ _ _ (by simp; omega), Below.heap_alloc _ _ _ (by omega)]
          case c1 =>
            intro j' u hu
            match j', hu with
            | 0, hu => simp at hu; subst hu; go_simp
            | 1, hu => simp at hu; subst hu; go_simp
            | 2, hu => simp at hu; subst hu; go_simp
          case c2 => intro u hu; simp at hu; rcases hu with rfl | rfl | rfl <;> rfl
          case c3 => unfold maxLen; omega
          case c4 => omega
          case c5 => simp; omega
          intro v5 w5 hown5 hgr5 _
          have hbel4 : Below w.heap.size w ((w2.alloc (.cells #[.int .i64 v.k, .int .i64 v.n, .string v.s] 30)).alloc (.cells #[.int .i64 v.k, .int .i64 v.n, .string v.s] 30)) := (hbw2.alloc (by omega) _).alloc (by simp; omega) _
          have hb5 : Below w.heap.size w w5 := hbel4.grown hgr5 (by simp; omega) (fun k' hk' => by have := (ownsRow_lt hO2 _ hk').1; omega)
          have hO6 : w5.ownsRow w.heap.size 30 3 v5 (vs ++ [v]).length (rc (vs ++ [v])) := by rw [rc_push, List.length_append]; exact hown5
          have hz5 := hb5.size
          obtain ⟨a5, c5, hv5⟩ := own_shape3 hO6
          rw [List.length_append, List.length_singleton] at hv5
          subst hv5
          clear hown5 hgr5 hbel4 hO2 hbw2
          go_wp2_with (first | (go_at_call 12; refine Calls.mono (hP _) ?_; rintro r1 w6 ⟨rfl, hw6⟩; obtain rfl : w5 = w6 := hw6.symm) | fail)
          go_returns
          exact RrOut.mk HF.out rfl (own_nul3 _ _) hb5
end Go.Proofs.YtbobjfokampjbaaDoor
