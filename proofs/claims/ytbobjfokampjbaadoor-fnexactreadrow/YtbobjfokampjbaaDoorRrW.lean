/- Own text. The contract of the model's l12Value. -/
import Derived.Test.YtbobjfokampjbaaDoorRrV
import Derived.Handy
namespace Go.Proofs.YtbobjfokampjbaaDoor
open Go.RowKit
set_option linter.unusedVariables false
/-- a value, and whether it is one. -/
def ValOut (o : Option V3) (w : World) (e : Ending) (w' : World) : Prop := (∃ v : V3, e = .returned (.tuple #[.agg #[.int .i64 v.k, .int .i64 v.n, .string v.s], .bool o.isSome]) ∧ ∀ x, o = some x → v = x) ∧ Below w.heap.size w w'
theorem ValOut.yes {o : Option V3} {v : V3} {w w' : World} {e : Ending} (h : o = some v) (he : e = .returned (.tuple #[.agg #[.int .i64 v.k, .int .i64 v.n, .string v.s], .bool true])) (hb : Below w.heap.size w w') : ValOut o w e w' := by
  subst h
  exact ⟨⟨v, he, fun x hx => by injection hx⟩, hb⟩
theorem ValOut.no {o : Option V3} {v : V3} {w w' : World} {e : Ending} (h : o = none) (he : e = .returned (.tuple #[.agg #[.int .i64 v.k, .int .i64 v.n, .string v.s], .bool false])) (hb : Below w.heap.size w w') : ValOut o w e w' := by
  subst h
  exact ⟨⟨v, he, fun x hx => by cases hx⟩, hb⟩
theorem tl (s : ByteArray) : s.toList = s.data.toList := ByteArray.toList_eq s
set_option maxHeartbeats 1000000 in
theorem l01BoolV_any (b : Bool) (w : World) : Calls Tryd.prog 16 #[.bool b] w fun e w' => e = .returned (.agg #[.int .i64 2, .int .i64 (if b = true then 1 else 0), .string ⟨#[]⟩]) ∧ Below w.heap.size w w' := by
  cases b
  · go_enter Tryd.func16, Tryd.ntmps16
    go_wp2_with fail
    refine bodyPost_ret (results_c rfl _ _ _ _ ⟨w.heap.size, 0, none⟩ rfl (loadV (by go_simp) (by go_simp) (by go_simp))) rfl ⟨rfl, by repeat (first | (with_reducible exact Below.refl _ _) | (with_reducible refine Below.drew ?_) | (with_reducible refine Below.alloc ?_ ?hh _; case hh => first | (simp; done) | (simp; omega) | omega) | (with_reducible refine Below.setCell ?_ ?hh _; case hh => first | (simp; done) | (simp; omega) | omega) | refine bstep (by assumption) (by first | (simp; done) | (simp; omega) | omega) ?_)⟩
  · go_enter Tryd.func16, Tryd.ntmps16
    go_wp2_with fail
    refine bodyPost_ret (results_c rfl _ _ _ _ ⟨w.heap.size, 0, none⟩ rfl (loadV (by go_simp) (by go_simp) (by go_simp))) rfl ⟨rfl, by repeat (first | (with_reducible exact Below.refl _ _) | (with_reducible refine Below.drew ?_) | (with_reducible refine Below.alloc ?_ ?hh _; case hh => first | (simp; done) | (simp; omega) | omega) | (with_reducible refine Below.setCell ?_ ?hh _; case hh => first | (simp; done) | (simp; omega) | omega) | refine bstep (by assumption) (by first | (simp; done) | (simp; omega) | omega) ?_)⟩
set_option maxHeartbeats 1000000 in
theorem l01IntV_any (n : Int) (w : World) : Calls Tryd.prog 18 #[.int .i64 n] w fun e w' => e = .returned (.agg #[.int .i64 1, .int .i64 n, .string ⟨#[]⟩]) ∧ Below w.heap.size w w' := by
  go_enter Tryd.func18, Tryd.ntmps18
  go_wp2_with fail
  refine bodyPost_ret (results_c rfl _ _ _ _ ⟨w.heap.size, 0, none⟩ rfl (loadV (by go_simp) (by go_simp) (by go_simp))) rfl ⟨rfl, by repeat (first | (with_reducible exact Below.refl _ _) | (with_reducible refine Below.drew ?_) | (with_reducible refine Below.alloc ?_ ?hh _; case hh => first | (simp; done) | (simp; omega) | omega) | (with_reducible refine Below.setCell ?_ ?hh _; case hh => first | (simp; done) | (simp; omega) | omega) | refine bstep (by assumption) (by first | (simp; done) | (simp; omega) | omega) ?_)⟩
set_option maxHeartbeats 4000000 in
set_option maxRecDepth 100000 in
theorem l12Value_any (s : ByteArray) (w : World) (hs : s.size ≤ 1048576) :
    Calls Tryd.prog 10 #[.string s] w fun e w' => ValOut (valV s.data.toList) w e w' := by
  obtain ⟨o, HO⟩ : ∃ o, Hid (valV s.data.toList = o) := ⟨_, rfl⟩
  rw [HO.out]
  by_cases hN : s.data.toList = [110, 117, 108, 108]
  · have h1 : (s.toList == [110, 117, 108, 108]) = true := by rw [tl, hN]; decide
    have hv : Hid (o = some ⟨0, 0, ⟨#[]⟩⟩) := by show _ = _; rw [← HO.out, hN]; rfl
    clear hN HO
    go_enter Tryd.func10, Tryd.ntmps10
    go_wp2_with fail
    refine bodyPost_ret (results_ct rfl _ _ _ _ ⟨w.heap.size, 0, none⟩ rfl (loadV (by go_simp) (by go_simp) (by go_simp))) rfl (ValOut.yes hv.out rfl (by repeat (first | (with_reducible exact Below.refl _ _) | (with_reducible refine Below.drew ?_) | (with_reducible refine Below.alloc ?_ ?hh _; case hh => first | (simp; done) | (simp; omega) | omega) | (with_reducible refine Below.setCell ?_ ?hh _; case hh => first | (simp; done) | (simp; omega) | omega) | refine bstep (by assumption) (by first | (simp; done) | (simp; omega) | omega) ?_)))
  have h1 : (s.toList == [110, 117, 108, 108]) = false := by rw [tl, beq_eq_false_iff_ne]; exact hN
  by_cases hT : s.data.toList = [116, 114, 117, 101]
  · have h2 : (s.toList == [116, 114, 117, 101]) = true := by rw [tl, hT]; decide
    have hv : Hid (o = some ⟨2, 1, ⟨#[]⟩⟩) := by show _ = _; rw [← HO.out, hT]; rfl
    clear hN hT HO
    go_enter Tryd.func10, Tryd.ntmps10
    go_wp2_with (first | (go_at_call 16; refine Calls.mono (l01BoolV_any true _) ?_; rintro r w1 ⟨rfl, hb1⟩; have hR1 : w1.heap[w.heap.size]? = some (.cells #[.int .i64 0, .int .i64 0, .string ⟨#[]⟩] 30 (0, 0)) := (hb1.block _ (by simp)).trans (heap_alloc_new w _); obtain ⟨r0, r1, r2, rf⟩ := cells3 hR1; have HR : Hid (w1.heap[w.heap.size]? = some (.cells #[.int .i64 0, .int .i64 0, .string ⟨#[]⟩] 30 (0, 0))) := hR1; have hbw : Below w.heap.size w w1 := (by repeat (first | (with_reducible exact Below.refl _ _) | (with_reducible refine Below.drew ?_) | (with_reducible refine Below.alloc ?_ ?hh _; case hh => first | (simp; done) | (simp; omega) | omega) | (with_reducible refine Below.setCell ?_ ?hh _; case hh => first | (simp; done) | (simp; omega) | omega) | refine bstep (by assumption) (by first | (simp; done) | (simp; omega) | omega) ?_)); clear hb1 hR1) | fail)
    obtain ⟨c0, c1, c2, c3⟩ := three_out hbw (Nat.le_refl _) HR.out (.int .i64 2) (.int .i64 1) (.string ⟨#[]⟩)
    clear r0 r1 r2 rf HR
    generalize ((w1.setCell ⟨w.heap.size, 0, none⟩ (.int .i64 2)).setCell ⟨w.heap.size, 1, none⟩ (.int .i64 1)).setCell ⟨w.heap.size, 2, none⟩ (.string ⟨#[]⟩) = wF at c0 c1 c2 c3 ⊢
    refine bodyPost_ret (results_ct rfl _ _ _ _ ⟨w.heap.size, 0, none⟩ rfl (loadV c0 c1 c2)) rfl (ValOut.yes hv.out rfl c3)
  have h2 : (s.toList == [116, 114, 117, 101]) = false := by rw [tl, beq_eq_false_iff_ne]; exact hT
  by_cases hF : s.data.toList = [102, 97, 108, 115, 101]
  · have h3 : (s.toList == [102, 97, 108, 115, 101]) = true := by rw [tl, hF]; decide
    have hv : Hid (o = some ⟨2, 0, ⟨#[]⟩⟩) := by show _ = _; rw [← HO.out, hF]; rfl
    clear hN hT hF HO
    go_enter Tryd.func10, Tryd.ntmps10
    go_wp2_with (first | (go_at_call 16; refine Calls.mono (l01BoolV_any false _) ?_; rintro r w1 ⟨rfl, hb1⟩; have hR1 : w1.heap[w.heap.size]? = some (.cells #[.int .i64 0, .int .i64 0, .string ⟨#[]⟩] 30 (0, 0)) := (hb1.block _ (by simp)).trans (heap_alloc_new w _); obtain ⟨r0, r1, r2, rf⟩ := cells3 hR1; have HR : Hid (w1.heap[w.heap.size]? = some (.cells #[.int .i64 0, .int .i64 0, .string ⟨#[]⟩] 30 (0, 0))) := hR1; have hbw : Below w.heap.size w w1 := (by repeat (first | (with_reducible exact Below.refl _ _) | (with_reducible refine Below.drew ?_) | (with_reducible refine Below.alloc ?_ ?hh _; case hh => first | (simp; done) | (simp; omega) | omega) | (with_reducible refine Below.setCell ?_ ?hh _; case hh => first | (simp; done) | (simp; omega) | omega) | refine bstep (by assumption) (by first | (simp; done) | (simp; omega) | omega) ?_)); clear hb1 hR1) | fail)
    obtain ⟨c0, c1, c2, c3⟩ := three_out hbw (Nat.le_refl _) HR.out (.int .i64 2) (.int .i64 0) (.string ⟨#[]⟩)
    clear r0 r1 r2 rf HR
    generalize ((w1.setCell ⟨w.heap.size, 0, none⟩ (.int .i64 2)).setCell ⟨w.heap.size, 1, none⟩ (.int .i64 0)).setCell ⟨w.heap.size, 2, none⟩ (.string ⟨#[]⟩) = wF at c0 c1 c2 c3 ⊢
    refine bodyPost_ret (results_ct rfl _ _ _ _ ⟨w.heap.size, 0, none⟩ rfl (loadV c0 c1 c2)) rfl (ValOut.yes hv.out rfl c3)
  have h3 : (s.toList == [102, 97, 108, 115, 101]) = false := by rw [tl, beq_eq_false_iff_ne]; exact hF
  by_cases h39 : ∃ h : 0 < s.size, s[0] = 39
  · obtain ⟨hpos, h39⟩ := h39
    have hposI : (0 : Int) < s.size := by omega
    have hc : ((s[0].toNat : Int) == 39) = true := by rw [h39]; rfl
    have hd : s.data.toList = 39 :: s.data.toList.drop 1 := by have := drop_at s 0 hpos; rw [h39] at this; simpa using this
    have hQ := fun wz => l08Quoted_any s 0 (s.data.toList.drop (0 + 1)) wz rfl hs (Nat.zero_le _)
    rw [Nat.zero_add] at hQ
    cases hq : qtx (s.data.toList.drop 1) with
    | none =>
      have e1 : qE s.size (s.data.toList.drop 1) = -1 := by unfold qE; rw [hq]
      have hv : Hid (o = none) := by show _ = _; rw [← HO.out, hd]; unfold valV; dsimp only; rw [if_pos rfl, hq]
      rw [e1] at hQ
      generalize qT (s.data.toList.drop 1) = T at hQ
      have hne : ((-1 : Int) == (s.size : Int)) = false := by rw [beq_eq_false_iff_ne]; omega
      clear hq hd e1 h39 HO hN hT hF
      go_enter Tryd.func10, Tryd.ntmps10
      go_wp2_with (first | (go_at_call 15; refine Calls.mono (hQ _) ?_; rintro r w1 ⟨rfl, hb1⟩; have hR1 : w1.heap[w.heap.size]? = some (.cells #[.int .i64 0, .int .i64 0, .string ⟨#[]⟩] 30 (0, 0)) := (hb1.block _ (by simp)).trans (heap_alloc_new w _); obtain ⟨r0, r1, r2, rf⟩ := cells3 hR1; have HR : Hid (w1.heap[w.heap.size]? = some (.cells #[.int .i64 0, .int .i64 0, .string ⟨#[]⟩] 30 (0, 0))) := hR1; have hbw : Below w.heap.size w w1 := (by repeat (first | (with_reducible exact Below.refl _ _) | (with_reducible refine Below.drew ?_) | (with_reducible refine Below.alloc ?_ ?hh _; case hh => first | (simp; done) | (simp; omega) | omega) | (with_reducible refine Below.setCell ?_ ?hh _; case hh => first | (simp; done) | (simp; omega) | omega) | refine bstep (by assumption) (by first | (simp; done) | (simp; omega) | omega) ?_)); clear hb1 hR1) | fail)
      obtain ⟨c0, c1, c2, c3⟩ := three_out hbw (Nat.le_refl _) HR.out (.int .i64 3) (.int .i64 0) (.string T)
      clear r0 r1 r2 rf HR
      generalize ((w1.setCell ⟨w.heap.size, 0, none⟩ (.int .i64 3)).setCell ⟨w.heap.size, 1, none⟩ (.int .i64 0)).setCell ⟨w.heap.size, 2, none⟩ (.string T) = wF at c0 c1 c2 c3 ⊢
      refine bodyPost_ret (results_ct rfl _ _ _ _ ⟨w.heap.size, 0, none⟩ rfl (loadV c0 c1 c2)) rfl (ValOut.no (v := ⟨3, 0, T⟩) hv.out rfl c3)
    | some p =>
      have hp := (qtx_len (t := p.1) (r := p.2) hq).1
      have hpz : (s.data.toList.drop 1).length + 1 = s.size := by simp; omega
      have e1 : qE s.size (s.data.toList.drop 1) = ((s.size - p.2.length : Nat) : Int) := by unfold qE; rw [hq]
      have e2 : qT (s.data.toList.drop 1) = bs p.1 := by unfold qT; rw [hq]
      have hO : o = if p.2 = [] ∧ p.1.length ≤ 100 then some ⟨3, 0, bs p.1⟩ else none := by rw [← HO.out, hd]; unfold valV; dsimp only; rw [if_pos rfl, hq]
      rw [e1, e2] at hQ
      have hsz : (bs p.1).size = p.1.length := bs_size p.1
      by_cases hz : p.2 = []
      · have hq0 : ((s.size - p.2.length : Nat) : Int) = (s.size : Int) := by rw [hz]; simp
        rw [hq0] at hQ
        by_cases h100 : p.1.length ≤ 100
        · have hv : Hid (o = some ⟨3, 0, bs p.1⟩) := by show _ = _; rw [hO, if_pos ⟨hz, h100⟩]
          have hle : ((bs p.1).size : Int) ≤ 100 := by omega
          generalize bs p.1 = T at *
          clear hq hd e1 e2 h39 HO hN hT hF hO hp hpz hq0 hz h100 hsz
          go_enter Tryd.func10, Tryd.ntmps10
          go_wp2_with (first | (go_at_call 15; refine Calls.mono (hQ _) ?_; rintro r w1 ⟨rfl, hb1⟩; have hR1 : w1.heap[w.heap.size]? = some (.cells #[.int .i64 0, .int .i64 0, .string ⟨#[]⟩] 30 (0, 0)) := (hb1.block _ (by simp)).trans (heap_alloc_new w _); obtain ⟨r0, r1, r2, rf⟩ := cells3 hR1; have HR : Hid (w1.heap[w.heap.size]? = some (.cells #[.int .i64 0, .int .i64 0, .string ⟨#[]⟩] 30 (0, 0))) := hR1; have hbw : Below w.heap.size w w1 := (by repeat (first | (with_reducible exact Below.refl _ _) | (with_reducible refine Below.drew ?_) | (with_reducible refine Below.alloc ?_ ?hh _; case hh => first | (simp; done) | (simp; omega) | omega) | (with_reducible refine Below.setCell ?_ ?hh _; case hh => first | (simp; done) | (simp; omega) | omega) | refine bstep (by assumption) (by first | (simp; done) | (simp; omega) | omega) ?_)); clear hb1 hR1) | fail)
          obtain ⟨c0, c1, c2, c3⟩ := three_out hbw (Nat.le_refl _) HR.out (.int .i64 3) (.int .i64 0) (.string T)
          clear r0 r1 r2 rf HR
          generalize ((w1.setCell ⟨w.heap.size, 0, none⟩ (.int .i64 3)).setCell ⟨w.heap.size, 1, none⟩ (.int .i64 0)).setCell ⟨w.heap.size, 2, none⟩ (.string T) = wF at c0 c1 c2 c3 ⊢
          refine bodyPost_ret (results_ct rfl _ _ _ _ ⟨w.heap.size, 0, none⟩ rfl (loadV c0 c1 c2)) rfl (ValOut.yes (v := ⟨3, 0, T⟩) hv.out rfl c3)
        · have hv : Hid (o = none) := by show _ = _; rw [hO, if_neg (fun h => h100 h.2)]
          have hle : decide (((bs p.1).size : Int) ≤ 100) = false := by simp; omega
          generalize bs p.1 = T at *
          clear hq hd e1 e2 h39 HO hN hT hF hO hp hpz hq0 hz h100 hsz
          go_enter Tryd.func10, Tryd.ntmps10
          go_wp2_with (first | (go_at_call 15; refine Calls.mono (hQ _) ?_; rintro r w1 ⟨rfl, hb1⟩; have hR1 : w1.heap[w.heap.size]? = some (.cells #[.int .i64 0, .int .i64 0, .string ⟨#[]⟩] 30 (0, 0)) := (hb1.block _ (by simp)).trans (heap_alloc_new w _); obtain ⟨r0, r1, r2, rf⟩ := cells3 hR1; have HR : Hid (w1.heap[w.heap.size]? = some (.cells #[.int .i64 0, .int .i64 0, .string ⟨#[]⟩] 30 (0, 0))) := hR1; have hbw : Below w.heap.size w w1 := (by repeat (first | (with_reducible exact Below.refl _ _) | (with_reducible refine Below.drew ?_) | (with_reducible refine Below.alloc ?_ ?hh _; case hh => first | (simp; done) | (simp; omega) | omega) | (with_reducible refine Below.setCell ?_ ?hh _; case hh => first | (simp; done) | (simp; omega) | omega) | refine bstep (by assumption) (by first | (simp; done) | (simp; omega) | omega) ?_)); clear hb1 hR1) | fail)
          obtain ⟨c0, c1, c2, c3⟩ := three_out hbw (Nat.le_refl _) HR.out (.int .i64 3) (.int .i64 0) (.string T)
          clear r0 r1 r2 rf HR
          generalize ((w1.setCell ⟨w.heap.size, 0, none⟩ (.int .i64 3)).setCell ⟨w.heap.size, 1, none⟩ (.int .i64 0)).setCell ⟨w.heap.size, 2, none⟩ (.string T) = wF at c0 c1 c2 c3 ⊢
          refine bodyPost_ret (results_ct rfl _ _ _ _ ⟨w.heap.size, 0, none⟩ rfl (loadV c0 c1 c2)) rfl (ValOut.no (v := ⟨3, 0, T⟩) hv.out rfl c3)
      · have hv : Hid (o = none) := by show _ = _; rw [hO, if_neg (fun h => hz h.1)]
        have hpos2 : 0 < p.2.length := List.length_pos_iff.2 hz
        have hne : (((s.size - p.2.length : Nat) : Int) == (s.size : Int)) = false := by rw [beq_eq_false_iff_ne]; omega
        generalize s.size - p.2.length = E at *
        generalize bs p.1 = T at *
        clear hq hd e1 e2 h39 HO hN hT hF hO hp hpz hz hsz hpos2
        go_enter Tryd.func10, Tryd.ntmps10
        go_wp2_with (first | (go_at_call 15; refine Calls.mono (hQ _) ?_; rintro r w1 ⟨rfl, hb1⟩; have hR1 : w1.heap[w.heap.size]? = some (.cells #[.int .i64 0, .int .i64 0, .string ⟨#[]⟩] 30 (0, 0)) := (hb1.block _ (by simp)).trans (heap_alloc_new w _); obtain ⟨r0, r1, r2, rf⟩ := cells3 hR1; have HR : Hid (w1.heap[w.heap.size]? = some (.cells #[.int .i64 0, .int .i64 0, .string ⟨#[]⟩] 30 (0, 0))) := hR1; have hbw : Below w.heap.size w w1 := (by repeat (first | (with_reducible exact Below.refl _ _) | (with_reducible refine Below.drew ?_) | (with_reducible refine Below.alloc ?_ ?hh _; case hh => first | (simp; done) | (simp; omega) | omega) | (with_reducible refine Below.setCell ?_ ?hh _; case hh => first | (simp; done) | (simp; omega) | omega) | refine bstep (by assumption) (by first | (simp; done) | (simp; omega) | omega) ?_)); clear hb1 hR1) | fail)
        obtain ⟨c0, c1, c2, c3⟩ := three_out hbw (Nat.le_refl _) HR.out (.int .i64 3) (.int .i64 0) (.string T)
        clear r0 r1 r2 rf HR
        generalize ((w1.setCell ⟨w.heap.size, 0, none⟩ (.int .i64 3)).setCell ⟨w.heap.size, 1, none⟩ (.int .i64 0)).setCell ⟨w.heap.size, 2, none⟩ (.string T) = wF at c0 c1 c2 c3 ⊢
        refine bodyPost_ret (results_ct rfl _ _ _ _ ⟨w.heap.size, 0, none⟩ rfl (loadV c0 c1 c2)) rfl (ValOut.no (v := ⟨3, 0, T⟩) hv.out rfl c3)
  · have hv : Hid (o = if okN s.data.toList = true then some ⟨1, valN s.data.toList, ⟨#[]⟩⟩ else none) := by
      show _ = _
      rw [← HO.out, valV_plain (by
        cases hx : s.data.toList with
        | nil => simp
        | cons c b =>
          intro e
          have hpos : 0 < s.size := by have := congrArg List.length hx; simp at this; omega
          have := at_list s 0 hpos
          rw [hx] at this
          simp at this e
          exact h39 ⟨hpos, by rw [← this]; exact e⟩)]
      unfold plainW
      rw [if_neg hN, if_neg hT, if_neg hF]
    have hneg : ∀ h : 0 < s.size, ((s[0].toNat : Int) == 39) = false := by
      intro h
      rw [beq_eq_false_iff_ne]; intro e
      exact h39 ⟨h, (byte_eq (c := s[0]) (n := 39) (by decide)).1 (by rw [beq_iff_eq]; exact e)⟩
    have hNum0 := fun wz => l12Number_any s wz hs
    clear HO hN hT hF h39
    cases hb : okN s.data.toList with
    | true =>
      have hNum : ∀ wz, Calls Tryd.prog 17 #[.string s] wz fun e w' => e = .returned (.tuple #[.int .i64 (valN s.data.toList), .bool true]) ∧ w' = wz := fun wz => (hNum0 wz).mono fun e w' ⟨⟨n, h1, h2⟩, h3⟩ => ⟨by rw [h1, hb, h2 hb], h3⟩
      have hv2 : Hid (o = some ⟨1, valN s.data.toList, ⟨#[]⟩⟩) := by show _ = _; rw [hv.out, if_pos hb]
      generalize valN s.data.toList = n at *
      clear hv hb hNum0
      by_cases hpos : 0 < s.size
      · have hposI : (0 : Int) < s.size := by omega
        have hc := hneg hpos
        clear hneg
        go_enter Tryd.func10, Tryd.ntmps10
        go_wp2_with (first | (go_at_call 17; refine Calls.mono (hNum _) ?_; rintro r w0 ⟨rfl, rfl⟩) | (go_at_call 18; refine Calls.mono (l01IntV_any n _) ?_; rintro r w1 ⟨rfl, hb1⟩; have hR1 : w1.heap[w.heap.size]? = some (.cells #[.int .i64 0, .int .i64 0, .string ⟨#[]⟩] 30 (0, 0)) := (hb1.block _ (by simp)).trans (heap_alloc_new w _); obtain ⟨r0, r1, r2, rf⟩ := cells3 hR1; have HR : Hid (w1.heap[w.heap.size]? = some (.cells #[.int .i64 0, .int .i64 0, .string ⟨#[]⟩] 30 (0, 0))) := hR1; have hbw : Below w.heap.size w w1 := (by repeat (first | (with_reducible exact Below.refl _ _) | (with_reducible refine Below.drew ?_) | (with_reducible refine Below.alloc ?_ ?hh _; case hh => first | (simp; done) | (simp; omega) | omega) | (with_reducible refine Below.setCell ?_ ?hh _; case hh => first | (simp; done) | (simp; omega) | omega) | refine bstep (by assumption) (by first | (simp; done) | (simp; omega) | omega) ?_)); clear hb1 hR1) | fail)
        obtain ⟨c0, c1, c2, c3⟩ := three_out hbw (Nat.le_refl _) HR.out (.int .i64 1) (.int .i64 n) (.string ⟨#[]⟩)
        clear r0 r1 r2 rf HR
        generalize ((w1.setCell ⟨w.heap.size, 0, none⟩ (.int .i64 1)).setCell ⟨w.heap.size, 1, none⟩ (.int .i64 n)).setCell ⟨w.heap.size, 2, none⟩ (.string ⟨#[]⟩) = wF at c0 c1 c2 c3 ⊢
        refine bodyPost_ret (results_ct rfl _ _ _ _ ⟨w.heap.size, 0, none⟩ rfl (loadV c0 c1 c2)) rfl (ValOut.yes hv2.out rfl c3)
      · have hposI : decide ((0 : Int) < s.size) = false := decide_eq_false (by omega)
        clear hneg
        go_enter Tryd.func10, Tryd.ntmps10
        go_wp2_with (first | (go_at_call 17; refine Calls.mono (hNum _) ?_; rintro r w0 ⟨rfl, rfl⟩) | (go_at_call 18; refine Calls.mono (l01IntV_any n _) ?_; rintro r w1 ⟨rfl, hb1⟩; have hR1 : w1.heap[w.heap.size]? = some (.cells #[.int .i64 0, .int .i64 0, .string ⟨#[]⟩] 30 (0, 0)) := (hb1.block _ (by simp)).trans (heap_alloc_new w _); obtain ⟨r0, r1, r2, rf⟩ := cells3 hR1; have HR : Hid (w1.heap[w.heap.size]? = some (.cells #[.int .i64 0, .int .i64 0, .string ⟨#[]⟩] 30 (0, 0))) := hR1; have hbw : Below w.heap.size w w1 := (by repeat (first | (with_reducible exact Below.refl _ _) | (with_reducible refine Below.drew ?_) | (with_reducible refine Below.alloc ?_ ?hh _; case hh => first | (simp; done) | (simp; omega) | omega) | (with_reducible refine Below.setCell ?_ ?hh _; case hh => first | (simp; done) | (simp; omega) | omega) | refine bstep (by assumption) (by first | (simp; done) | (simp; omega) | omega) ?_)); clear hb1 hR1) | fail)
        obtain ⟨c0, c1, c2, c3⟩ := three_out hbw (Nat.le_refl _) HR.out (.int .i64 1) (.int .i64 n) (.string ⟨#[]⟩)
        clear r0 r1 r2 rf HR
        generalize ((w1.setCell ⟨w.heap.size, 0, none⟩ (.int .i64 1)).setCell ⟨w.heap.size, 1, none⟩ (.int .i64 n)).setCell ⟨w.heap.size, 2, none⟩ (.string ⟨#[]⟩) = wF at c0 c1 c2 c3 ⊢
        refine bodyPost_ret (results_ct rfl _ _ _ _ ⟨w.heap.size, 0, none⟩ rfl (loadV c0 c1 c2)) rfl (ValOut.yes hv2.out rfl c3)
    | false =>
      have hNum : ∀ wz, Calls Tryd.prog 17 #[.string s] wz fun e w' => (∃ n : Int, e = .returned (.tuple #[.int .i64 n, .bool false])) ∧ w' = wz := fun wz => (hNum0 wz).mono fun e w' ⟨⟨n, h1, h2⟩, h3⟩ => ⟨⟨n, by rw [h1, hb]⟩, h3⟩
      have hv2 : Hid (o = none) := by show _ = _; rw [hv.out, if_neg (by rw [hb]; decide)]
      clear hv hb hNum0
      by_cases hpos : 0 < s.size
      · have hposI : (0 : Int) < s.size := by omega
        have hc := hneg hpos
        clear hneg
        go_enter Tryd.func10, Tryd.ntmps10
        go_wp2_with (first | (go_at_call 17; refine Calls.mono (hNum _) ?_; rintro r w0 ⟨⟨n, rfl⟩, rfl⟩) | (go_at_call 18; refine Calls.mono (l01IntV_any n _) ?_; rintro r w1 ⟨rfl, hb1⟩; have hR1 : w1.heap[w.heap.size]? = some (.cells #[.int .i64 0, .int .i64 0, .string ⟨#[]⟩] 30 (0, 0)) := (hb1.block _ (by simp)).trans (heap_alloc_new w _); obtain ⟨r0, r1, r2, rf⟩ := cells3 hR1; have HR : Hid (w1.heap[w.heap.size]? = some (.cells #[.int .i64 0, .int .i64 0, .string ⟨#[]⟩] 30 (0, 0))) := hR1; have hbw : Below w.heap.size w w1 := (by repeat (first | (with_reducible exact Below.refl _ _) | (with_reducible refine Below.drew ?_) | (with_reducible refine Below.alloc ?_ ?hh _; case hh => first | (simp; done) | (simp; omega) | omega) | (with_reducible refine Below.setCell ?_ ?hh _; case hh => first | (simp; done) | (simp; omega) | omega) | refine bstep (by assumption) (by first | (simp; done) | (simp; omega) | omega) ?_)); clear hb1 hR1) | fail)
        obtain ⟨c0, c1, c2, c3⟩ := three_out hbw (Nat.le_refl _) HR.out (.int .i64 1) (.int .i64 n) (.string ⟨#[]⟩)
        clear r0 r1 r2 rf HR
        generalize ((w1.setCell ⟨w.heap.size, 0, none⟩ (.int .i64 1)).setCell ⟨w.heap.size, 1, none⟩ (.int .i64 n)).setCell ⟨w.heap.size, 2, none⟩ (.string ⟨#[]⟩) = wF at c0 c1 c2 c3 ⊢
        refine bodyPost_ret (results_ct rfl _ _ _ _ ⟨w.heap.size, 0, none⟩ rfl (loadV c0 c1 c2)) rfl (ValOut.no (v := ⟨1, n, ⟨#[]⟩⟩) hv2.out rfl c3)
      · have hposI : decide ((0 : Int) < s.size) = false := decide_eq_false (by omega)
        clear hneg
        go_enter Tryd.func10, Tryd.ntmps10
        go_wp2_with (first | (go_at_call 17; refine Calls.mono (hNum _) ?_; rintro r w0 ⟨⟨n, rfl⟩, rfl⟩) | (go_at_call 18; refine Calls.mono (l01IntV_any n _) ?_; rintro r w1 ⟨rfl, hb1⟩; have hR1 : w1.heap[w.heap.size]? = some (.cells #[.int .i64 0, .int .i64 0, .string ⟨#[]⟩] 30 (0, 0)) := (hb1.block _ (by simp)).trans (heap_alloc_new w _); obtain ⟨r0, r1, r2, rf⟩ := cells3 hR1; have HR : Hid (w1.heap[w.heap.size]? = some (.cells #[.int .i64 0, .int .i64 0, .string ⟨#[]⟩] 30 (0, 0))) := hR1; have hbw : Below w.heap.size w w1 := (by repeat (first | (with_reducible exact Below.refl _ _) | (with_reducible refine Below.drew ?_) | (with_reducible refine Below.alloc ?_ ?hh _; case hh => first | (simp; done) | (simp; omega) | omega) | (with_reducible refine Below.setCell ?_ ?hh _; case hh => first | (simp; done) | (simp; omega) | omega) | refine bstep (by assumption) (by first | (simp; done) | (simp; omega) | omega) ?_)); clear hb1 hR1) | fail)
        obtain ⟨c0, c1, c2, c3⟩ := three_out hbw (Nat.le_refl _) HR.out (.int .i64 1) (.int .i64 n) (.string ⟨#[]⟩)
        clear r0 r1 r2 rf HR
        generalize ((w1.setCell ⟨w.heap.size, 0, none⟩ (.int .i64 1)).setCell ⟨w.heap.size, 1, none⟩ (.int .i64 n)).setCell ⟨w.heap.size, 2, none⟩ (.string ⟨#[]⟩) = wF at c0 c1 c2 c3 ⊢
        refine bodyPost_ret (results_ct rfl _ _ _ _ ⟨w.heap.size, 0, none⟩ rfl (loadV c0 c1 c2)) rfl (ValOut.no (v := ⟨1, n, ⟨#[]⟩⟩) hv2.out rfl c3)
end Go.Proofs.YtbobjfokampjbaaDoor
