/- Own text. The contract of impl.Touches. -/
import Derived.Test.YtnbcmkbkiebbdaaTcS
import Derived.Test.YtnbcmkbkiebbdaaNmI
import Derived.Handy
namespace Go.Proofs.Ytnbcmkbkiebbdaa
open Go.RowKit Go.Deep Go.ChangeShapes Go.WideShapes
set_option linter.unusedVariables false
theorem containsS_has (L : List ByteArray) (x : ByteArray) : Lib.containsS L x = hasS L x := by
  rw [Bool.eq_iff_iff, Lib.containsS_iff]
  unfold hasS
  rw [List.any_eq_true]
  constructor
  · exact fun h => ⟨x, h, by simp⟩
  · rintro ⟨y, hy, e⟩
    have e' : y = x := bytes_same (by simpa using e)
    rw [← e']
    exact hy
/-- slices.Contains of texts. -/
theorem contains_any (v : Value) (L : List ByteArray) (g : List Nat) (x : ByteArray) (w : World) (h : StrsF w v L g) :
    Calls Try.prog 128 #[v, .string x] w fun e w' => e = .returned (.bool (hasS L x)) ∧ w' = w := by
  obtain ⟨a, c, rfl, hl, hc, h0, h1⟩ := h
  unfold maxLen at hc
  by_cases hne : L = []
  · subst hne
    exact Try.slices_Contains_string_empty a c x w
  · obtain ⟨b, o, rfl, hlt, rfl, hcell⟩ := h1 hne
    have := Try.slices_Contains_string b o L.length c L x w (Nat.le_refl _) (by omega) fun j hj => by
      rw [hcell j L[j] (by simp)]
      simp [List.getD_eq_getElem?_getD, hj]
    rw [List.take_length, containsS_has] at this
    exact this
set_option maxHeartbeats 4000000 in
set_option maxRecDepth 100000 in
theorem touchesFn_any (L : List ByteArray) (g : List Nat) (nb : Nat) (v u : Value) (x : R3) (w : World) (hv : w.cell? ⟨nb, 0, none⟩ = some v) (hnb : nb < w.heap.size) (hS : StrsF w v L g) (hR : RowsIs w u x.cs) :
    Calls Try.prog 127 #[.agg #[.string x.s, .int .i64 x.W, u], .pointer (some ⟨nb, 0, none⟩)] w fun e w' => e = .returned (.bool (decide (0 < x.cs.length) && hasS L x.s)) ∧ Below w.heap.size w w' := by
  obtain ⟨ax, cx, bx, ox, rfl, hlx, hcx, _⟩ := hR.pick
  unfold maxLen at hcx
  have hSb : StrsF (w.alloc (.cells #[.string x.s, .int .i64 x.W, .slice ax x.cs.length cx] 148)) v L g := hS.below ((Below.refl _ _).alloc (Nat.le_refl _) _)
  have hcon := contains_any v L g x.s _ hSb
  clear hS hR hSb
  by_cases hpos : 0 < x.cs.length
  · have hpI : (0 : Int) < x.cs.length := by omega
    have HP : Hid (decide (0 < x.cs.length) = true) := decide_eq_true hpos
    go_enter Try.func127, Try.ntmps127
    go_wp2_with (first | (go_at_call 128; refine Calls.mono hcon ?_; rintro q w2 ⟨rfl, rfl⟩) | fail)
    go_returns
    exact ⟨ret_bool (by first | rfl | (rw [HP.out]; rfl)), by repeat (first | (with_reducible exact Below.refl _ _) | (with_reducible refine Below.drew ?_) | (with_reducible refine Below.alloc ?_ ?hh _; case hh => first | (simp; done) | (simp; omega) | omega) | (with_reducible refine Below.setCell ?_ ?hh _; case hh => first | (simp; done) | (simp; omega) | omega) | refine bstep (by assumption) (by first | (simp; done) | (simp; omega) | omega) ?_)⟩
  · have hpI : ¬ (0 : Int) < x.cs.length := by omega
    have HP : Hid (decide (0 < x.cs.length) = false) := decide_eq_false hpos
    clear hcon
    go_enter Try.func127, Try.ntmps127
    go_wp2_with fail
    go_returns
    exact ⟨ret_bool (by first | rfl | (rw [HP.out]; rfl)), by repeat (first | (with_reducible exact Below.refl _ _) | (with_reducible refine Below.drew ?_) | (with_reducible refine Below.alloc ?_ ?hh _; case hh => first | (simp; done) | (simp; omega) | omega) | (with_reducible refine Below.setCell ?_ ?hh _; case hh => first | (simp; done) | (simp; omega) | omega) | refine bstep (by assumption) (by first | (simp; done) | (simp; omega) | omega) ?_)⟩
set_option maxHeartbeats 4000000 in
set_option maxRecDepth 100000 in
theorem indexFnR_any (L : List ByteArray) (g : List Nat) (nb : Nat) (nv v : Value) (rs : List R3) (w : World) (hv : w.cell? ⟨nb, 0, none⟩ = some nv) (hnb : nb < w.heap.size) (hS : StrsF w nv L g) (hr : RelsIs w v rs) :
    Calls Try.prog 119 #[v, .func (.func 127) #[] #[.pointer (some ⟨nb, 0, none⟩)]] w fun e w' => (∃ z : Int, e = .returned (.int .i64 z) ∧ decide (0 ≤ z) = touchB L rs) ∧ Below w.heap.size w w' := by
  obtain ⟨a, c, b, o, rfl, hl, hc, ha⟩ := hr.pick
  unfold maxLen at hc
  clear hr
  go_enter Try.func119, Try.ntmps119
  go_wp2
  go_loopw [8] (fun i wr => ∃ k : Nat, k ≤ rs.length ∧ i = .int .i64 k ∧ Below w.heap.size w wr ∧ touchB L rs = touchB L (rs.drop k)) (fun i _ => rs.length - (intOf i).toNat)
  case atStart => exact ⟨0, Nat.zero_le _, rfl, by repeat (first | (with_reducible exact Below.refl _ _) | (with_reducible refine Below.drew ?_) | (with_reducible refine Below.alloc ?_ ?hh _; case hh => first | (simp; done) | (simp; omega) | omega) | (with_reducible refine Below.setCell ?_ ?hh _; case hh => first | (simp; done) | (simp; omega) | omega) | refine bstep (by assumption) (by first | (simp; done) | (simp; omega) | omega) ?_), by simp⟩
  case round =>
    obtain ⟨k, hk, rfl, hb, heq⟩ := hrel
    have HE : Hid (touchB L rs = touchB L (rs.drop k)) := heq
    have hzb := hb.size
    have hvr := ((bcell hb).1 _ _ hnb).trans hv
    have hSr := hS.below hb
    clear heq
    by_cases hlt : k < rs.length
    · obtain ⟨rfl, hblt, hLr⟩ := ha k hlt
      obtain ⟨x, u, hx, c0, c1, c2, hR, hbr⟩ := hLr.at hblt hb hlt
      have HS : Hid (touchB L (rs.drop k) = (decide (0 < x.cs.length) && hasS L x.s || touchB L (rs.drop (k + 1)))) := touchB_step hx
      have hcall := touchesFn_any L g nb nv u x wr hvr (by omega) hSr hR
      obtain ⟨au, cu, bu, ou, rfl, _, _, _⟩ := hR.pick
      clear ha hLr hx hR hS hSr hvr
      cases hh : (decide (0 < x.cs.length) && hasS L x.s) with
      | true =>
        rw [hh] at hcall
        have HH : Hid ((decide (0 < x.cs.length) && hasS L x.s) = true) := hh
        clear hh
        go_wp2_with fail
        refine Calls.mono hcall ?_
        rintro q w2 ⟨rfl, hb2⟩
        have belE : Below w.heap.size w w2 := hb.trans (hb2.mono hzb)
        clear hcall
        go_wp2_with fail
        go_returns
        exact ⟨⟨k, rfl, by rw [HE.out, HS.out, HH.out]; simp⟩, belE⟩
      | false =>
        rw [hh] at hcall
        have HH : Hid ((decide (0 < x.cs.length) && hasS L x.s) = false) := hh
        clear hh
        go_wp2_with fail
        refine Calls.mono hcall ?_
        rintro q w2 ⟨rfl, hb2⟩
        have belE : Below w.heap.size w w2 := hb.trans (hb2.mono hzb)
        clear hcall
        go_wp2_with fail
        exact ⟨⟨k + 1, hlt, by simp, belE, by rw [HE.out, HS.out, HH.out]; rfl⟩, by simp [intOf]; omega⟩
    · obtain rfl : k = rs.length := by omega
      have HT : Hid (touchB L rs = false) := by show _ = _; rw [HE.out, List.drop_length]; rfl
      clear ha
      go_wp2
      go_returns
      exact ⟨⟨-1, rfl, by rw [HT.out]; rfl⟩, hb⟩
set_option maxHeartbeats 4000000 in
set_option maxRecDepth 100000 in
theorem implTouches_any (D d N : Nat) (v : Value) (rs : List R3) (p : P12) (ue us u : Value) (F : List Nat) (w : World) (hr : RelsIs w v rs) (hL0 : ListsP w D (PlansIs w D d) p ue us u F) (ho : Own w N F) (hn : wtP p ≤ 1048576) :
    Calls Try.prog 66 #[v, (.agg #[.int .i64 p.k, .string p.s, .int .i64 p.e.k, .int .i64 p.e.n, .int .i64 p.e.v.k, .int .i64 p.e.v.n, .string p.e.v.s, .string p.e.p, ue, us, .int .i64 p.n, u])] w fun e w' => e = .returned (.bool (touchB (namL d p) rs)) ∧ Below w.heap.size w w' := by
  obtain ⟨ae, ce, ak, ck, ap, cp, rfl, rfl, rfl, _, _, _, _, _, _⟩ := hL0.shape
  obtain ⟨L, hL⟩ : ∃ L, Hid (namL d p = L) := ⟨_, rfl⟩
  rw [hL.out]
  obtain ⟨av, lv, cv, rfl⟩ := hr.shape
  have hblt := hL0.lt
  go_enter Try.func66, Try.ntmps66
  go_wp2_with fail
  refine Calls.mono (implNames_any D d N p _ _ _ F _ (hL0.below ?hb) (ho.below hblt ?hb2) hn) ?_
  case hb => repeat (first | (with_reducible exact Below.refl _ _) | (with_reducible refine Below.drew ?_) | (with_reducible refine Below.alloc ?_ ?hh _; case hh => first | (simp; done) | (simp; omega) | omega) | (with_reducible refine Below.setCell ?_ ?hh _; case hh => first | (simp; done) | (simp; omega) | omega) | refine bstep (by assumption) (by first | (simp; done) | (simp; omega) | omega) ?_)
  case hb2 => repeat (first | (with_reducible exact Below.refl _ _) | (with_reducible refine Below.drew ?_) | (with_reducible refine Below.alloc ?_ ?hh _; case hh => first | (simp; done) | (simp; omega) | omega) | (with_reducible refine Below.setCell ?_ ?hh _; case hh => first | (simp; done) | (simp; omega) | omega) | refine bstep (by assumption) (by first | (simp; done) | (simp; omega) | omega) ?_)
  rintro q w1 ⟨⟨v1, g1, rfl, hS, _⟩, hb1⟩
  rw [hL.out] at hS
  have hz1 := hb1.size
  simp only [World.size_alloc] at hz1
  obtain ⟨a1, c1, hv1, _⟩ := id hS
  subst hv1
  have bel1 : Below w.heap.size w w1 := by repeat (first | (with_reducible exact Below.refl _ _) | (with_reducible refine Below.drew ?_) | (with_reducible refine Below.alloc ?_ ?hh _; case hh => first | (simp; done) | (simp; omega) | omega) | (with_reducible refine Below.setCell ?_ ?hh _; case hh => first | (simp; done) | (simp; omega) | omega) | refine bstep (by assumption) (by first | (simp; done) | (simp; omega) | omega) ?_)
  have hb2 : Below w1.heap.size w1 (w1.alloc (.cells #[.slice a1 L.length c1] 73)) := (Below.refl _ _).alloc (Nat.le_refl _) _
  have hS2 := hS.below hb2
  have hr2 : RelsIs (w1.alloc (.cells #[.slice a1 L.length c1] 73)) (.slice av lv cv) rs := (hr.below bel1).below hb2
  have hv2 : (w1.alloc (.cells #[.slice a1 L.length c1] 73)).cell? ⟨w1.heap.size, 0, none⟩ = some (.slice a1 L.length c1) := by go_simp
  have hcall := indexFnR_any L g1 w1.heap.size (.slice a1 L.length c1) (.slice av lv cv) rs _ hv2 (by simp) hS2 hr2
  have hz2 : (w1.alloc (.cells #[.slice a1 L.length c1] 73)).heap.size = w1.heap.size + 1 := by simp
  have bel2 : Below w.heap.size w (w1.alloc (.cells #[.slice a1 L.length c1] 73)) := bel1.trans (hb2.mono bel1.size)
  have hcon : Calls Try.prog 126 #[.slice av lv cv, .func (.func 127) #[] #[.pointer (some ⟨w1.heap.size, 0, none⟩)]] (w1.alloc (.cells #[.slice a1 L.length c1] 73)) fun e w' => e = .returned (.bool (touchB L rs)) ∧ Below w.heap.size w w' := by
    clear hb1 hS hS2 hr hr2 hv2 hL0 ho hblt
    generalize w1.alloc (.cells #[.slice a1 L.length c1] 73) = wB at *
    go_enter Try.func126, Try.ntmps126
    go_wp2_with fail
    refine Calls.mono hcall ?_
    rintro q w3 ⟨⟨z, rfl, hz⟩, hb3⟩
    have HZ : Hid (decide (0 ≤ z) = touchB L rs) := hz
    have belE : Below w.heap.size w w3 := bel2.trans (hb3.mono (by omega))
    clear hz hcall hb3
    go_wp2
    all_goals go_returns
    all_goals exact ⟨ret_bool (by first | (rw [← HZ.out]; done) | (rw [← HZ.out]; simp_all)), belE⟩
  clear hb1 hS hS2 hr hr2 hv2 hL0 ho hblt hcall hb2
  go_wp2_with fail
  refine Calls.mono hcon ?_
  rintro q w3 ⟨rfl, hb3⟩
  clear hcon
  go_wp2
  go_returns
  exact ⟨rfl, hb3⟩
end Go.Proofs.Ytnbcmkbkiebbdaa
