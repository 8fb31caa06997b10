/- Own text. The walk of the statement on Conj. -/
import Derived.Test.YtjblljggmjbalaaCjJ
import Derived.Test.YtjblljggmjbalaaStE
import Derived.Test.YtjblljggmjbalaaTake
import Derived.WalkKit
import Derived.WalkSpells
import Derived.WalkLawsBesides
import Derived.Handy
import Derived.Below
import Derived.Deep.RegionHeld3
import Derived.Deep.DeepCutAuto
namespace Go.Proofs.Ytjblljggmjbalaa.fnExactConj
open Go.RowKit Go.Deep
set_option linter.unusedVariables false
set_option maxHeartbeats 4000000 in
set_option maxRecDepth 100000 in
theorem walk0 (e : E7) (v : Value) (F : List Nat) (D : Nat) (hw : e.wf) (w : World) (hr : KidsIs w (D + 1) v e.ks F) :
    Calls Try.prog 3 #[(.agg #[.int .i64 e.k, .int .i64 e.n, .int .i64 e.v.k, .int .i64 e.v.n, .string e.v.s, .string e.p, v])] w fun x w' => x = .returned (.bool true) ∧ Below w.heap.size w w' := by
  obtain ⟨a, c, rfl, _, _⟩ := hr.shape
  obtain ⟨L, hL⟩ : ∃ L, Hid (conjL (D + 1) e = L) := ⟨_, rfl⟩
  go_enter Try.func3, Try.ntmps3
  go_wp2_with fail
  refine Calls.mono (szExp_any e (.slice a e.ks.length c) F 1048576 _ hw (hr.below ?hb) (by decide) (by decide)) ?_
  case hb => repeat (first | (with_reducible exact Below.refl _ _) | (with_reducible refine Below.drew ?_) | (with_reducible refine Below.alloc ?_ ?hh _; case hh => first | (simp; done) | (simp; omega) | omega) | (with_reducible refine Below.setCell ?_ ?hh _; case hh => first | (simp; done) | (simp; omega) | omega) | refine bstep (by assumption) (by first | (simp; done) | (simp; omega) | omega) ?_)
  rintro x w1 ⟨⟨z1, rfl, l1, g1, s1⟩, hb1⟩
  have hz1 := hb1.size
  simp only [World.size_alloc] at hz1
  have hA1 : Bx7 w1 w.heap.size e (.slice a e.ks.length c) := by refine ⟨?_, ?_, ?_, ?_, ?_, ?_, ?_⟩ <;> exact cell_later hb1 (by go_simp)
  have bel1 : Below w.heap.size w w1 := by repeat (first | (with_reducible exact Below.refl _ _) | (with_reducible refine Below.drew ?_) | (with_reducible refine Below.alloc ?_ ?hh _; case hh => first | (simp; done) | (simp; omega) | omega) | (with_reducible refine Below.setCell ?_ ?hh _; case hh => first | (simp; done) | (simp; omega) | omega) | refine bstep (by assumption) (by first | (simp; done) | (simp; omega) | omega) ?_)
  have hr1 : KidsIs w1 (D + 1) (.slice a e.ks.length c) e.ks F := hr.below bel1
  have hlA : w.heap.size < w1.heap.size := by omega
  by_cases hn1 : z1 < 0
  · go_wp2_with fail
    go_returns
    exact ⟨rfl, bel1⟩
  have hn : wtE e ≤ 1048576 := by have := s1 (by omega); omega
  have hnL : L.length + wtEs L ≤ 1048577 := by have := conj_wt (D + 1) e; rw [hL.out] at this; unfold wt1 at this; omega
  obtain ⟨p0, p1, p2, p3, p4, p5, p6⟩ := id hA1
  clear s1 hr hb1
  go_wp2_with fail
  refine Calls.mono (toExp_any e (.slice a e.ks.length c) F w1 hr1 hn) ?_
  rintro x w2 ⟨⟨u2, F2, rfl, hU2, _⟩, hb2⟩
  obtain ⟨a2, c2, rfl, _, _⟩ := hU2.shape
  have hz2 := hb2.size
  have hr2 := hr1.below hb2
  have hA2 := hA1.below hlA hb2
  have bel2 : Below w.heap.size w w2 := bel1.trans (hb2.mono bel1.size)
  clear hr1 bel1 hb2 hA1 p0 p1 p2 p3 p4 p5 p6
  go_wp2_with fail
  refine Calls.mono (specConj_any (D + 1) e (.slice a2 e.ks.length c2) F2 w2 hw hU2 hn) ?_
  rintro x w3 ⟨⟨v3, rfl, us3, G3, hO3⟩, hb3⟩
  rw [hL.out] at hO3
  obtain ⟨F3, hS, _⟩ := hO3.kids
  obtain ⟨a3, c3, rfl, _, _⟩ := hS.shape
  have hz3 := hb3.size
  have hr3 := hr2.below hb3
  have hlA2 : w.heap.size < w2.heap.size := by omega
  have hA3 := hA2.below hlA2 hb3
  have hlA3 : w.heap.size < w3.heap.size := by omega
  have bel3 : Below w.heap.size w w3 := bel2.trans (hb3.mono bel2.size)
  obtain ⟨p0, p1, p2, p3, p4, p5, p6⟩ := id hA3
  clear hr2 bel2 hb3 hU2 hO3 hA2
  go_wp2_with fail
  refine Calls.mono (toExp_any e (.slice a e.ks.length c) F w3 hr3 hn) ?_
  rintro x w4 ⟨⟨u4, F4, rfl, hX4, hO4⟩, hb4⟩
  obtain ⟨a4, c4, rfl, _, _⟩ := hX4.shape
  have hz4 := hb4.size
  have bx4 := bx7_new w4 e (.slice a4 e.ks.length c4) 32
  have hb4b : Below w4.heap.size w4 (w4.alloc (.cells #[.int .i64 e.k, .int .i64 e.n, .int .i64 e.v.k, .int .i64 e.v.n, .string e.v.s, .string e.p, .slice a4 e.ks.length c4] 32)) := (Below.refl _ _).alloc (Nat.le_refl _) _
  clear p0 p1 p2 p3 p4 p5 p6
  go_wp2_with fail
  refine Calls.mono (implConj_any D e (.slice a4 e.ks.length c4) F4 _ hw (hX4.below hb4b) ((hO4.below hX4.lt hb4b).dst (hX4.below hb4b)) hn) ?_
  rintro x w5 ⟨⟨v5, rfl, us5, G5, hO5'⟩, hb5⟩
  rw [hL.out] at hO5'
  obtain ⟨F5, hG5, hO5⟩ := hO5'.kids
  obtain ⟨a5, c5, rfl, _, _⟩ := hG5.shape
  have hz5 := hb5.size
  simp only [World.size_alloc] at hz5 hO5
  have hb45 : Below w4.heap.size w4 w5 := hb4b.trans (hb5.mono (by simp))
  have st : StE w3 w5 (D + 1) (D + 1 + 1) (.slice a4 e.ks.length c4) (.slice a5 L.length c5) e.ks L F4 F5 [(w4.heap.size, e, .slice a4 e.ks.length c4), (w.heap.size, e, .slice a e.ks.length c)] := by
    refine ⟨hb4.trans (hb45.mono hz4), hX4.below hb45, hG5, Own.below hO4 hX4.lt hb45, ⟨hO5.1, fun b hb => ⟨by have := (hO5.2 b hb).1; omega, (hO5.2 b hb).2⟩⟩, fun b hb hb' => by have := hX4.lt b hb; have := (hO5.2 b hb').1; omega, fun b e' u hm => ?_⟩
    rcases List.mem_cons.1 hm with hm | hm
    · cases hm
      exact ⟨bx4.keep (hb5.block _ (by simp)), by omega, fun hb => by have := hX4.lt _ hb; omega, fun hb => by have := (hO5.2 _ hb).1; omega⟩
    · rcases List.mem_singleton.1 hm with ⟨⟩
      exact ⟨(hA3.below hlA3 hb4).below (by omega) hb45, by omega, fun hb => by have := (hO4.2 _ hb).1; omega, fun hb => by have := (hO5.2 _ hb).1; omega⟩
  have hyA : w.heap.size < w4.heap.size := by omega
  clear hX4 hO4 hG5 hO5 hO5' hb4 hb5 hb45 hb4b bx4 hA3
  go_wp2_with fail
  refine (eqExpS_any (D + 1 + 1) (.slice a5 L.length c5) (.slice a3 L.length c3) L F5 F3 w5 st.gg (hS.below st.bel)).mono ?_
  rintro x w6 ⟨rfl, hb6⟩
  have st6 := st.below hb6
  clear st hb6
  have hX6 := (st6.bx (w4.heap.size) e (.slice a4 e.ks.length c4) (by simp)).1
  have hlX := (st6.bx (w4.heap.size) e (.slice a4 e.ks.length c4) (by simp)).2.1
  have hA6 := (st6.bx (w.heap.size) e (.slice a e.ks.length c) (by simp)).1
  have hlA6 := (st6.bx (w.heap.size) e (.slice a e.ks.length c) (by simp)).2.1
  have hr6 := hr3.below st6.bel
  have hXX := st6.xx
  go_wp2_with fail
  refine wp_region_held_drew (S := (fun w' => Bx7 w' w4.heap.size e (.slice a4 e.ks.length c4) ∧ Bx7 w' w.heap.size e (.slice a e.ks.length c))) (by kernel_rfl) ?_ (fun hHeld => ?_)
  · exact ⟨hX6.below hlX (by repeat (first | (with_reducible exact Below.refl _ _) | (with_reducible refine Below.drew ?_) | (with_reducible refine Below.alloc ?_ ?hh _; case hh => first | (simp; done) | (simp; omega) | omega) | (with_reducible refine Below.setCell ?_ ?hh _; case hh => first | (simp; done) | (simp; omega) | omega) | refine bstep (by assumption) (by first | (simp; done) | (simp; omega) | omega) ?_)), hA6.below hlA6 (by repeat (first | (with_reducible exact Below.refl _ _) | (with_reducible refine Below.drew ?_) | (with_reducible refine Below.alloc ?_ ?hh _; case hh => first | (simp; done) | (simp; omega) | omega) | (with_reducible refine Below.setCell ?_ ?hh _; case hh => first | (simp; done) | (simp; omega) | omega) | refine bstep (by assumption) (by first | (simp; done) | (simp; omega) | omega) ?_))⟩
  refine takeYes (i := 0) (d := 27) (v := ?_) rfl rfl (by kernel_rfl) (by kernel_rfl) (by kernel_rfl) (fun _ _ _ h => h) (by rfl) (by assumption) ?_ ?_
  rotate_left
  · intro w' hSw; obtain ⟨⟨x0, x1, x2, x3, x4, x5, x6⟩, ⟨y0, y1, y2, y3, y4, y5, y6⟩⟩ := hSw; go_simp; try exact rfl
  try simp only [List.setIfInBounds_toArray, List.set_cons_zero, List.set_cons_succ]
  refine takeYes (i := 1) (d := 28) (v := ?_) rfl rfl (by kernel_rfl) (by kernel_rfl) (by kernel_rfl) (fun _ _ _ h => h) (by rfl) (by assumption) ?_ ?_
  rotate_left
  · intro w' hSw; obtain ⟨⟨x0, x1, x2, x3, x4, x5, x6⟩, ⟨y0, y1, y2, y3, y4, y5, y6⟩⟩ := hSw; go_simp; try exact rfl
  try simp only [List.setIfInBounds_toArray, List.set_cons_zero, List.set_cons_succ]
  refine wpAnyH_ready (rs := [2]) (by kernel_rfl) (by simp) ?_
  refine AllReadyH.cons rfl (fun K hK => ?_) AllReadyH.nil
  go_simp
  go_at_call 6
  refine Calls.mono (toExp_any e (.slice a e.ks.length c) F _ (hr6.below (by repeat (first | (with_reducible exact Below.refl _ _) | (with_reducible refine Below.drew ?_) | (with_reducible refine Below.alloc ?_ ?hh _; case hh => first | (simp; done) | (simp; omega) | omega) | (with_reducible refine Below.setCell ?_ ?hh _; case hh => first | (simp; done) | (simp; omega) | omega) | refine bstep (by assumption) (by first | (simp; done) | (simp; omega) | omega) ?_))) hn) ?_
  rintro x w7 ⟨⟨u7, F7, rfl, hU7, _⟩, hb7⟩
  obtain ⟨a7, n7, rfl, _, _⟩ := hU7.shape
  have hz7 := hb7.size
  (try simp at hz7)
  try go_wp2_with fail
  refine hK.out _ _ ?_ (fun hHeld2 => ?_)
  · exact ⟨hX6.below hlX (by repeat (first | (with_reducible exact Below.refl _ _) | (with_reducible refine Below.drew ?_) | (with_reducible refine Below.alloc ?_ ?hh _; case hh => first | (simp; done) | (simp; omega) | omega) | (with_reducible refine Below.setCell ?_ ?hh _; case hh => first | (simp; done) | (simp; omega) | omega) | refine bstep (by assumption) (by first | (simp; done) | (simp; omega) | omega) ?_)), hA6.below hlA6 (by repeat (first | (with_reducible exact Below.refl _ _) | (with_reducible refine Below.drew ?_) | (with_reducible refine Below.alloc ?_ ?hh _; case hh => first | (simp; done) | (simp; omega) | omega) | (with_reducible refine Below.setCell ?_ ?hh _; case hh => first | (simp; done) | (simp; omega) | omega) | refine bstep (by assumption) (by first | (simp; done) | (simp; omega) | omega) ?_))⟩
  clear hK
  refine wpAnyH_ready (rs := [3]) (by kernel_rfl) (by simp) ?_
  refine AllReadyH.cons rfl (fun K hK => ?_) AllReadyH.nil
  go_simp
  go_at_call 9
  refine Calls.mono (eqExp_same e (.slice a4 e.ks.length c4) (.slice a7 e.ks.length n7) _ _ _ (hXX.below (by repeat (first | (with_reducible exact Below.refl _ _) | (with_reducible refine Below.drew ?_) | (with_reducible refine Below.alloc ?_ ?hh _; case hh => first | (simp; done) | (simp; omega) | omega) | (with_reducible refine Below.setCell ?_ ?hh _; case hh => first | (simp; done) | (simp; omega) | omega) | refine bstep (by assumption) (by first | (simp; done) | (simp; omega) | omega) ?_))) (hU7.below (by repeat (first | (with_reducible exact Below.refl _ _) | (with_reducible refine Below.drew ?_) | (with_reducible refine Below.alloc ?_ ?hh _; case hh => first | (simp; done) | (simp; omega) | omega) | (with_reducible refine Below.setCell ?_ ?hh _; case hh => first | (simp; done) | (simp; omega) | omega) | refine bstep (by assumption) (by first | (simp; done) | (simp; omega) | omega) ?_)))) ?_
  rintro x w8 ⟨rfl, hb8⟩
  have hz8 := hb8.size
  (try simp at hz8)
  try go_wp2_with fail
  refine hK.out _ _ ?_ (fun hHeld3 => ?_)
  · exact ⟨hX6.below hlX (by repeat (first | (with_reducible exact Below.refl _ _) | (with_reducible refine Below.drew ?_) | (with_reducible refine Below.alloc ?_ ?hh _; case hh => first | (simp; done) | (simp; omega) | omega) | (with_reducible refine Below.setCell ?_ ?hh _; case hh => first | (simp; done) | (simp; omega) | omega) | refine bstep (by assumption) (by first | (simp; done) | (simp; omega) | omega) ?_)), hA6.below hlA6 (by repeat (first | (with_reducible exact Below.refl _ _) | (with_reducible refine Below.drew ?_) | (with_reducible refine Below.alloc ?_ ?hh _; case hh => first | (simp; done) | (simp; omega) | omega) | (with_reducible refine Below.setCell ?_ ?hh _; case hh => first | (simp; done) | (simp; omega) | omega) | refine bstep (by assumption) (by first | (simp; done) | (simp; omega) | omega) ?_))⟩
  clear hK
  refine takeYes (i := 4) (d := 31) (v := ?_) rfl rfl (by kernel_rfl) (by kernel_rfl) (by kernel_rfl) (fun _ _ _ h => h) (by rfl) (by assumption) ?_ ?_
  rotate_left
  · intro w' hSw; obtain ⟨⟨x0, x1, x2, x3, x4, x5, x6⟩, ⟨y0, y1, y2, y3, y4, y5, y6⟩⟩ := hSw; go_simp; try exact rfl
  try simp only [List.setIfInBounds_toArray, List.set_cons_zero, List.set_cons_succ]
  refine wpAnyH_done (by kernel_rfl) ?_ _
  have hb68 : Below w6.heap.size w6 w8 := by repeat (first | (with_reducible exact Below.refl _ _) | (with_reducible refine Below.drew ?_) | (with_reducible refine Below.alloc ?_ ?hh _; case hh => first | (simp; done) | (simp; omega) | omega) | (with_reducible refine Below.setCell ?_ ?hh _; case hh => first | (simp; done) | (simp; omega) | omega) | refine bstep (by assumption) (by first | (simp; done) | (simp; omega) | omega) ?_)
  have st8 := st6.below hb68
  clear hHeld hHeld2 hHeld3 hb7 hb8 hU7 hb68 st6 hX6 hA6 hlX hlA6 hr6 hXX
  obtain ⟨⟨t0, t1, t2, t3, t4, t5, t6⟩, hlt, _, _⟩ := st8.bx (w4.heap.size) e (.slice a4 e.ks.length c4) (by simp)
  have hnx := nK_le (D + 1) e.ks
  have hwe := wtE_eq e
  go_wp2_with fail
  refine Calls.mono (markExp_any (D + 1) 1 e (.slice a4 e.ks.length c4) F4 w8 st8.xx st8.o4.1 st8.fx (by decide) (by omega)) ?_
  rintro x w9 ⟨rfl, hx9, hc9⟩
  have st9 := st8.markX hc9 hx9
  have hop : 0 < 1 + 6 * nK (D + 1) e.ks := by omega
  have hop2 : 1 + 6 * nK (D + 1) e.ks ≤ 999999900 := by omega
  generalize 1 + 6 * nK (D + 1) e.ks = kx at *
  clear st8 hx9 hc9 hnx hwe
  clear t0 t1 t2 t3 t4 t5 t6 hlt
  go_wp2_with fail
  refine (eqExpS_any (D + 1 + 1) (.slice a5 L.length c5) (.slice a3 L.length c3) L F5 F3 w9 st9.gg (hS.below st9.bel)).mono ?_
  rintro x w10 ⟨rfl, hb10⟩
  have st10 := st9.below hb10
  clear st9 hb10
  have hng := nK_le (D + 1 + 1) L
  go_wp2_with fail
  refine (markExpS_any (D + 1 + 1) 1 (.slice a5 L.length c5) L F5 w10 st10.gg st10.o5.1 st10.fg (by decide) (by omega)).mono ?_
  rintro x w11 ⟨rfl, hx11, hc11⟩
  have st11 := st10.markG hc11 hx11
  have hheld := fun w' => heldExpS_any (D + 1 + 1) 1 (.slice a5 L.length c5) L F5 w'
  have hkg : 1 + 6 * nK (D + 1 + 1) L ≤ 999999900 := by omega
  have hkp : 0 < 1 + 6 * nK (D + 1 + 1) L := by omega
  generalize 1 + 6 * nK (D + 1 + 1) L = kg at *
  clear st10 hx11 hc11
  go_wp2_with fail
  refine Calls.mono (hheld w11 st11.gg (by decide) (by omega)) ?_
  rintro x w12 ⟨rfl, hb12⟩
  have st12 := st11.below hb12
  clear st11 hb12
  obtain ⟨⟨t0, t1, t2, t3, t4, t5, t6⟩, hlt, _, _⟩ := st12.bx (w.heap.size) e (.slice a e.ks.length c) (by simp)
  go_wp2_with fail
  refine Calls.mono (toExp_any e (.slice a e.ks.length c) F w12 (hr3.below st12.bel) hn) ?_
  rintro x w13 ⟨⟨u13, F13, rfl, hX13, hO13⟩, hb13⟩
  obtain ⟨a13, c13, rfl, _, _⟩ := hX13.shape
  have st13 := st12.below hb13
  clear st12 hb13
  clear t0 t1 t2 t3 t4 t5 t6 hlt
  go_wp2_with fail
  refine Calls.mono (implConj_any D e (.slice a13 e.ks.length c13) F13 w13 hw hX13 (hO13.dst hX13) hn) ?_
  rintro x w14 ⟨⟨v14, rfl, us14, G14, hO14⟩, hb14⟩
  rw [hL.out] at hO14
  obtain ⟨F14, hG14, _⟩ := hO14.kids
  obtain ⟨a14, c14, rfl, _, _⟩ := hG14.shape
  have st14 := st13.below hb14
  clear st13 hb14 hX13 hO14
  go_wp2_with fail
  refine (eqExpS_any (D + 1 + 1) (.slice a14 L.length c14) (.slice a3 L.length c3) L F14 F3 w14 hG14 (hS.below st14.bel)).mono ?_
  rintro x w15 ⟨rfl, hb15⟩
  have st15 := st14.below hb15
  clear st14 hb15 hG14
  go_wp2_with fail
  refine Calls.mono (hheld w15 st15.gg (by decide) (by omega)) ?_
  rintro x w16 ⟨rfl, hb16⟩
  have belE : Below w.heap.size w w16 := bel3.trans ((st15.below hb16).bel.mono bel3.size)
  clear st15 hb16 hheld
  go_wp2
  go_returns
  exact ⟨rfl, belE⟩
theorem walk (e : E7) (v : Value) (F : List Nat) (n : Nat) (hw : e.wf) (w : World) (hr : KidsIs w n v e.ks F) :
    Calls Try.prog 3 #[(.agg #[.int .i64 e.k, .int .i64 e.n, .int .i64 e.v.k, .int .i64 e.v.n, .string e.v.s, .string e.p, v])] w fun x w' => x = .returned (.bool true) ∧ Below w.heap.size w w' := by
  cases n with
  | zero => exact hr.elim
  | succ D => exact walk0 e v F D hw w hr
end Go.Proofs.Ytjblljggmjbalaa.fnExactConj
