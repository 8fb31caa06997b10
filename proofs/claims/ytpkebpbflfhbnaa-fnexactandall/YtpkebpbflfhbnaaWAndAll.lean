/- Own text. The walk of the statement on AndAll. -/
import Derived.Test.YtpkebpbflfhbnaaAndI
import Derived.Test.YtpkebpbflfhbnaaAndS
import Derived.Test.YtpkebpbflfhbnaaStE
import Derived.WalkKit
import Derived.WalkSpells
import Derived.WalkLawsBesides
import Derived.Handy
import Derived.Below
import Derived.Deep.RegionHeld3
import Derived.Deep.DeepCutAuto
namespace Go.Proofs.Ytpkebpbflfhbnaa.fnExactAndAll
open Go.RowKit
set_option linter.unusedVariables false
set_option maxHeartbeats 4000000 in
set_option maxRecDepth 100000 in
theorem walk (v : Value) (es : List E7) (F : List Nat) (n : Nat) (hw : ∀ e ∈ es, e.wf) (w : World) (hr : KidsIs w (n + 1) v es F) :
    Calls Try.prog 6 #[v] w fun e w' => e = .returned (.bool true) ∧ Below w.heap.size w w' := by
  obtain ⟨a, c, rfl, _, _⟩ := hr.shape
  obtain ⟨r, hR⟩ : ∃ r, Hid (ansAnd es = r) := ⟨_, rfl⟩
  go_enter Try.func6, Try.ntmps6
  go_wp2_with fail
  refine Calls.mono (szExpS_any (n + 1) (.slice a es.length c) es F 1048576 _ (hr.below ?hb) (by decide) (by decide)) ?_
  case hb => repeat (first | exact Below.refl _ _ | refine Below.drew ?_ | refine Below.alloc ?_ (by first | (simp; done) | (simp; omega) | omega) _ | refine Below.setCell ?_ (by first | (simp; done) | (simp; omega) | omega) _ | refine bstep (by assumption) (by first | (simp; done) | (simp; omega) | omega) ?_)
  rintro e w1 ⟨⟨z1, rfl, l1, g1, s1⟩, hb1⟩
  have hz1 := hb1.size
  have bel1 : Below w.heap.size w w1 := by repeat (first | exact Below.refl _ _ | refine Below.drew ?_ | refine Below.alloc ?_ (by first | (simp; done) | (simp; omega) | omega) _ | refine Below.setCell ?_ (by first | (simp; done) | (simp; omega) | omega) _ | refine bstep (by assumption) (by first | (simp; done) | (simp; omega) | omega) ?_)
  have hr1 : KidsIs w1 (n + 1) (.slice a es.length c) es F := hr.below bel1
  by_cases hn1 : z1 < 0
  · go_wp2_with fail
    go_returns
    exact ⟨rfl, bel1⟩
  have hn : es.length + wtEs es ≤ 1048576 := by have := s1 (by omega); omega
  have hnr : wtE r ≤ 1048700 := by have := ans_wt hn; rw [hR.out] at this; exact this
  have hnk : r.ks.length + wtEs r.ks ≤ 1048700 := by have := wtE_eq r; omega
  clear s1 hr hb1
  go_wp2_with fail
  refine (toExpS_any (n + 1) (.slice a es.length c) es F w1 hr1 hn).mono ?_
  rintro e w2 ⟨⟨u2, F2, rfl, hU2, _⟩, hb2⟩
  obtain ⟨a2, c2, rfl, _, _⟩ := hU2.shape
  have hz2 := hb2.size
  have hr2 := hr1.below hb2
  have bel2 : Below w.heap.size w w2 := bel1.trans (hb2.mono bel1.size)
  clear hr1 bel1 hb2
  go_wp2_with fail
  refine (specAndAll_any n (.slice a2 es.length c2) es F2 w2 hw hU2 hn r hR).mono ?_
  rintro e w3 ⟨⟨D3, u3, F3, rfl, hS⟩, hb3⟩
  obtain ⟨a3, c3, rfl, _, _⟩ := hS.shape
  have hz3 := hb3.size
  have hr3 := hr2.below hb3
  have bel3 : Below w.heap.size w w3 := bel2.trans (hb3.mono bel2.size)
  clear hr2 bel2 hb3 hU2
  have hbB : Below w3.heap.size w3 (w3.alloc (.cells #[.int .i64 r.k, .int .i64 r.n, .int .i64 r.v.k, .int .i64 r.v.n, .string r.v.s, .string r.p, .slice a3 r.ks.length c3] 33)) := (Below.refl _ _).alloc (Nat.le_refl _) _
  have hrB := hr3.below hbB
  have hSB := hS.below hbB
  have bel4 : Below w.heap.size w (w3.alloc (.cells #[.int .i64 r.k, .int .i64 r.n, .int .i64 r.v.k, .int .i64 r.v.n, .string r.v.s, .string r.p, .slice a3 r.ks.length c3] 33)) := bel3.trans (hbB.mono bel3.size)
  have bx4 := bx7_new w3 r (.slice a3 r.ks.length c3) 33
  have hsB : (w3.alloc (.cells #[.int .i64 r.k, .int .i64 r.n, .int .i64 r.v.k, .int .i64 r.v.n, .string r.v.s, .string r.p, .slice a3 r.ks.length c3] 33)).heap.size = w3.heap.size + 1 := by simp
  clear hr3 hS hbB bel3
  go_wp2_with fail
  generalize w3.alloc (.cells #[.int .i64 r.k, .int .i64 r.n, .int .i64 r.v.k, .int .i64 r.v.n, .string r.v.s, .string r.p, .slice a3 r.ks.length c3] 33) = wb at *
  refine (toExpS_any (n + 1) (.slice a es.length c) es F wb hrB hn).mono ?_
  rintro e w4 ⟨⟨u4, F4, rfl, hX4, hO4⟩, hb4⟩
  obtain ⟨a4, c4, rfl, _, _⟩ := hX4.shape
  have hz4 := hb4.size
  go_wp2_with fail
  refine (implAndAll_any n (.slice a4 es.length c4) es F4 w4 hw hX4 hn r hR).mono ?_
  rintro e w5 ⟨⟨D5, u5, F5, rfl, hG5, hO5⟩, hb5⟩
  obtain ⟨a5, c5, rfl, _, _⟩ := hG5.shape
  have hz5 := hb5.size
  have st0 : StE wb w5 (n + 1) (D5 + 1) (.slice a4 es.length c4) (.slice a5 r.ks.length c5) es r.ks F4 F5 [(w3.heap.size, r, .slice a3 r.ks.length c3)] :=
    ⟨hb4.trans (hb5.mono hz4), hX4.below hb5, hG5, Own.below hO4 hX4.lt hb5, ⟨hO5.1, fun b hb => ⟨by have := (hO5.2 b hb).1; omega, (hO5.2 b hb).2⟩⟩, fun b hb hb' => by have := hX4.lt b hb; have := (hO5.2 b hb').1; omega, fun b e u hm => by
      rcases List.mem_singleton.1 hm with ⟨⟩
      exact ⟨bx4.keep ((hb5.block _ (by omega)).trans (hb4.block _ (by omega))), by omega, fun hb => by have := (hO4.2 _ hb).1; omega, fun hb => by have := (hO5.2 _ hb).1; omega⟩⟩
  have st := st0.box r (.slice a5 r.ks.length c5) 33
  clear hX4 hO4 hG5 hO5 hb4 hb5 st0 bx4
  obtain ⟨⟨s0, s1, s2, s3, s4, s5, s6⟩, hls, _, _⟩ := st.bx (w3.heap.size) r (.slice a3 r.ks.length c3) (by simp)
  obtain ⟨⟨t0, t1, t2, t3, t4, t5, t6⟩, hlt, _, _⟩ := st.bx (w5.heap.size) r (.slice a5 r.ks.length c5) (by simp)
  have hy3 : w3.heap.size < w5.heap.size := by omega
  go_wp2_with fail
  refine (eqExp_same r (.slice a5 r.ks.length c5) (.slice a3 r.ks.length c3) F5 F3 _ st.gg (hSB.below st.bel)).mono ?_
  rintro e w6 ⟨rfl, hb6⟩
  have st6 := st.below hb6
  clear st hb6
  clear s0 s1 s2 s3 s4 s5 s6 hls
  clear t0 t1 t2 t3 t4 t5 t6 hlt
  go_wp2_with fail
  refine (toExpS_any (n + 1) (.slice a es.length c) es F w6 (hrB.below st6.bel) hn).mono ?_
  rintro e w7 ⟨⟨u7, F7, rfl, hX7, _⟩, hb7⟩
  obtain ⟨a7, c7, rfl, _, _⟩ := hX7.shape
  have st7 := st6.below hb7
  clear st6 hb7
  go_wp2_with fail
  refine (eqExpS_any (n + 1) (.slice a4 es.length c4) (.slice a7 es.length c7) es F4 F7 w7 st7.xx hX7).mono ?_
  rintro e w8 ⟨rfl, hb8⟩
  have st8 := st7.below hb8
  clear st7 hb8 hX7
  have hnx := nK_le (n + 1) es
  go_wp2_with fail
  refine (markExpS_any (n + 1) 1 (.slice a4 es.length c4) es F4 w8 st8.xx st8.o4.1 st8.fx (by decide) (by omega)).mono ?_
  rintro e w9 ⟨rfl, hx9, hc9⟩
  have st9 := st8.markX hc9 hx9
  have hop : 0 < 1 + 6 * nK (n + 1) es := by omega
  have hop2 : 1 + 6 * nK (n + 1) es ≤ 999999900 := by omega
  generalize 1 + 6 * nK (n + 1) es = kx at *
  clear st8 hx9 hc9
  obtain ⟨⟨s0, s1, s2, s3, s4, s5, s6⟩, hls, _, _⟩ := st9.bx (w3.heap.size) r (.slice a3 r.ks.length c3) (by simp)
  obtain ⟨⟨t0, t1, t2, t3, t4, t5, t6⟩, hlt, _, _⟩ := st9.bx (w5.heap.size) r (.slice a5 r.ks.length c5) (by simp)
  go_wp2_with fail
  refine (eqExp_same r (.slice a5 r.ks.length c5) (.slice a3 r.ks.length c3) F5 F3 w9 st9.gg (hSB.below st9.bel)).mono ?_
  rintro e w10 ⟨rfl, hb10⟩
  have st10 := st9.below hb10
  clear st9 hb10
  clear s0 s1 s2 s3 s4 s5 s6 hls
  clear t0 t1 t2 t3 t4 t5 t6 hlt
  obtain ⟨⟨t0, t1, t2, t3, t4, t5, t6⟩, hlt, _, _⟩ := st10.bx (w5.heap.size) r (.slice a5 r.ks.length c5) (by simp)
  have hng := nK_le (D5 + 1) r.ks
  go_wp2_with fail
  refine (markExp_any (D5 + 1) 1 r (.slice a5 r.ks.length c5) F5 w10 st10.gg st10.o5.1 st10.fg (by decide) (by omega)).mono ?_
  rintro e w11 ⟨rfl, hx11, hc11⟩
  have st11 := st10.markG hc11 hx11
  have hheld := fun w' => heldExp_any (D5 + 1) 1 (E7.mk r.k r.n r.v r.p (mK (D5 + 1) 1 r.ks)) r.ks (.slice a5 r.ks.length c5) F5 w' rfl
  have hkg : 1 + 6 * nK (D5 + 1) r.ks ≤ 999999900 := by omega
  have hkp : 0 < 1 + 6 * nK (D5 + 1) r.ks := by omega
  generalize 1 + 6 * nK (D5 + 1) r.ks = kg at *
  clear st10 hx11 hc11
  clear t0 t1 t2 t3 t4 t5 t6 hlt
  obtain ⟨⟨t0, t1, t2, t3, t4, t5, t6⟩, hlt, _, _⟩ := st11.bx (w5.heap.size) r (.slice a5 r.ks.length c5) (by simp)
  go_wp2_with fail
  refine Calls.mono (hheld w11 st11.gg (by decide) (by omega)) ?_
  rintro e w12 ⟨rfl, hb12⟩
  have st12 := st11.below hb12
  clear st11 hb12
  clear t0 t1 t2 t3 t4 t5 t6 hlt
  go_wp2_with fail
  refine (toExpS_any (n + 1) (.slice a es.length c) es F w12 (hrB.below st12.bel) hn).mono ?_
  rintro e w13 ⟨⟨u13, F13, rfl, hX13, _⟩, hb13⟩
  obtain ⟨a13, c13, rfl, _, _⟩ := hX13.shape
  have st13 := st12.below hb13
  clear st12 hb13
  go_wp2_with fail
  refine (implAndAll_any n (.slice a13 es.length c13) es F13 w13 hw hX13 hn r hR).mono ?_
  rintro e w14 ⟨⟨D14, u14, F14, rfl, hG14, _⟩, hb14⟩
  obtain ⟨a14, c14, rfl, _, _⟩ := hG14.shape
  have st14 := st13.below hb14
  have st14b := st14.box r (.slice a14 r.ks.length c14) 33
  have hG14b := hG14.below (w' := w14.alloc (.cells #[.int .i64 r.k, .int .i64 r.n, .int .i64 r.v.k, .int .i64 r.v.n, .string r.v.s, .string r.p, .slice a14 r.ks.length c14] 33)) ((Below.refl _ _).alloc (Nat.le_refl _) _)
  clear st13 hb14 hX13 hG14
  obtain ⟨⟨s0, s1, s2, s3, s4, s5, s6⟩, hls, _, _⟩ := st14.bx (w3.heap.size) r (.slice a3 r.ks.length c3) (by simp)
  obtain ⟨⟨t0, t1, t2, t3, t4, t5, t6⟩, hlt, _, _⟩ := st14.bx (w5.heap.size) r (.slice a5 r.ks.length c5) (by simp)
  go_wp2_with fail
  refine Calls.mono (eqExp_same r (.slice a14 r.ks.length c14) (.slice a3 r.ks.length c3) F14 F3 _ hG14b (hSB.below st14b.bel)) ?_
  rintro e w15 ⟨rfl, hb15⟩
  have st15 := st14b.below hb15
  clear st14 st14b hb15 hG14b
  clear s0 s1 s2 s3 s4 s5 s6 hls
  clear t0 t1 t2 t3 t4 t5 t6 hlt
  obtain ⟨⟨t0, t1, t2, t3, t4, t5, t6⟩, hlt, _, _⟩ := st15.bx (w5.heap.size) r (.slice a5 r.ks.length c5) (by simp)
  go_wp2_with fail
  refine Calls.mono (hheld w15 st15.gg (by decide) (by omega)) ?_
  rintro e w16 ⟨rfl, hb16⟩
  have belE : Below w.heap.size w w16 := bel4.trans ((st15.below hb16).bel.mono bel4.size)
  clear st15 hb16 hheld
  clear t0 t1 t2 t3 t4 t5 t6 hlt
  go_wp2
  go_returns
  exact ⟨rfl, belE⟩
end Go.Proofs.Ytpkebpbflfhbnaa.fnExactAndAll
