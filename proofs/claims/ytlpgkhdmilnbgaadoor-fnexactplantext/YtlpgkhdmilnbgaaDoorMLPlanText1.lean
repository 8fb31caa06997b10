/- Own texts, joined: contracts that the law's proof goes by. -/
import Derived.Test.YtlpgkhdmilnbgaaDoorPtSb
import Derived.Handy
import Derived.Deep.RegionHeld3
import Derived.Test.YtlpgkhdmilnbgaaDoorPtJ
import Derived.Test.YtlpgkhdmilnbgaaDoorToP
import Derived.Test.YtlpgkhdmilnbgaaDoorPlC
import Derived.Test.YtlpgkhdmilnbgaaDoorBoxP
import Derived.Test.YtlpgkhdmilnbgaaDoorTake
import Derived.WalkKit
import Derived.WalkSpells
import Derived.WalkLawsBesides
import Derived.Below
import Derived.Deep.DeepCutAuto
import Derived.Test.YtlpgkhdmilnbgaaDoorExpK
import Derived.Lib.SmallJoins
import Derived.Test.YtlpgkhdmilnbgaaDoorPlK
/- Own text. spec.l04Text of a plan of one kind. -/
namespace Go.Proofs.YtlpgkhdmilnbgaaDoor
open Go.RowKit
set_option linter.unusedVariables false
set_option maxHeartbeats 8000000 in
set_option maxRecDepth 100000 in
theorem tpS_0 {f : Nat} (ih : TpS f) {p : P12} {ue us u : Value} {g : List Nat} {D d : Nat} {w : World} (hw : p.wf) (hL : ListsP w D (PlansIs w D d) p ue us u g) (hn : wtP p ≤ 1048576) (hf : f + 1 ≤ 21) (hE : Env w) (h0 : p.k = 0) :
    Calls Tryd.prog 12 #[(.agg #[.int .i64 p.k, .string p.s, .int .i64 p.e.k, .int .i64 p.e.n, .int .i64 p.e.v.k, .int .i64 p.e.v.n, .string p.e.v.s, .string p.e.p, ue, us, .int .i64 p.n, u]), .int .i64 (((f + 1 : Nat) : Int) - 1)] w fun x w' => x = .returned (.string (bs (planT (f + 1) p))) ∧ Below w.heap.size w w' := by
  obtain ⟨r, HR⟩ := hidE (bs (planT (f + 1) p))
  rw [HR.out]
  have hkl := ksT_len (planT_len f) hL
  have hwt := wtP_eq p
  obtain ⟨a_e, a_E, a_s, a_S, a_k, a_K, rfl, rfl, rfl, _, _, _, _, _, _⟩ := hL.shape
  obtain ⟨Fe, Fs, h, rfl, ke, kes, kp⟩ := hL
  obtain ⟨d, rfl⟩ := succP kp
  obtain ⟨a, c, b, o, G, e0, hl, hc, hG, _, ha⟩ := kp.pick
  injection e0 with e1 e2 e3
  subst e1 e3
  unfold maxLen at hc
  obtain ⟨n0, n1⟩ := wf64X p.n hw.2.2.2
  have hil := Lib.itoa_length_le p.n n0 n1
  have hel := expText_len p.e w D _ Fe hw.2.2.1 ke
  have hll := lstT_len kes
  have hX0 := fun w2 (hb : Below w.heap.size w w2) => specExpText_any p.e _ Fe D w2 hw.2.2.1 (ke.below hb) (hE.below hb)
  have hY0 := fun w2 (hb : Below w.heap.size w w2) => l04Exps_any _ p.es Fs D w2 (kes.below hb) (by omega) (hE.below hb)
  have hD0 : ∀ w2, Below w.heap.size w w2 → Calls Tryd.prog 24 #[.int .i64 p.n] w2 fun x w' => x = .returned (.string (bs (Lib.itoa p.n))) ∧ Below w2.heap.size w2 w' := fun w2 hb => (specDec_any p.n w2 n0 n1).mono fun x w' ⟨he, hw'⟩ => ⟨he, hw' ▸ Below.refl _ _⟩
  obtain ⟨t1, H1⟩ := hidE (bs (expText p.e))
  obtain ⟨t2, H2⟩ := hidE (bs (lstT p.es))
  obtain ⟨t4, H4⟩ := hidE (bs (Lib.itoa p.n))
  obtain ⟨dd, HD⟩ := hidE (((f + 1 : Nat) : Int) - 1)
  rw [HD.out]
  rw [H1.out] at hX0
  rw [H2.out] at hY0
  rw [H4.out] at hD0
  have hd0 : 0 ≤ dd := by have := HD.out; omega
  have hd2 : dd ≤ 20 := by have := HD.out; omega
  have hd1 : dd - 1 = (f : Int) - 1 := by have := HD.out; omega
  have hs1 : t1.size ≤ 5000000000000 := by rw [← H1.out, bs_size]; omega
  have hs2 : t2.size ≤ 5000000000000 := by rw [← H2.out, bs_size]; omega
  have hs4 : t4.size ≤ 5000000000000 := by rw [← H4.out, bs_size]; omega
  have HE : Hid (Env w) := hE
  have hI := fun x ux1 ux2 ux3 g w2 hw2 hL2 hn2 hE2 => ih x ux1 ux2 ux3 g D d w2 hw2 hL2 hn2 (by omega) hE2
  rw [← hd1] at hI
  have hKd := fun w2 => l04Kids_in p.k w2 (by rw [h0]; simp)
  have hB := bxP_new w p (.slice a_e p.e.ks.length a_E) (.slice a_s p.es.length a_S) (.slice a_k p.ks.length a_K) 38
  have H0 : Hid (p.k = 0) := h0
  clear hd1 ke kes hE hw ih hil hel hll n0 n1 HD h0
  go_enter Tryd.func12, Tryd.ntmps12
  go_wp2_with fail
  refine Calls.mono (hKd _) ?_
  rintro x w1 ⟨⟨z1, rfl, hz1⟩, hb1⟩
  have hB1 := hB.below hb1
  have bel1 : Below w.heap.size w w1 := by repeat (first | (with_reducible exact Below.refl _ _) | (with_reducible refine Below.drew ?_) | (with_reducible refine Below.alloc ?_ ?hh _; case hh => first | (simp; done) | (simp; omega) | omega) | (with_reducible refine Below.setCell ?_ ?hh _; case hh => first | (simp; done) | (simp; omega) | omega) | refine bstep (by assumption) (by first | (simp; done) | (simp; omega) | omega) ?_)
  have hlw : w.heap.size < w1.heap.size := hB1.1
  clear hKd hb1 hB
  go_wp2
  go_loopw [5, 6] (fun y i wr => ∃ (k : Nat) (x : ByteArray), k ≤ p.ks.length ∧ i = .int .i64 k ∧ y = .string x ∧ x = bs (Lib.join ((p.ks.take k).map (planT f)) [44, 32]) ∧ Below w1.heap.size w1 wr) (fun _ i _ => p.ks.length - (intOf i).toNat)
  case atStart => exact ⟨0, _, Nat.zero_le _, rfl, rfl, rfl, by go_grown⟩
  case round =>
    obtain ⟨k, z, hk, rfl, rfl, hz, hb'⟩ := hrel
    have hBr := hB1.below hb'
    have hb : Below w.heap.size w wr := bel1.trans (hb'.mono bel1.size)
    have hzb := hb.size
    have HZ : Hid (z = bs (Lib.join ((p.ks.take k).map (planT f)) [44, 32])) := hz
    have hj := hkl k
    have hzs : z.size ≤ 5000000000000 := by rw [HZ.out, bs_size]; omega
    clear hz hj
    by_cases hlt : k < p.ks.length
    · obtain ⟨rfl, hblt, _, hL⟩ := ha k hlt
      obtain ⟨x, g, ue, us, u, hx, hg, hxw, ⟨c0, c1, c2, c3, c4, c5, c6, c7, c8, c9, c10, c11⟩, hLx, hbr⟩ := hL.at hG hblt hb hlt
      obtain ⟨x_e, x_E, x_s, x_S, x_k, x_K, rfl, rfl, rfl, _, _, _, _, _, _⟩ := hLx.shape
      have HX := ksP_next (f := f) hx
      have hxn : wtP x ≤ 1048576 := by have := wtP_mem (List.mem_of_getElem? hx); omega
      have hxt := planT_len f x wr D d _ _ _ g hxw hLx
      have hV := fun w2 (hb2 : Below wr.heap.size wr w2) => hI x _ _ _ g w2 hxw (hLx.below hb2) hxn (HE.out.below (hb.trans (hb2.mono hzb)))
      obtain ⟨t3, H3⟩ := hidE (bs (planT f x))
      rw [H3.out] at hV
      have hs3 : t3.size ≤ 5000000000000 := by rw [← H3.out, bs_size]; omega
      obtain ⟨_, _, _, _, _, _, _, _, _, _, _, _, b11⟩ := hBr
      by_cases hk0 : k = 0
      · subst hk0
        rw [if_pos rfl] at HX
        have HF : Hid (z ++ t3 = bs (Lib.join ((p.ks.take (0 + 1)).map (planT f)) [44, 32])) := by
          show _ = _
          rw [HX, HZ.out, ← H3.out]
          simp [Lib.join_nil]
          rw [show bs [] = ByteArray.empty from rfl, ByteArray.empty_append]
        simp only [Nat.zero_mul, Nat.add_zero] at c0 c1 c2 c3 c4 c5 c6 c7 c8 c9 c10 c11
        clear ha hL hx hxw hLx hg HX H1 H2 H3 H4 hkl hxt hI hX0 hY0 hD0 hxn
        go_wp2_with fail
        refine Calls.mono (hV _ (Below.refl _ _)) ?_
        rintro e w2 ⟨rfl, hb2⟩
        have bel2 : Below w1.heap.size w1 w2 := hb'.trans (hb2.mono hb'.size)
        clear hV hb2 c0 c1 c2 c3 c4 c5 c6 c7 c8 c9 c10 c11 b11
        go_wp2_with fail
        exact ⟨⟨0 + 1, _, hlt, by simp, rfl, HF.out, bel2⟩, by simp [intOf]; omega⟩
      · rw [if_neg hk0] at HX
        have hkp : (0 : Int) < (k : Int) := by omega
        have hzc : (z ++ (⟨#[44, 32]⟩ : ByteArray)).size ≤ 5000000000002 := by rw [ByteArray.size_append]; have : (⟨#[44, 32]⟩ : ByteArray).size = 2 := rfl; omega
        have HF : Hid ((z ++ (⟨#[44, 32]⟩ : ByteArray)) ++ t3 = bs (Lib.join ((p.ks.take (k + 1)).map (planT f)) [44, 32])) := by
          show _ = _
          rw [HX, HZ.out, ← H3.out, show (⟨#[44, 32]⟩ : ByteArray) = bs [44, 32] from rfl, bs_app, bs_app, List.append_assoc]
        clear ha hL hx hxw hLx hg HX H1 H2 H3 H4 hkl hxt hI hX0 hY0 hD0 hxn
        go_wp2_with fail
        refine Calls.mono (hV _ (Below.refl _ _)) ?_
        rintro e w2 ⟨rfl, hb2⟩
        have bel2 : Below w1.heap.size w1 w2 := hb'.trans (hb2.mono hb'.size)
        clear hV hb2 c0 c1 c2 c3 c4 c5 c6 c7 c8 c9 c10 c11 b11
        go_wp2_with fail
        exact ⟨⟨k + 1, _, hlt, by simp, rfl, HF.out, bel2⟩, by simp [intOf]; omega⟩
    · obtain rfl : k = p.ks.length := by omega
      obtain ⟨t3, H3'⟩ : ∃ t3, t3 = z := ⟨_, rfl⟩
      subst H3'
      have H3 : Hid (bs (ksT f p) = t3) := by show _ = _; rw [HZ.out, List.take_length]; rfl
      have hs3 := hzs
      clear ha hkl hI HZ hzs
      have h0 := H0.out
      have HR2 : Hid (p.s = r) := by show _ = _; rw [← HR.out, planT_0 h0, bs_of]
      have k0 : (p.k == 0) = true := by rw [h0]; rfl
      obtain ⟨_, x0, x1, x2, x3, x4, x5, x6, x7, x8, x9, x10, x11⟩ := hBr
      clear hX0 hY0 hD0 h0 H1 H2 H3 H4
      go_wp2_with fail
      go_returns
      exact ⟨by rw [← HR2.out]; rfl, hb⟩
end Go.Proofs.YtlpgkhdmilnbgaaDoor
/- Own text. spec.l04Text of a plan of one kind. -/
namespace Go.Proofs.YtlpgkhdmilnbgaaDoor
open Go.RowKit
set_option linter.unusedVariables false
set_option maxHeartbeats 8000000 in
set_option maxRecDepth 100000 in
theorem tpS_1 {f : Nat} (ih : TpS f) {p : P12} {ue us u : Value} {g : List Nat} {D d : Nat} {w : World} (hw : p.wf) (hL : ListsP w D (PlansIs w D d) p ue us u g) (hn : wtP p ≤ 1048576) (hf : f + 1 ≤ 21) (hE : Env w) (h0 : p.k = 1) :
    Calls Tryd.prog 12 #[(.agg #[.int .i64 p.k, .string p.s, .int .i64 p.e.k, .int .i64 p.e.n, .int .i64 p.e.v.k, .int .i64 p.e.v.n, .string p.e.v.s, .string p.e.p, ue, us, .int .i64 p.n, u]), .int .i64 (((f + 1 : Nat) : Int) - 1)] w fun x w' => x = .returned (.string (bs (planT (f + 1) p))) ∧ Below w.heap.size w w' := by
  obtain ⟨r, HR⟩ := hidE (bs (planT (f + 1) p))
  rw [HR.out]
  have hkl := ksT_len (planT_len f) hL
  have hwt := wtP_eq p
  obtain ⟨a_e, a_E, a_s, a_S, a_k, a_K, rfl, rfl, rfl, _, _, _, _, _, _⟩ := hL.shape
  obtain ⟨Fe, Fs, h, rfl, ke, kes, kp⟩ := hL
  obtain ⟨d, rfl⟩ := succP kp
  obtain ⟨a, c, b, o, G, e0, hl, hc, hG, _, ha⟩ := kp.pick
  injection e0 with e1 e2 e3
  subst e1 e3
  unfold maxLen at hc
  obtain ⟨n0, n1⟩ := wf64X p.n hw.2.2.2
  have hil := Lib.itoa_length_le p.n n0 n1
  have hel := expText_len p.e w D _ Fe hw.2.2.1 ke
  have hll := lstT_len kes
  have hX0 := fun w2 (hb : Below w.heap.size w w2) => specExpText_any p.e _ Fe D w2 hw.2.2.1 (ke.below hb) (hE.below hb)
  have hY0 := fun w2 (hb : Below w.heap.size w w2) => l04Exps_any _ p.es Fs D w2 (kes.below hb) (by omega) (hE.below hb)
  have hD0 : ∀ w2, Below w.heap.size w w2 → Calls Tryd.prog 24 #[.int .i64 p.n] w2 fun x w' => x = .returned (.string (bs (Lib.itoa p.n))) ∧ Below w2.heap.size w2 w' := fun w2 hb => (specDec_any p.n w2 n0 n1).mono fun x w' ⟨he, hw'⟩ => ⟨he, hw' ▸ Below.refl _ _⟩
  obtain ⟨t1, H1⟩ := hidE (bs (expText p.e))
  obtain ⟨t2, H2⟩ := hidE (bs (lstT p.es))
  obtain ⟨t4, H4⟩ := hidE (bs (Lib.itoa p.n))
  obtain ⟨dd, HD⟩ := hidE (((f + 1 : Nat) : Int) - 1)
  rw [HD.out]
  rw [H1.out] at hX0
  rw [H2.out] at hY0
  rw [H4.out] at hD0
  have hd0 : 0 ≤ dd := by have := HD.out; omega
  have hd2 : dd ≤ 20 := by have := HD.out; omega
  have hd1 : dd - 1 = (f : Int) - 1 := by have := HD.out; omega
  have hs1 : t1.size ≤ 5000000000000 := by rw [← H1.out, bs_size]; omega
  have hs2 : t2.size ≤ 5000000000000 := by rw [← H2.out, bs_size]; omega
  have hs4 : t4.size ≤ 5000000000000 := by rw [← H4.out, bs_size]; omega
  have HE : Hid (Env w) := hE
  have hI := fun x ux1 ux2 ux3 g w2 hw2 hL2 hn2 hE2 => ih x ux1 ux2 ux3 g D d w2 hw2 hL2 hn2 (by omega) hE2
  rw [← hd1] at hI
  have hKd := fun w2 => l04Kids_in p.k w2 (by rw [h0]; simp)
  have hB := bxP_new w p (.slice a_e p.e.ks.length a_E) (.slice a_s p.es.length a_S) (.slice a_k p.ks.length a_K) 38
  have H0 : Hid (p.k = 1) := h0
  clear hd1 ke kes hE hw ih hil hel hll n0 n1 HD h0
  go_enter Tryd.func12, Tryd.ntmps12
  go_wp2_with fail
  refine Calls.mono (hKd _) ?_
  rintro x w1 ⟨⟨z1, rfl, hz1⟩, hb1⟩
  have hB1 := hB.below hb1
  have bel1 : Below w.heap.size w w1 := by repeat (first | (with_reducible exact Below.refl _ _) | (with_reducible refine Below.drew ?_) | (with_reducible refine Below.alloc ?_ ?hh _; case hh => first | (simp; done) | (simp; omega) | omega) | (with_reducible refine Below.setCell ?_ ?hh _; case hh => first | (simp; done) | (simp; omega) | omega) | refine bstep (by assumption) (by first | (simp; done) | (simp; omega) | omega) ?_)
  have hlw : w.heap.size < w1.heap.size := hB1.1
  clear hKd hb1 hB
  go_wp2
  go_loopw [5, 6] (fun y i wr => ∃ (k : Nat) (x : ByteArray), k ≤ p.ks.length ∧ i = .int .i64 k ∧ y = .string x ∧ x = bs (Lib.join ((p.ks.take k).map (planT f)) [44, 32]) ∧ Below w1.heap.size w1 wr) (fun _ i _ => p.ks.length - (intOf i).toNat)
  case atStart => exact ⟨0, _, Nat.zero_le _, rfl, rfl, rfl, by go_grown⟩
  case round =>
    obtain ⟨k, z, hk, rfl, rfl, hz, hb'⟩ := hrel
    have hBr := hB1.below hb'
    have hb : Below w.heap.size w wr := bel1.trans (hb'.mono bel1.size)
    have hzb := hb.size
    have HZ : Hid (z = bs (Lib.join ((p.ks.take k).map (planT f)) [44, 32])) := hz
    have hj := hkl k
    have hzs : z.size ≤ 5000000000000 := by rw [HZ.out, bs_size]; omega
    clear hz hj
    by_cases hlt : k < p.ks.length
    · obtain ⟨rfl, hblt, _, hL⟩ := ha k hlt
      obtain ⟨x, g, ue, us, u, hx, hg, hxw, ⟨c0, c1, c2, c3, c4, c5, c6, c7, c8, c9, c10, c11⟩, hLx, hbr⟩ := hL.at hG hblt hb hlt
      obtain ⟨x_e, x_E, x_s, x_S, x_k, x_K, rfl, rfl, rfl, _, _, _, _, _, _⟩ := hLx.shape
      have HX := ksP_next (f := f) hx
      have hxn : wtP x ≤ 1048576 := by have := wtP_mem (List.mem_of_getElem? hx); omega
      have hxt := planT_len f x wr D d _ _ _ g hxw hLx
      have hV := fun w2 (hb2 : Below wr.heap.size wr w2) => hI x _ _ _ g w2 hxw (hLx.below hb2) hxn (HE.out.below (hb.trans (hb2.mono hzb)))
      obtain ⟨t3, H3⟩ := hidE (bs (planT f x))
      rw [H3.out] at hV
      have hs3 : t3.size ≤ 5000000000000 := by rw [← H3.out, bs_size]; omega
      obtain ⟨_, _, _, _, _, _, _, _, _, _, _, _, b11⟩ := hBr
      by_cases hk0 : k = 0
      · subst hk0
        rw [if_pos rfl] at HX
        have HF : Hid (z ++ t3 = bs (Lib.join ((p.ks.take (0 + 1)).map (planT f)) [44, 32])) := by
          show _ = _
          rw [HX, HZ.out, ← H3.out]
          simp [Lib.join_nil]
          rw [show bs [] = ByteArray.empty from rfl, ByteArray.empty_append]
        simp only [Nat.zero_mul, Nat.add_zero] at c0 c1 c2 c3 c4 c5 c6 c7 c8 c9 c10 c11
        clear ha hL hx hxw hLx hg HX H1 H2 H3 H4 hkl hxt hI hX0 hY0 hD0 hxn
        go_wp2_with fail
        refine Calls.mono (hV _ (Below.refl _ _)) ?_
        rintro e w2 ⟨rfl, hb2⟩
        have bel2 : Below w1.heap.size w1 w2 := hb'.trans (hb2.mono hb'.size)
        clear hV hb2 c0 c1 c2 c3 c4 c5 c6 c7 c8 c9 c10 c11 b11
        go_wp2_with fail
        exact ⟨⟨0 + 1, _, hlt, by simp, rfl, HF.out, bel2⟩, by simp [intOf]; omega⟩
      · rw [if_neg hk0] at HX
        have hkp : (0 : Int) < (k : Int) := by omega
        have hzc : (z ++ (⟨#[44, 32]⟩ : ByteArray)).size ≤ 5000000000002 := by rw [ByteArray.size_append]; have : (⟨#[44, 32]⟩ : ByteArray).size = 2 := rfl; omega
        have HF : Hid ((z ++ (⟨#[44, 32]⟩ : ByteArray)) ++ t3 = bs (Lib.join ((p.ks.take (k + 1)).map (planT f)) [44, 32])) := by
          show _ = _
          rw [HX, HZ.out, ← H3.out, show (⟨#[44, 32]⟩ : ByteArray) = bs [44, 32] from rfl, bs_app, bs_app, List.append_assoc]
        clear ha hL hx hxw hLx hg HX H1 H2 H3 H4 hkl hxt hI hX0 hY0 hD0 hxn
        go_wp2_with fail
        refine Calls.mono (hV _ (Below.refl _ _)) ?_
        rintro e w2 ⟨rfl, hb2⟩
        have bel2 : Below w1.heap.size w1 w2 := hb'.trans (hb2.mono hb'.size)
        clear hV hb2 c0 c1 c2 c3 c4 c5 c6 c7 c8 c9 c10 c11 b11
        go_wp2_with fail
        exact ⟨⟨k + 1, _, hlt, by simp, rfl, HF.out, bel2⟩, by simp [intOf]; omega⟩
    · obtain rfl : k = p.ks.length := by omega
      obtain ⟨t3, H3'⟩ : ∃ t3, t3 = z := ⟨_, rfl⟩
      subst H3'
      have H3 : Hid (bs (ksT f p) = t3) := by show _ = _; rw [HZ.out, List.take_length]; rfl
      have hs3 := hzs
      clear ha hkl hI HZ hzs
      have h0 := H0.out
      have HR2 : Hid (bs ([102, 105, 108, 116, 101, 114, 40] ++ (expText p.e ++ ([44, 32] ++ (ksT f p ++ [41])))) = r) := by show _ = _; rw [← HR.out, planT_1 h0]
      have k0 : (p.k == 0) = false := by rw [h0]; rfl
      have k1 : (p.k == 1) = true := by rw [h0]; rfl
      have sz1 : ((⟨#[102, 105, 108, 116, 101, 114, 40]⟩ : ByteArray) ++ t1).size ≤ 5000000000010 := by simp only [ByteArray.size_append]; have z0 : (⟨#[102, 105, 108, 116, 101, 114, 40]⟩ : ByteArray).size = 7 := rfl; omega
      have sz2 : ((⟨#[102, 105, 108, 116, 101, 114, 40]⟩ : ByteArray) ++ t1 ++ (⟨#[44, 32]⟩ : ByteArray)).size ≤ 5000000000020 := by simp only [ByteArray.size_append]; have z0 : (⟨#[102, 105, 108, 116, 101, 114, 40]⟩ : ByteArray).size = 7 := rfl; have z1 : (⟨#[44, 32]⟩ : ByteArray).size = 2 := rfl; omega
      have sz3 : ((⟨#[102, 105, 108, 116, 101, 114, 40]⟩ : ByteArray) ++ t1 ++ (⟨#[44, 32]⟩ : ByteArray) ++ t3).size ≤ 10000000000020 := by simp only [ByteArray.size_append]; have z0 : (⟨#[102, 105, 108, 116, 101, 114, 40]⟩ : ByteArray).size = 7 := rfl; have z1 : (⟨#[44, 32]⟩ : ByteArray).size = 2 := rfl; omega
      have HF : Hid ((⟨#[102, 105, 108, 116, 101, 114, 40]⟩ : ByteArray) ++ t1 ++ (⟨#[44, 32]⟩ : ByteArray) ++ t3 ++ (⟨#[41]⟩ : ByteArray) = r) := by
        show _ = _
        rw [← HR2.out, ← H1.out, ← H3.out, show (⟨#[102, 105, 108, 116, 101, 114, 40]⟩ : ByteArray) = bs [102, 105, 108, 116, 101, 114, 40] from rfl, show (⟨#[41]⟩ : ByteArray) = bs [41] from rfl, show (⟨#[44, 32]⟩ : ByteArray) = bs [44, 32] from rfl, bs_app, bs_app, bs_app, bs_app]
        simp
      obtain ⟨_, x0, x1, x2, x3, x4, x5, x6, x7, x8, x9, x10, x11⟩ := hBr
      clear HR2 h0 H1 H2 H3 H4
      go_wp2_with fail
      refine Calls.mono (hX0 _ hb) ?_
      rintro q w2 ⟨rfl, hb2⟩
      have bel2 : Below w.heap.size w w2 := hb.trans (hb2.mono hzb)
      clear hX0 hY0 hD0 hb2 x0 x1 x2 x3 x4 x5 x6 x7 x8 x9 x10 x11
      go_wp2_with fail
      go_returns
      exact ⟨by rw [← HF.out]; rfl, bel2⟩
end Go.Proofs.YtlpgkhdmilnbgaaDoor
/- Own text. spec.l04Text of a plan of one kind. -/
namespace Go.Proofs.YtlpgkhdmilnbgaaDoor
open Go.RowKit
set_option linter.unusedVariables false
set_option maxHeartbeats 8000000 in
set_option maxRecDepth 100000 in
theorem tpS_2 {f : Nat} (ih : TpS f) {p : P12} {ue us u : Value} {g : List Nat} {D d : Nat} {w : World} (hw : p.wf) (hL : ListsP w D (PlansIs w D d) p ue us u g) (hn : wtP p ≤ 1048576) (hf : f + 1 ≤ 21) (hE : Env w) (h0 : p.k = 2) :
    Calls Tryd.prog 12 #[(.agg #[.int .i64 p.k, .string p.s, .int .i64 p.e.k, .int .i64 p.e.n, .int .i64 p.e.v.k, .int .i64 p.e.v.n, .string p.e.v.s, .string p.e.p, ue, us, .int .i64 p.n, u]), .int .i64 (((f + 1 : Nat) : Int) - 1)] w fun x w' => x = .returned (.string (bs (planT (f + 1) p))) ∧ Below w.heap.size w w' := by
  obtain ⟨r, HR⟩ := hidE (bs (planT (f + 1) p))
  rw [HR.out]
  have hkl := ksT_len (planT_len f) hL
  have hwt := wtP_eq p
  obtain ⟨a_e, a_E, a_s, a_S, a_k, a_K, rfl, rfl, rfl, _, _, _, _, _, _⟩ := hL.shape
  obtain ⟨Fe, Fs, h, rfl, ke, kes, kp⟩ := hL
  obtain ⟨d, rfl⟩ := succP kp
  obtain ⟨a, c, b, o, G, e0, hl, hc, hG, _, ha⟩ := kp.pick
  injection e0 with e1 e2 e3
  subst e1 e3
  unfold maxLen at hc
  obtain ⟨n0, n1⟩ := wf64X p.n hw.2.2.2
  have hil := Lib.itoa_length_le p.n n0 n1
  have hel := expText_len p.e w D _ Fe hw.2.2.1 ke
  have hll := lstT_len kes
  have hX0 := fun w2 (hb : Below w.heap.size w w2) => specExpText_any p.e _ Fe D w2 hw.2.2.1 (ke.below hb) (hE.below hb)
  have hY0 := fun w2 (hb : Below w.heap.size w w2) => l04Exps_any _ p.es Fs D w2 (kes.below hb) (by omega) (hE.below hb)
  have hD0 : ∀ w2, Below w.heap.size w w2 → Calls Tryd.prog 24 #[.int .i64 p.n] w2 fun x w' => x = .returned (.string (bs (Lib.itoa p.n))) ∧ Below w2.heap.size w2 w' := fun w2 hb => (specDec_any p.n w2 n0 n1).mono fun x w' ⟨he, hw'⟩ => ⟨he, hw' ▸ Below.refl _ _⟩
  obtain ⟨t1, H1⟩ := hidE (bs (expText p.e))
  obtain ⟨t2, H2⟩ := hidE (bs (lstT p.es))
  obtain ⟨t4, H4⟩ := hidE (bs (Lib.itoa p.n))
  obtain ⟨dd, HD⟩ := hidE (((f + 1 : Nat) : Int) - 1)
  rw [HD.out]
  rw [H1.out] at hX0
  rw [H2.out] at hY0
  rw [H4.out] at hD0
  have hd0 : 0 ≤ dd := by have := HD.out; omega
  have hd2 : dd ≤ 20 := by have := HD.out; omega
  have hd1 : dd - 1 = (f : Int) - 1 := by have := HD.out; omega
  have hs1 : t1.size ≤ 5000000000000 := by rw [← H1.out, bs_size]; omega
  have hs2 : t2.size ≤ 5000000000000 := by rw [← H2.out, bs_size]; omega
  have hs4 : t4.size ≤ 5000000000000 := by rw [← H4.out, bs_size]; omega
  have HE : Hid (Env w) := hE
  have hI := fun x ux1 ux2 ux3 g w2 hw2 hL2 hn2 hE2 => ih x ux1 ux2 ux3 g D d w2 hw2 hL2 hn2 (by omega) hE2
  rw [← hd1] at hI
  have hKd := fun w2 => l04Kids_in p.k w2 (by rw [h0]; simp)
  have hB := bxP_new w p (.slice a_e p.e.ks.length a_E) (.slice a_s p.es.length a_S) (.slice a_k p.ks.length a_K) 38
  have H0 : Hid (p.k = 2) := h0
  clear hd1 ke kes hE hw ih hil hel hll n0 n1 HD h0
  go_enter Tryd.func12, Tryd.ntmps12
  go_wp2_with fail
  refine Calls.mono (hKd _) ?_
  rintro x w1 ⟨⟨z1, rfl, hz1⟩, hb1⟩
  have hB1 := hB.below hb1
  have bel1 : Below w.heap.size w w1 := by repeat (first | (with_reducible exact Below.refl _ _) | (with_reducible refine Below.drew ?_) | (with_reducible refine Below.alloc ?_ ?hh _; case hh => first | (simp; done) | (simp; omega) | omega) | (with_reducible refine Below.setCell ?_ ?hh _; case hh => first | (simp; done) | (simp; omega) | omega) | refine bstep (by assumption) (by first | (simp; done) | (simp; omega) | omega) ?_)
  have hlw : w.heap.size < w1.heap.size := hB1.1
  clear hKd hb1 hB
  go_wp2
  go_loopw [5, 6] (fun y i wr => ∃ (k : Nat) (x : ByteArray), k ≤ p.ks.length ∧ i = .int .i64 k ∧ y = .string x ∧ x = bs (Lib.join ((p.ks.take k).map (planT f)) [44, 32]) ∧ Below w1.heap.size w1 wr) (fun _ i _ => p.ks.length - (intOf i).toNat)
  case atStart => exact ⟨0, _, Nat.zero_le _, rfl, rfl, rfl, by go_grown⟩
  case round =>
    obtain ⟨k, z, hk, rfl, rfl, hz, hb'⟩ := hrel
    have hBr := hB1.below hb'
    have hb : Below w.heap.size w wr := bel1.trans (hb'.mono bel1.size)
    have hzb := hb.size
    have HZ : Hid (z = bs (Lib.join ((p.ks.take k).map (planT f)) [44, 32])) := hz
    have hj := hkl k
    have hzs : z.size ≤ 5000000000000 := by rw [HZ.out, bs_size]; omega
    clear hz hj
    by_cases hlt : k < p.ks.length
    · obtain ⟨rfl, hblt, _, hL⟩ := ha k hlt
      obtain ⟨x, g, ue, us, u, hx, hg, hxw, ⟨c0, c1, c2, c3, c4, c5, c6, c7, c8, c9, c10, c11⟩, hLx, hbr⟩ := hL.at hG hblt hb hlt
      obtain ⟨x_e, x_E, x_s, x_S, x_k, x_K, rfl, rfl, rfl, _, _, _, _, _, _⟩ := hLx.shape
      have HX := ksP_next (f := f) hx
      have hxn : wtP x ≤ 1048576 := by have := wtP_mem (List.mem_of_getElem? hx); omega
      have hxt := planT_len f x wr D d _ _ _ g hxw hLx
      have hV := fun w2 (hb2 : Below wr.heap.size wr w2) => hI x _ _ _ g w2 hxw (hLx.below hb2) hxn (HE.out.below (hb.trans (hb2.mono hzb)))
      obtain ⟨t3, H3⟩ := hidE (bs (planT f x))
      rw [H3.out] at hV
      have hs3 : t3.size ≤ 5000000000000 := by rw [← H3.out, bs_size]; omega
      obtain ⟨_, _, _, _, _, _, _, _, _, _, _, _, b11⟩ := hBr
      by_cases hk0 : k = 0
      · subst hk0
        rw [if_pos rfl] at HX
        have HF : Hid (z ++ t3 = bs (Lib.join ((p.ks.take (0 + 1)).map (planT f)) [44, 32])) := by
          show _ = _
          rw [HX, HZ.out, ← H3.out]
          simp [Lib.join_nil]
          rw [show bs [] = ByteArray.empty from rfl, ByteArray.empty_append]
        simp only [Nat.zero_mul, Nat.add_zero] at c0 c1 c2 c3 c4 c5 c6 c7 c8 c9 c10 c11
        clear ha hL hx hxw hLx hg HX H1 H2 H3 H4 hkl hxt hI hX0 hY0 hD0 hxn
        go_wp2_with fail
        refine Calls.mono (hV _ (Below.refl _ _)) ?_
        rintro e w2 ⟨rfl, hb2⟩
        have bel2 : Below w1.heap.size w1 w2 := hb'.trans (hb2.mono hb'.size)
        clear hV hb2 c0 c1 c2 c3 c4 c5 c6 c7 c8 c9 c10 c11 b11
        go_wp2_with fail
        exact ⟨⟨0 + 1, _, hlt, by simp, rfl, HF.out, bel2⟩, by simp [intOf]; omega⟩
      · rw [if_neg hk0] at HX
        have hkp : (0 : Int) < (k : Int) := by omega
        have hzc : (z ++ (⟨#[44, 32]⟩ : ByteArray)).size ≤ 5000000000002 := by rw [ByteArray.size_append]; have : (⟨#[44, 32]⟩ : ByteArray).size = 2 := rfl; omega
        have HF : Hid ((z ++ (⟨#[44, 32]⟩ : ByteArray)) ++ t3 = bs (Lib.join ((p.ks.take (k + 1)).map (planT f)) [44, 32])) := by
          show _ = _
          rw [HX, HZ.out, ← H3.out, show (⟨#[44, 32]⟩ : ByteArray) = bs [44, 32] from rfl, bs_app, bs_app, List.append_assoc]
        clear ha hL hx hxw hLx hg HX H1 H2 H3 H4 hkl hxt hI hX0 hY0 hD0 hxn
        go_wp2_with fail
        refine Calls.mono (hV _ (Below.refl _ _)) ?_
        rintro e w2 ⟨rfl, hb2⟩
        have bel2 : Below w1.heap.size w1 w2 := hb'.trans (hb2.mono hb'.size)
        clear hV hb2 c0 c1 c2 c3 c4 c5 c6 c7 c8 c9 c10 c11 b11
        go_wp2_with fail
        exact ⟨⟨k + 1, _, hlt, by simp, rfl, HF.out, bel2⟩, by simp [intOf]; omega⟩
    · obtain rfl : k = p.ks.length := by omega
      obtain ⟨t3, H3'⟩ : ∃ t3, t3 = z := ⟨_, rfl⟩
      subst H3'
      have H3 : Hid (bs (ksT f p) = t3) := by show _ = _; rw [HZ.out, List.take_length]; rfl
      have hs3 := hzs
      clear ha hkl hI HZ hzs
      have h0 := H0.out
      have HR2 : Hid (bs ([112, 114, 111, 106, 101, 99, 116, 40] ++ (lstT p.es ++ ([44, 32] ++ (ksT f p ++ [41])))) = r) := by show _ = _; rw [← HR.out, planT_2 h0]
      have k0 : (p.k == 0) = false := by rw [h0]; rfl
      have k1 : (p.k == 1) = false := by rw [h0]; rfl
      have k2 : (p.k == 2) = true := by rw [h0]; rfl
      have sz1 : ((⟨#[112, 114, 111, 106, 101, 99, 116, 40]⟩ : ByteArray) ++ t2).size ≤ 5000000000010 := by simp only [ByteArray.size_append]; have z0 : (⟨#[112, 114, 111, 106, 101, 99, 116, 40]⟩ : ByteArray).size = 8 := rfl; omega
      have sz2 : ((⟨#[112, 114, 111, 106, 101, 99, 116, 40]⟩ : ByteArray) ++ t2 ++ (⟨#[44, 32]⟩ : ByteArray)).size ≤ 5000000000020 := by simp only [ByteArray.size_append]; have z0 : (⟨#[112, 114, 111, 106, 101, 99, 116, 40]⟩ : ByteArray).size = 8 := rfl; have z1 : (⟨#[44, 32]⟩ : ByteArray).size = 2 := rfl; omega
      have sz3 : ((⟨#[112, 114, 111, 106, 101, 99, 116, 40]⟩ : ByteArray) ++ t2 ++ (⟨#[44, 32]⟩ : ByteArray) ++ t3).size ≤ 10000000000020 := by simp only [ByteArray.size_append]; have z0 : (⟨#[112, 114, 111, 106, 101, 99, 116, 40]⟩ : ByteArray).size = 8 := rfl; have z1 : (⟨#[44, 32]⟩ : ByteArray).size = 2 := rfl; omega
      have HF : Hid ((⟨#[112, 114, 111, 106, 101, 99, 116, 40]⟩ : ByteArray) ++ t2 ++ (⟨#[44, 32]⟩ : ByteArray) ++ t3 ++ (⟨#[41]⟩ : ByteArray) = r) := by
        show _ = _
        rw [← HR2.out, ← H2.out, ← H3.out, show (⟨#[112, 114, 111, 106, 101, 99, 116, 40]⟩ : ByteArray) = bs [112, 114, 111, 106, 101, 99, 116, 40] from rfl, show (⟨#[41]⟩ : ByteArray) = bs [41] from rfl, show (⟨#[44, 32]⟩ : ByteArray) = bs [44, 32] from rfl, bs_app, bs_app, bs_app, bs_app]
        simp
      obtain ⟨_, x0, x1, x2, x3, x4, x5, x6, x7, x8, x9, x10, x11⟩ := hBr
      clear HR2 h0 H1 H2 H3 H4
      go_wp2_with fail
      refine Calls.mono (hY0 _ hb) ?_
      rintro q w2 ⟨rfl, hb2⟩
      have bel2 : Below w.heap.size w w2 := hb.trans (hb2.mono hzb)
      clear hX0 hY0 hD0 hb2 x0 x1 x2 x3 x4 x5 x6 x7 x8 x9 x10 x11
      go_wp2_with fail
      go_returns
      exact ⟨by rw [← HF.out]; rfl, bel2⟩
end Go.Proofs.YtlpgkhdmilnbgaaDoor
/- Own text. spec.l04Text of a plan of one kind. -/
namespace Go.Proofs.YtlpgkhdmilnbgaaDoor
open Go.RowKit
set_option linter.unusedVariables false
set_option maxHeartbeats 8000000 in
set_option maxRecDepth 100000 in
theorem tpS_3 {f : Nat} (ih : TpS f) {p : P12} {ue us u : Value} {g : List Nat} {D d : Nat} {w : World} (hw : p.wf) (hL : ListsP w D (PlansIs w D d) p ue us u g) (hn : wtP p ≤ 1048576) (hf : f + 1 ≤ 21) (hE : Env w) (h0 : p.k = 3) :
    Calls Tryd.prog 12 #[(.agg #[.int .i64 p.k, .string p.s, .int .i64 p.e.k, .int .i64 p.e.n, .int .i64 p.e.v.k, .int .i64 p.e.v.n, .string p.e.v.s, .string p.e.p, ue, us, .int .i64 p.n, u]), .int .i64 (((f + 1 : Nat) : Int) - 1)] w fun x w' => x = .returned (.string (bs (planT (f + 1) p))) ∧ Below w.heap.size w w' := by
  obtain ⟨r, HR⟩ := hidE (bs (planT (f + 1) p))
  rw [HR.out]
  have hkl := ksT_len (planT_len f) hL
  have hwt := wtP_eq p
  obtain ⟨a_e, a_E, a_s, a_S, a_k, a_K, rfl, rfl, rfl, _, _, _, _, _, _⟩ := hL.shape
  obtain ⟨Fe, Fs, h, rfl, ke, kes, kp⟩ := hL
  obtain ⟨d, rfl⟩ := succP kp
  obtain ⟨a, c, b, o, G, e0, hl, hc, hG, _, ha⟩ := kp.pick
  injection e0 with e1 e2 e3
  subst e1 e3
  unfold maxLen at hc
  obtain ⟨n0, n1⟩ := wf64X p.n hw.2.2.2
  have hil := Lib.itoa_length_le p.n n0 n1
  have hel := expText_len p.e w D _ Fe hw.2.2.1 ke
  have hll := lstT_len kes
  have hX0 := fun w2 (hb : Below w.heap.size w w2) => specExpText_any p.e _ Fe D w2 hw.2.2.1 (ke.below hb) (hE.below hb)
  have hY0 := fun w2 (hb : Below w.heap.size w w2) => l04Exps_any _ p.es Fs D w2 (kes.below hb) (by omega) (hE.below hb)
  have hD0 : ∀ w2, Below w.heap.size w w2 → Calls Tryd.prog 24 #[.int .i64 p.n] w2 fun x w' => x = .returned (.string (bs (Lib.itoa p.n))) ∧ Below w2.heap.size w2 w' := fun w2 hb => (specDec_any p.n w2 n0 n1).mono fun x w' ⟨he, hw'⟩ => ⟨he, hw' ▸ Below.refl _ _⟩
  obtain ⟨t1, H1⟩ := hidE (bs (expText p.e))
  obtain ⟨t2, H2⟩ := hidE (bs (lstT p.es))
  obtain ⟨t4, H4⟩ := hidE (bs (Lib.itoa p.n))
  obtain ⟨dd, HD⟩ := hidE (((f + 1 : Nat) : Int) - 1)
  rw [HD.out]
  rw [H1.out] at hX0
  rw [H2.out] at hY0
  rw [H4.out] at hD0
  have hd0 : 0 ≤ dd := by have := HD.out; omega
  have hd2 : dd ≤ 20 := by have := HD.out; omega
  have hd1 : dd - 1 = (f : Int) - 1 := by have := HD.out; omega
  have hs1 : t1.size ≤ 5000000000000 := by rw [← H1.out, bs_size]; omega
  have hs2 : t2.size ≤ 5000000000000 := by rw [← H2.out, bs_size]; omega
  have hs4 : t4.size ≤ 5000000000000 := by rw [← H4.out, bs_size]; omega
  have HE : Hid (Env w) := hE
  have hI := fun x ux1 ux2 ux3 g w2 hw2 hL2 hn2 hE2 => ih x ux1 ux2 ux3 g D d w2 hw2 hL2 hn2 (by omega) hE2
  rw [← hd1] at hI
  have hKd := fun w2 => l04Kids_in p.k w2 (by rw [h0]; simp)
  have hB := bxP_new w p (.slice a_e p.e.ks.length a_E) (.slice a_s p.es.length a_S) (.slice a_k p.ks.length a_K) 38
  have H0 : Hid (p.k = 3) := h0
  clear hd1 ke kes hE hw ih hil hel hll n0 n1 HD h0
  go_enter Tryd.func12, Tryd.ntmps12
  go_wp2_with fail
  refine Calls.mono (hKd _) ?_
  rintro x w1 ⟨⟨z1, rfl, hz1⟩, hb1⟩
  have hB1 := hB.below hb1
  have bel1 : Below w.heap.size w w1 := by repeat (first | (with_reducible exact Below.refl _ _) | (with_reducible refine Below.drew ?_) | (with_reducible refine Below.alloc ?_ ?hh _; case hh => first | (simp; done) | (simp; omega) | omega) | (with_reducible refine Below.setCell ?_ ?hh _; case hh => first | (simp; done) | (simp; omega) | omega) | refine bstep (by assumption) (by first | (simp; done) | (simp; omega) | omega) ?_)
  have hlw : w.heap.size < w1.heap.size := hB1.1
  clear hKd hb1 hB
  go_wp2
  go_loopw [5, 6] (fun y i wr => ∃ (k : Nat) (x : ByteArray), k ≤ p.ks.length ∧ i = .int .i64 k ∧ y = .string x ∧ x = bs (Lib.join ((p.ks.take k).map (planT f)) [44, 32]) ∧ Below w1.heap.size w1 wr) (fun _ i _ => p.ks.length - (intOf i).toNat)
  case atStart => exact ⟨0, _, Nat.zero_le _, rfl, rfl, rfl, by go_grown⟩
  case round =>
    obtain ⟨k, z, hk, rfl, rfl, hz, hb'⟩ := hrel
    have hBr := hB1.below hb'
    have hb : Below w.heap.size w wr := bel1.trans (hb'.mono bel1.size)
    have hzb := hb.size
    have HZ : Hid (z = bs (Lib.join ((p.ks.take k).map (planT f)) [44, 32])) := hz
    have hj := hkl k
    have hzs : z.size ≤ 5000000000000 := by rw [HZ.out, bs_size]; omega
    clear hz hj
    by_cases hlt : k < p.ks.length
    · obtain ⟨rfl, hblt, _, hL⟩ := ha k hlt
      obtain ⟨x, g, ue, us, u, hx, hg, hxw, ⟨c0, c1, c2, c3, c4, c5, c6, c7, c8, c9, c10, c11⟩, hLx, hbr⟩ := hL.at hG hblt hb hlt
      obtain ⟨x_e, x_E, x_s, x_S, x_k, x_K, rfl, rfl, rfl, _, _, _, _, _, _⟩ := hLx.shape
      have HX := ksP_next (f := f) hx
      have hxn : wtP x ≤ 1048576 := by have := wtP_mem (List.mem_of_getElem? hx); omega
      have hxt := planT_len f x wr D d _ _ _ g hxw hLx
      have hV := fun w2 (hb2 : Below wr.heap.size wr w2) => hI x _ _ _ g w2 hxw (hLx.below hb2) hxn (HE.out.below (hb.trans (hb2.mono hzb)))
      obtain ⟨t3, H3⟩ := hidE (bs (planT f x))
      rw [H3.out] at hV
      have hs3 : t3.size ≤ 5000000000000 := by rw [← H3.out, bs_size]; omega
      obtain ⟨_, _, _, _, _, _, _, _, _, _, _, _, b11⟩ := hBr
      by_cases hk0 : k = 0
      · subst hk0
        rw [if_pos rfl] at HX
        have HF : Hid (z ++ t3 = bs (Lib.join ((p.ks.take (0 + 1)).map (planT f)) [44, 32])) := by
          show _ = _
          rw [HX, HZ.out, ← H3.out]
          simp [Lib.join_nil]
          rw [show bs [] = ByteArray.empty from rfl, ByteArray.empty_append]
        simp only [Nat.zero_mul, Nat.add_zero] at c0 c1 c2 c3 c4 c5 c6 c7 c8 c9 c10 c11
        clear ha hL hx hxw hLx hg HX H1 H2 H3 H4 hkl hxt hI hX0 hY0 hD0 hxn
        go_wp2_with fail
        refine Calls.mono (hV _ (Below.refl _ _)) ?_
        rintro e w2 ⟨rfl, hb2⟩
        have bel2 : Below w1.heap.size w1 w2 := hb'.trans (hb2.mono hb'.size)
        clear hV hb2 c0 c1 c2 c3 c4 c5 c6 c7 c8 c9 c10 c11 b11
        go_wp2_with fail
        exact ⟨⟨0 + 1, _, hlt, by simp, rfl, HF.out, bel2⟩, by simp [intOf]; omega⟩
      · rw [if_neg hk0] at HX
        have hkp : (0 : Int) < (k : Int) := by omega
        have hzc : (z ++ (⟨#[44, 32]⟩ : ByteArray)).size ≤ 5000000000002 := by rw [ByteArray.size_append]; have : (⟨#[44, 32]⟩ : ByteArray).size = 2 := rfl; omega
        have HF : Hid ((z ++ (⟨#[44, 32]⟩ : ByteArray)) ++ t3 = bs (Lib.join ((p.ks.take (k + 1)).map (planT f)) [44, 32])) := by
          show _ = _
          rw [HX, HZ.out, ← H3.out, show (⟨#[44, 32]⟩ : ByteArray) = bs [44, 32] from rfl, bs_app, bs_app, List.append_assoc]
        clear ha hL hx hxw hLx hg HX H1 H2 H3 H4 hkl hxt hI hX0 hY0 hD0 hxn
        go_wp2_with fail
        refine Calls.mono (hV _ (Below.refl _ _)) ?_
        rintro e w2 ⟨rfl, hb2⟩
        have bel2 : Below w1.heap.size w1 w2 := hb'.trans (hb2.mono hb'.size)
        clear hV hb2 c0 c1 c2 c3 c4 c5 c6 c7 c8 c9 c10 c11 b11
        go_wp2_with fail
        exact ⟨⟨k + 1, _, hlt, by simp, rfl, HF.out, bel2⟩, by simp [intOf]; omega⟩
    · obtain rfl : k = p.ks.length := by omega
      obtain ⟨t3, H3'⟩ : ∃ t3, t3 = z := ⟨_, rfl⟩
      subst H3'
      have H3 : Hid (bs (ksT f p) = t3) := by show _ = _; rw [HZ.out, List.take_length]; rfl
      have hs3 := hzs
      clear ha hkl hI HZ hzs
      have h0 := H0.out
      have HR2 : Hid (bs ([106, 111, 105, 110, 40] ++ (expText p.e ++ ([44, 32] ++ (ksT f p ++ [41])))) = r) := by show _ = _; rw [← HR.out, planT_3 h0]
      have k0 : (p.k == 0) = false := by rw [h0]; rfl
      have k1 : (p.k == 1) = false := by rw [h0]; rfl
      have k2 : (p.k == 2) = false := by rw [h0]; rfl
      have k3 : (p.k == 3) = true := by rw [h0]; rfl
      have sz1 : ((⟨#[106, 111, 105, 110, 40]⟩ : ByteArray) ++ t1).size ≤ 5000000000010 := by simp only [ByteArray.size_append]; have z0 : (⟨#[106, 111, 105, 110, 40]⟩ : ByteArray).size = 5 := rfl; omega
      have sz2 : ((⟨#[106, 111, 105, 110, 40]⟩ : ByteArray) ++ t1 ++ (⟨#[44, 32]⟩ : ByteArray)).size ≤ 5000000000020 := by simp only [ByteArray.size_append]; have z0 : (⟨#[106, 111, 105, 110, 40]⟩ : ByteArray).size = 5 := rfl; have z1 : (⟨#[44, 32]⟩ : ByteArray).size = 2 := rfl; omega
      have sz3 : ((⟨#[106, 111, 105, 110, 40]⟩ : ByteArray) ++ t1 ++ (⟨#[44, 32]⟩ : ByteArray) ++ t3).size ≤ 10000000000020 := by simp only [ByteArray.size_append]; have z0 : (⟨#[106, 111, 105, 110, 40]⟩ : ByteArray).size = 5 := rfl; have z1 : (⟨#[44, 32]⟩ : ByteArray).size = 2 := rfl; omega
      have HF : Hid ((⟨#[106, 111, 105, 110, 40]⟩ : ByteArray) ++ t1 ++ (⟨#[44, 32]⟩ : ByteArray) ++ t3 ++ (⟨#[41]⟩ : ByteArray) = r) := by
        show _ = _
        rw [← HR2.out, ← H1.out, ← H3.out, show (⟨#[106, 111, 105, 110, 40]⟩ : ByteArray) = bs [106, 111, 105, 110, 40] from rfl, show (⟨#[41]⟩ : ByteArray) = bs [41] from rfl, show (⟨#[44, 32]⟩ : ByteArray) = bs [44, 32] from rfl, bs_app, bs_app, bs_app, bs_app]
        simp
      obtain ⟨_, x0, x1, x2, x3, x4, x5, x6, x7, x8, x9, x10, x11⟩ := hBr
      clear HR2 h0 H1 H2 H3 H4
      go_wp2_with fail
      refine Calls.mono (hX0 _ hb) ?_
      rintro q w2 ⟨rfl, hb2⟩
      have bel2 : Below w.heap.size w w2 := hb.trans (hb2.mono hzb)
      clear hX0 hY0 hD0 hb2 x0 x1 x2 x3 x4 x5 x6 x7 x8 x9 x10 x11
      go_wp2_with fail
      go_returns
      exact ⟨by rw [← HF.out]; rfl, bel2⟩
end Go.Proofs.YtlpgkhdmilnbgaaDoor
/- Own text. spec.l04Text of a plan of one kind. -/
namespace Go.Proofs.YtlpgkhdmilnbgaaDoor
open Go.RowKit
set_option linter.unusedVariables false
set_option maxHeartbeats 8000000 in
set_option maxRecDepth 100000 in
theorem tpS_4 {f : Nat} (ih : TpS f) {p : P12} {ue us u : Value} {g : List Nat} {D d : Nat} {w : World} (hw : p.wf) (hL : ListsP w D (PlansIs w D d) p ue us u g) (hn : wtP p ≤ 1048576) (hf : f + 1 ≤ 21) (hE : Env w) (h0 : p.k = 4) :
    Calls Tryd.prog 12 #[(.agg #[.int .i64 p.k, .string p.s, .int .i64 p.e.k, .int .i64 p.e.n, .int .i64 p.e.v.k, .int .i64 p.e.v.n, .string p.e.v.s, .string p.e.p, ue, us, .int .i64 p.n, u]), .int .i64 (((f + 1 : Nat) : Int) - 1)] w fun x w' => x = .returned (.string (bs (planT (f + 1) p))) ∧ Below w.heap.size w w' := by
  obtain ⟨r, HR⟩ := hidE (bs (planT (f + 1) p))
  rw [HR.out]
  have hkl := ksT_len (planT_len f) hL
  have hwt := wtP_eq p
  obtain ⟨a_e, a_E, a_s, a_S, a_k, a_K, rfl, rfl, rfl, _, _, _, _, _, _⟩ := hL.shape
  obtain ⟨Fe, Fs, h, rfl, ke, kes, kp⟩ := hL
  obtain ⟨d, rfl⟩ := succP kp
  obtain ⟨a, c, b, o, G, e0, hl, hc, hG, _, ha⟩ := kp.pick
  injection e0 with e1 e2 e3
  subst e1 e3
  unfold maxLen at hc
  obtain ⟨n0, n1⟩ := wf64X p.n hw.2.2.2
  have hil := Lib.itoa_length_le p.n n0 n1
  have hel := expText_len p.e w D _ Fe hw.2.2.1 ke
  have hll := lstT_len kes
  have hX0 := fun w2 (hb : Below w.heap.size w w2) => specExpText_any p.e _ Fe D w2 hw.2.2.1 (ke.below hb) (hE.below hb)
  have hY0 := fun w2 (hb : Below w.heap.size w w2) => l04Exps_any _ p.es Fs D w2 (kes.below hb) (by omega) (hE.below hb)
  have hD0 : ∀ w2, Below w.heap.size w w2 → Calls Tryd.prog 24 #[.int .i64 p.n] w2 fun x w' => x = .returned (.string (bs (Lib.itoa p.n))) ∧ Below w2.heap.size w2 w' := fun w2 hb => (specDec_any p.n w2 n0 n1).mono fun x w' ⟨he, hw'⟩ => ⟨he, hw' ▸ Below.refl _ _⟩
  obtain ⟨t1, H1⟩ := hidE (bs (expText p.e))
  obtain ⟨t2, H2⟩ := hidE (bs (lstT p.es))
  obtain ⟨t4, H4⟩ := hidE (bs (Lib.itoa p.n))
  obtain ⟨dd, HD⟩ := hidE (((f + 1 : Nat) : Int) - 1)
  rw [HD.out]
  rw [H1.out] at hX0
  rw [H2.out] at hY0
  rw [H4.out] at hD0
  have hd0 : 0 ≤ dd := by have := HD.out; omega
  have hd2 : dd ≤ 20 := by have := HD.out; omega
  have hd1 : dd - 1 = (f : Int) - 1 := by have := HD.out; omega
  have hs1 : t1.size ≤ 5000000000000 := by rw [← H1.out, bs_size]; omega
  have hs2 : t2.size ≤ 5000000000000 := by rw [← H2.out, bs_size]; omega
  have hs4 : t4.size ≤ 5000000000000 := by rw [← H4.out, bs_size]; omega
  have HE : Hid (Env w) := hE
  have hI := fun x ux1 ux2 ux3 g w2 hw2 hL2 hn2 hE2 => ih x ux1 ux2 ux3 g D d w2 hw2 hL2 hn2 (by omega) hE2
  rw [← hd1] at hI
  have hKd := fun w2 => l04Kids_in p.k w2 (by rw [h0]; simp)
  have hB := bxP_new w p (.slice a_e p.e.ks.length a_E) (.slice a_s p.es.length a_S) (.slice a_k p.ks.length a_K) 38
  have H0 : Hid (p.k = 4) := h0
  clear hd1 ke kes hE hw ih hil hel hll n0 n1 HD h0
  go_enter Tryd.func12, Tryd.ntmps12
  go_wp2_with fail
  refine Calls.mono (hKd _) ?_
  rintro x w1 ⟨⟨z1, rfl, hz1⟩, hb1⟩
  have hB1 := hB.below hb1
  have bel1 : Below w.heap.size w w1 := by repeat (first | (with_reducible exact Below.refl _ _) | (with_reducible refine Below.drew ?_) | (with_reducible refine Below.alloc ?_ ?hh _; case hh => first | (simp; done) | (simp; omega) | omega) | (with_reducible refine Below.setCell ?_ ?hh _; case hh => first | (simp; done) | (simp; omega) | omega) | refine bstep (by assumption) (by first | (simp; done) | (simp; omega) | omega) ?_)
  have hlw : w.heap.size < w1.heap.size := hB1.1
  clear hKd hb1 hB
  go_wp2
  go_loopw [5, 6] (fun y i wr => ∃ (k : Nat) (x : ByteArray), k ≤ p.ks.length ∧ i = .int .i64 k ∧ y = .string x ∧ x = bs (Lib.join ((p.ks.take k).map (planT f)) [44, 32]) ∧ Below w1.heap.size w1 wr) (fun _ i _ => p.ks.length - (intOf i).toNat)
  case atStart => exact ⟨0, _, Nat.zero_le _, rfl, rfl, rfl, by go_grown⟩
  case round =>
    obtain ⟨k, z, hk, rfl, rfl, hz, hb'⟩ := hrel
    have hBr := hB1.below hb'
    have hb : Below w.heap.size w wr := bel1.trans (hb'.mono bel1.size)
    have hzb := hb.size
    have HZ : Hid (z = bs (Lib.join ((p.ks.take k).map (planT f)) [44, 32])) := hz
    have hj := hkl k
    have hzs : z.size ≤ 5000000000000 := by rw [HZ.out, bs_size]; omega
    clear hz hj
    by_cases hlt : k < p.ks.length
    · obtain ⟨rfl, hblt, _, hL⟩ := ha k hlt
      obtain ⟨x, g, ue, us, u, hx, hg, hxw, ⟨c0, c1, c2, c3, c4, c5, c6, c7, c8, c9, c10, c11⟩, hLx, hbr⟩ := hL.at hG hblt hb hlt
      obtain ⟨x_e, x_E, x_s, x_S, x_k, x_K, rfl, rfl, rfl, _, _, _, _, _, _⟩ := hLx.shape
      have HX := ksP_next (f := f) hx
      have hxn : wtP x ≤ 1048576 := by have := wtP_mem (List.mem_of_getElem? hx); omega
      have hxt := planT_len f x wr D d _ _ _ g hxw hLx
      have hV := fun w2 (hb2 : Below wr.heap.size wr w2) => hI x _ _ _ g w2 hxw (hLx.below hb2) hxn (HE.out.below (hb.trans (hb2.mono hzb)))
      obtain ⟨t3, H3⟩ := hidE (bs (planT f x))
      rw [H3.out] at hV
      have hs3 : t3.size ≤ 5000000000000 := by rw [← H3.out, bs_size]; omega
      obtain ⟨_, _, _, _, _, _, _, _, _, _, _, _, b11⟩ := hBr
      by_cases hk0 : k = 0
      · subst hk0
        rw [if_pos rfl] at HX
        have HF : Hid (z ++ t3 = bs (Lib.join ((p.ks.take (0 + 1)).map (planT f)) [44, 32])) := by
          show _ = _
          rw [HX, HZ.out, ← H3.out]
          simp [Lib.join_nil]
          rw [show bs [] = ByteArray.empty from rfl, ByteArray.empty_append]
        simp only [Nat.zero_mul, Nat.add_zero] at c0 c1 c2 c3 c4 c5 c6 c7 c8 c9 c10 c11
        clear ha hL hx hxw hLx hg HX H1 H2 H3 H4 hkl hxt hI hX0 hY0 hD0 hxn
        go_wp2_with fail
        refine Calls.mono (hV _ (Below.refl _ _)) ?_
        rintro e w2 ⟨rfl, hb2⟩
        have bel2 : Below w1.heap.size w1 w2 := hb'.trans (hb2.mono hb'.size)
        clear hV hb2 c0 c1 c2 c3 c4 c5 c6 c7 c8 c9 c10 c11 b11
        go_wp2_with fail
        exact ⟨⟨0 + 1, _, hlt, by simp, rfl, HF.out, bel2⟩, by simp [intOf]; omega⟩
      · rw [if_neg hk0] at HX
        have hkp : (0 : Int) < (k : Int) := by omega
        have hzc : (z ++ (⟨#[44, 32]⟩ : ByteArray)).size ≤ 5000000000002 := by rw [ByteArray.size_append]; have : (⟨#[44, 32]⟩ : ByteArray).size = 2 := rfl; omega
        have HF : Hid ((z ++ (⟨#[44, 32]⟩ : ByteArray)) ++ t3 = bs (Lib.join ((p.ks.take (k + 1)).map (planT f)) [44, 32])) := by
          show _ = _
          rw [HX, HZ.out, ← H3.out, show (⟨#[44, 32]⟩ : ByteArray) = bs [44, 32] from rfl, bs_app, bs_app, List.append_assoc]
        clear ha hL hx hxw hLx hg HX H1 H2 H3 H4 hkl hxt hI hX0 hY0 hD0 hxn
        go_wp2_with fail
        refine Calls.mono (hV _ (Below.refl _ _)) ?_
        rintro e w2 ⟨rfl, hb2⟩
        have bel2 : Below w1.heap.size w1 w2 := hb'.trans (hb2.mono hb'.size)
        clear hV hb2 c0 c1 c2 c3 c4 c5 c6 c7 c8 c9 c10 c11 b11
        go_wp2_with fail
        exact ⟨⟨k + 1, _, hlt, by simp, rfl, HF.out, bel2⟩, by simp [intOf]; omega⟩
    · obtain rfl : k = p.ks.length := by omega
      obtain ⟨t3, H3'⟩ : ∃ t3, t3 = z := ⟨_, rfl⟩
      subst H3'
      have H3 : Hid (bs (ksT f p) = t3) := by show _ = _; rw [HZ.out, List.take_length]; rfl
      have hs3 := hzs
      clear ha hkl hI HZ hzs
      have h0 := H0.out
      have HR2 : Hid (bs ([117, 110, 105, 111, 110, 40] ++ (ksT f p ++ [41])) = r) := by show _ = _; rw [← HR.out, planT_4 h0]
      have k0 : (p.k == 0) = false := by rw [h0]; rfl
      have k1 : (p.k == 1) = false := by rw [h0]; rfl
      have k2 : (p.k == 2) = false := by rw [h0]; rfl
      have k3 : (p.k == 3) = false := by rw [h0]; rfl
      have k4 : (p.k == 4) = true := by rw [h0]; rfl
      have sz1 : ((⟨#[117, 110, 105, 111, 110, 40]⟩ : ByteArray) ++ t3).size ≤ 5000000000010 := by simp only [ByteArray.size_append]; have z0 : (⟨#[117, 110, 105, 111, 110, 40]⟩ : ByteArray).size = 6 := rfl; omega
      have HF : Hid ((⟨#[117, 110, 105, 111, 110, 40]⟩ : ByteArray) ++ t3 ++ (⟨#[41]⟩ : ByteArray) = r) := by
        show _ = _
        rw [← HR2.out, ← H3.out, show (⟨#[117, 110, 105, 111, 110, 40]⟩ : ByteArray) = bs [117, 110, 105, 111, 110, 40] from rfl, show (⟨#[41]⟩ : ByteArray) = bs [41] from rfl, bs_app, bs_app]
        simp
      obtain ⟨_, x0, x1, x2, x3, x4, x5, x6, x7, x8, x9, x10, x11⟩ := hBr
      clear hX0 hY0 hD0 HR2 h0 H1 H2 H3 H4
      go_wp2_with fail
      go_returns
      exact ⟨by rw [← HF.out]; rfl, hb⟩
end Go.Proofs.YtlpgkhdmilnbgaaDoor
/- Own text. spec.l04Text of a plan of one kind. -/
namespace Go.Proofs.YtlpgkhdmilnbgaaDoor
open Go.RowKit
set_option linter.unusedVariables false
set_option maxHeartbeats 8000000 in
set_option maxRecDepth 100000 in
theorem tpS_5 {f : Nat} (ih : TpS f) {p : P12} {ue us u : Value} {g : List Nat} {D d : Nat} {w : World} (hw : p.wf) (hL : ListsP w D (PlansIs w D d) p ue us u g) (hn : wtP p ≤ 1048576) (hf : f + 1 ≤ 21) (hE : Env w) (h0 : p.k = 5) :
    Calls Tryd.prog 12 #[(.agg #[.int .i64 p.k, .string p.s, .int .i64 p.e.k, .int .i64 p.e.n, .int .i64 p.e.v.k, .int .i64 p.e.v.n, .string p.e.v.s, .string p.e.p, ue, us, .int .i64 p.n, u]), .int .i64 (((f + 1 : Nat) : Int) - 1)] w fun x w' => x = .returned (.string (bs (planT (f + 1) p))) ∧ Below w.heap.size w w' := by
  obtain ⟨r, HR⟩ := hidE (bs (planT (f + 1) p))
  rw [HR.out]
  have hkl := ksT_len (planT_len f) hL
  have hwt := wtP_eq p
  obtain ⟨a_e, a_E, a_s, a_S, a_k, a_K, rfl, rfl, rfl, _, _, _, _, _, _⟩ := hL.shape
  obtain ⟨Fe, Fs, h, rfl, ke, kes, kp⟩ := hL
  obtain ⟨d, rfl⟩ := succP kp
  obtain ⟨a, c, b, o, G, e0, hl, hc, hG, _, ha⟩ := kp.pick
  injection e0 with e1 e2 e3
  subst e1 e3
  unfold maxLen at hc
  obtain ⟨n0, n1⟩ := wf64X p.n hw.2.2.2
  have hil := Lib.itoa_length_le p.n n0 n1
  have hel := expText_len p.e w D _ Fe hw.2.2.1 ke
  have hll := lstT_len kes
  have hX0 := fun w2 (hb : Below w.heap.size w w2) => specExpText_any p.e _ Fe D w2 hw.2.2.1 (ke.below hb) (hE.below hb)
  have hY0 := fun w2 (hb : Below w.heap.size w w2) => l04Exps_any _ p.es Fs D w2 (kes.below hb) (by omega) (hE.below hb)
  have hD0 : ∀ w2, Below w.heap.size w w2 → Calls Tryd.prog 24 #[.int .i64 p.n] w2 fun x w' => x = .returned (.string (bs (Lib.itoa p.n))) ∧ Below w2.heap.size w2 w' := fun w2 hb => (specDec_any p.n w2 n0 n1).mono fun x w' ⟨he, hw'⟩ => ⟨he, hw' ▸ Below.refl _ _⟩
  obtain ⟨t1, H1⟩ := hidE (bs (expText p.e))
  obtain ⟨t2, H2⟩ := hidE (bs (lstT p.es))
  obtain ⟨t4, H4⟩ := hidE (bs (Lib.itoa p.n))
  obtain ⟨dd, HD⟩ := hidE (((f + 1 : Nat) : Int) - 1)
  rw [HD.out]
  rw [H1.out] at hX0
  rw [H2.out] at hY0
  rw [H4.out] at hD0
  have hd0 : 0 ≤ dd := by have := HD.out; omega
  have hd2 : dd ≤ 20 := by have := HD.out; omega
  have hd1 : dd - 1 = (f : Int) - 1 := by have := HD.out; omega
  have hs1 : t1.size ≤ 5000000000000 := by rw [← H1.out, bs_size]; omega
  have hs2 : t2.size ≤ 5000000000000 := by rw [← H2.out, bs_size]; omega
  have hs4 : t4.size ≤ 5000000000000 := by rw [← H4.out, bs_size]; omega
  have HE : Hid (Env w) := hE
  have hI := fun x ux1 ux2 ux3 g w2 hw2 hL2 hn2 hE2 => ih x ux1 ux2 ux3 g D d w2 hw2 hL2 hn2 (by omega) hE2
  rw [← hd1] at hI
  have hKd := fun w2 => l04Kids_in p.k w2 (by rw [h0]; simp)
  have hB := bxP_new w p (.slice a_e p.e.ks.length a_E) (.slice a_s p.es.length a_S) (.slice a_k p.ks.length a_K) 38
  have H0 : Hid (p.k = 5) := h0
  clear hd1 ke kes hE hw ih hil hel hll n0 n1 HD h0
  go_enter Tryd.func12, Tryd.ntmps12
  go_wp2_with fail
  refine Calls.mono (hKd _) ?_
  rintro x w1 ⟨⟨z1, rfl, hz1⟩, hb1⟩
  have hB1 := hB.below hb1
  have bel1 : Below w.heap.size w w1 := by repeat (first | (with_reducible exact Below.refl _ _) | (with_reducible refine Below.drew ?_) | (with_reducible refine Below.alloc ?_ ?hh _; case hh => first | (simp; done) | (simp; omega) | omega) | (with_reducible refine Below.setCell ?_ ?hh _; case hh => first | (simp; done) | (simp; omega) | omega) | refine bstep (by assumption) (by first | (simp; done) | (simp; omega) | omega) ?_)
  have hlw : w.heap.size < w1.heap.size := hB1.1
  clear hKd hb1 hB
  go_wp2
  go_loopw [5, 6] (fun y i wr => ∃ (k : Nat) (x : ByteArray), k ≤ p.ks.length ∧ i = .int .i64 k ∧ y = .string x ∧ x = bs (Lib.join ((p.ks.take k).map (planT f)) [44, 32]) ∧ Below w1.heap.size w1 wr) (fun _ i _ => p.ks.length - (intOf i).toNat)
  case atStart => exact ⟨0, _, Nat.zero_le _, rfl, rfl, rfl, by go_grown⟩
  case round =>
    obtain ⟨k, z, hk, rfl, rfl, hz, hb'⟩ := hrel
    have hBr := hB1.below hb'
    have hb : Below w.heap.size w wr := bel1.trans (hb'.mono bel1.size)
    have hzb := hb.size
    have HZ : Hid (z = bs (Lib.join ((p.ks.take k).map (planT f)) [44, 32])) := hz
    have hj := hkl k
    have hzs : z.size ≤ 5000000000000 := by rw [HZ.out, bs_size]; omega
    clear hz hj
    by_cases hlt : k < p.ks.length
    · obtain ⟨rfl, hblt, _, hL⟩ := ha k hlt
      obtain ⟨x, g, ue, us, u, hx, hg, hxw, ⟨c0, c1, c2, c3, c4, c5, c6, c7, c8, c9, c10, c11⟩, hLx, hbr⟩ := hL.at hG hblt hb hlt
      obtain ⟨x_e, x_E, x_s, x_S, x_k, x_K, rfl, rfl, rfl, _, _, _, _, _, _⟩ := hLx.shape
      have HX := ksP_next (f := f) hx
      have hxn : wtP x ≤ 1048576 := by have := wtP_mem (List.mem_of_getElem? hx); omega
      have hxt := planT_len f x wr D d _ _ _ g hxw hLx
      have hV := fun w2 (hb2 : Below wr.heap.size wr w2) => hI x _ _ _ g w2 hxw (hLx.below hb2) hxn (HE.out.below (hb.trans (hb2.mono hzb)))
      obtain ⟨t3, H3⟩ := hidE (bs (planT f x))
      rw [H3.out] at hV
      have hs3 : t3.size ≤ 5000000000000 := by rw [← H3.out, bs_size]; omega
      obtain ⟨_, _, _, _, _, _, _, _, _, _, _, _, b11⟩ := hBr
      by_cases hk0 : k = 0
      · subst hk0
        rw [if_pos rfl] at HX
        have HF : Hid (z ++ t3 = bs (Lib.join ((p.ks.take (0 + 1)).map (planT f)) [44, 32])) := by
          show _ = _
          rw [HX, HZ.out, ← H3.out]
          simp [Lib.join_nil]
          rw [show bs [] = ByteArray.empty from rfl, ByteArray.empty_append]
        simp only [Nat.zero_mul, Nat.add_zero] at c0 c1 c2 c3 c4 c5 c6 c7 c8 c9 c10 c11
        clear ha hL hx hxw hLx hg HX H1 H2 H3 H4 hkl hxt hI hX0 hY0 hD0 hxn
        go_wp2_with fail
        refine Calls.mono (hV _ (Below.refl _ _)) ?_
        rintro e w2 ⟨rfl, hb2⟩
        have bel2 : Below w1.heap.size w1 w2 := hb'.trans (hb2.mono hb'.size)
        clear hV hb2 c0 c1 c2 c3 c4 c5 c6 c7 c8 c9 c10 c11 b11
        go_wp2_with fail
        exact ⟨⟨0 + 1, _, hlt, by simp, rfl, HF.out, bel2⟩, by simp [intOf]; omega⟩
      · rw [if_neg hk0] at HX
        have hkp : (0 : Int) < (k : Int) := by omega
        have hzc : (z ++ (⟨#[44, 32]⟩ : ByteArray)).size ≤ 5000000000002 := by rw [ByteArray.size_append]; have : (⟨#[44, 32]⟩ : ByteArray).size = 2 := rfl; omega
        have HF : Hid ((z ++ (⟨#[44, 32]⟩ : ByteArray)) ++ t3 = bs (Lib.join ((p.ks.take (k + 1)).map (planT f)) [44, 32])) := by
          show _ = _
          rw [HX, HZ.out, ← H3.out, show (⟨#[44, 32]⟩ : ByteArray) = bs [44, 32] from rfl, bs_app, bs_app, List.append_assoc]
        clear ha hL hx hxw hLx hg HX H1 H2 H3 H4 hkl hxt hI hX0 hY0 hD0 hxn
        go_wp2_with fail
        refine Calls.mono (hV _ (Below.refl _ _)) ?_
        rintro e w2 ⟨rfl, hb2⟩
        have bel2 : Below w1.heap.size w1 w2 := hb'.trans (hb2.mono hb'.size)
        clear hV hb2 c0 c1 c2 c3 c4 c5 c6 c7 c8 c9 c10 c11 b11
        go_wp2_with fail
        exact ⟨⟨k + 1, _, hlt, by simp, rfl, HF.out, bel2⟩, by simp [intOf]; omega⟩
    · obtain rfl : k = p.ks.length := by omega
      obtain ⟨t3, H3'⟩ : ∃ t3, t3 = z := ⟨_, rfl⟩
      subst H3'
      have H3 : Hid (bs (ksT f p) = t3) := by show _ = _; rw [HZ.out, List.take_length]; rfl
      have hs3 := hzs
      clear ha hkl hI HZ hzs
      have h0 := H0.out
      have HR2 : Hid (bs ([100, 105, 115, 116, 105, 110, 99, 116, 40] ++ (ksT f p ++ [41])) = r) := by show _ = _; rw [← HR.out, planT_5 h0]
      have k0 : (p.k == 0) = false := by rw [h0]; rfl
      have k1 : (p.k == 1) = false := by rw [h0]; rfl
      have k2 : (p.k == 2) = false := by rw [h0]; rfl
      have k3 : (p.k == 3) = false := by rw [h0]; rfl
      have k4 : (p.k == 4) = false := by rw [h0]; rfl
      have k5 : (p.k == 5) = true := by rw [h0]; rfl
      have sz1 : ((⟨#[100, 105, 115, 116, 105, 110, 99, 116, 40]⟩ : ByteArray) ++ t3).size ≤ 5000000000010 := by simp only [ByteArray.size_append]; have z0 : (⟨#[100, 105, 115, 116, 105, 110, 99, 116, 40]⟩ : ByteArray).size = 9 := rfl; omega
      have HF : Hid ((⟨#[100, 105, 115, 116, 105, 110, 99, 116, 40]⟩ : ByteArray) ++ t3 ++ (⟨#[41]⟩ : ByteArray) = r) := by
        show _ = _
        rw [← HR2.out, ← H3.out, show (⟨#[100, 105, 115, 116, 105, 110, 99, 116, 40]⟩ : ByteArray) = bs [100, 105, 115, 116, 105, 110, 99, 116, 40] from rfl, show (⟨#[41]⟩ : ByteArray) = bs [41] from rfl, bs_app, bs_app]
        simp
      obtain ⟨_, x0, x1, x2, x3, x4, x5, x6, x7, x8, x9, x10, x11⟩ := hBr
      clear hX0 hY0 hD0 HR2 h0 H1 H2 H3 H4
      go_wp2_with fail
      go_returns
      exact ⟨by rw [← HF.out]; rfl, hb⟩
end Go.Proofs.YtlpgkhdmilnbgaaDoor
/- Own text. spec.l04Text of a plan of one kind. -/
namespace Go.Proofs.YtlpgkhdmilnbgaaDoor
open Go.RowKit
set_option linter.unusedVariables false
set_option maxHeartbeats 8000000 in
set_option maxRecDepth 100000 in
theorem tpS_6 {f : Nat} (ih : TpS f) {p : P12} {ue us u : Value} {g : List Nat} {D d : Nat} {w : World} (hw : p.wf) (hL : ListsP w D (PlansIs w D d) p ue us u g) (hn : wtP p ≤ 1048576) (hf : f + 1 ≤ 21) (hE : Env w) (h0 : p.k = 6) :
    Calls Tryd.prog 12 #[(.agg #[.int .i64 p.k, .string p.s, .int .i64 p.e.k, .int .i64 p.e.n, .int .i64 p.e.v.k, .int .i64 p.e.v.n, .string p.e.v.s, .string p.e.p, ue, us, .int .i64 p.n, u]), .int .i64 (((f + 1 : Nat) : Int) - 1)] w fun x w' => x = .returned (.string (bs (planT (f + 1) p))) ∧ Below w.heap.size w w' := by
  obtain ⟨r, HR⟩ := hidE (bs (planT (f + 1) p))
  rw [HR.out]
  have hkl := ksT_len (planT_len f) hL
  have hwt := wtP_eq p
  obtain ⟨a_e, a_E, a_s, a_S, a_k, a_K, rfl, rfl, rfl, _, _, _, _, _, _⟩ := hL.shape
  obtain ⟨Fe, Fs, h, rfl, ke, kes, kp⟩ := hL
  obtain ⟨d, rfl⟩ := succP kp
  obtain ⟨a, c, b, o, G, e0, hl, hc, hG, _, ha⟩ := kp.pick
  injection e0 with e1 e2 e3
  subst e1 e3
  unfold maxLen at hc
  obtain ⟨n0, n1⟩ := wf64X p.n hw.2.2.2
  have hil := Lib.itoa_length_le p.n n0 n1
  have hel := expText_len p.e w D _ Fe hw.2.2.1 ke
  have hll := lstT_len kes
  have hX0 := fun w2 (hb : Below w.heap.size w w2) => specExpText_any p.e _ Fe D w2 hw.2.2.1 (ke.below hb) (hE.below hb)
  have hY0 := fun w2 (hb : Below w.heap.size w w2) => l04Exps_any _ p.es Fs D w2 (kes.below hb) (by omega) (hE.below hb)
  have hD0 : ∀ w2, Below w.heap.size w w2 → Calls Tryd.prog 24 #[.int .i64 p.n] w2 fun x w' => x = .returned (.string (bs (Lib.itoa p.n))) ∧ Below w2.heap.size w2 w' := fun w2 hb => (specDec_any p.n w2 n0 n1).mono fun x w' ⟨he, hw'⟩ => ⟨he, hw' ▸ Below.refl _ _⟩
  obtain ⟨t1, H1⟩ := hidE (bs (expText p.e))
  obtain ⟨t2, H2⟩ := hidE (bs (lstT p.es))
  obtain ⟨t4, H4⟩ := hidE (bs (Lib.itoa p.n))
  obtain ⟨dd, HD⟩ := hidE (((f + 1 : Nat) : Int) - 1)
  rw [HD.out]
  rw [H1.out] at hX0
  rw [H2.out] at hY0
  rw [H4.out] at hD0
  have hd0 : 0 ≤ dd := by have := HD.out; omega
  have hd2 : dd ≤ 20 := by have := HD.out; omega
  have hd1 : dd - 1 = (f : Int) - 1 := by have := HD.out; omega
  have hs1 : t1.size ≤ 5000000000000 := by rw [← H1.out, bs_size]; omega
  have hs2 : t2.size ≤ 5000000000000 := by rw [← H2.out, bs_size]; omega
  have hs4 : t4.size ≤ 5000000000000 := by rw [← H4.out, bs_size]; omega
  have HE : Hid (Env w) := hE
  have hI := fun x ux1 ux2 ux3 g w2 hw2 hL2 hn2 hE2 => ih x ux1 ux2 ux3 g D d w2 hw2 hL2 hn2 (by omega) hE2
  rw [← hd1] at hI
  have hKd := fun w2 => l04Kids_in p.k w2 (by rw [h0]; simp)
  have hB := bxP_new w p (.slice a_e p.e.ks.length a_E) (.slice a_s p.es.length a_S) (.slice a_k p.ks.length a_K) 38
  have H0 : Hid (p.k = 6) := h0
  clear hd1 ke kes hE hw ih hil hel hll n0 n1 HD h0
  go_enter Tryd.func12, Tryd.ntmps12
  go_wp2_with fail
  refine Calls.mono (hKd _) ?_
  rintro x w1 ⟨⟨z1, rfl, hz1⟩, hb1⟩
  have hB1 := hB.below hb1
  have bel1 : Below w.heap.size w w1 := by repeat (first | (with_reducible exact Below.refl _ _) | (with_reducible refine Below.drew ?_) | (with_reducible refine Below.alloc ?_ ?hh _; case hh => first | (simp; done) | (simp; omega) | omega) | (with_reducible refine Below.setCell ?_ ?hh _; case hh => first | (simp; done) | (simp; omega) | omega) | refine bstep (by assumption) (by first | (simp; done) | (simp; omega) | omega) ?_)
  have hlw : w.heap.size < w1.heap.size := hB1.1
  clear hKd hb1 hB
  go_wp2
  go_loopw [5, 6] (fun y i wr => ∃ (k : Nat) (x : ByteArray), k ≤ p.ks.length ∧ i = .int .i64 k ∧ y = .string x ∧ x = bs (Lib.join ((p.ks.take k).map (planT f)) [44, 32]) ∧ Below w1.heap.size w1 wr) (fun _ i _ => p.ks.length - (intOf i).toNat)
  case atStart => exact ⟨0, _, Nat.zero_le _, rfl, rfl, rfl, by go_grown⟩
  case round =>
    obtain ⟨k, z, hk, rfl, rfl, hz, hb'⟩ := hrel
    have hBr := hB1.below hb'
    have hb : Below w.heap.size w wr := bel1.trans (hb'.mono bel1.size)
    have hzb := hb.size
    have HZ : Hid (z = bs (Lib.join ((p.ks.take k).map (planT f)) [44, 32])) := hz
    have hj := hkl k
    have hzs : z.size ≤ 5000000000000 := by rw [HZ.out, bs_size]; omega
    clear hz hj
    by_cases hlt : k < p.ks.length
    · obtain ⟨rfl, hblt, _, hL⟩ := ha k hlt
      obtain ⟨x, g, ue, us, u, hx, hg, hxw, ⟨c0, c1, c2, c3, c4, c5, c6, c7, c8, c9, c10, c11⟩, hLx, hbr⟩ := hL.at hG hblt hb hlt
      obtain ⟨x_e, x_E, x_s, x_S, x_k, x_K, rfl, rfl, rfl, _, _, _, _, _, _⟩ := hLx.shape
      have HX := ksP_next (f := f) hx
      have hxn : wtP x ≤ 1048576 := by have := wtP_mem (List.mem_of_getElem? hx); omega
      have hxt := planT_len f x wr D d _ _ _ g hxw hLx
      have hV := fun w2 (hb2 : Below wr.heap.size wr w2) => hI x _ _ _ g w2 hxw (hLx.below hb2) hxn (HE.out.below (hb.trans (hb2.mono hzb)))
      obtain ⟨t3, H3⟩ := hidE (bs (planT f x))
      rw [H3.out] at hV
      have hs3 : t3.size ≤ 5000000000000 := by rw [← H3.out, bs_size]; omega
      obtain ⟨_, _, _, _, _, _, _, _, _, _, _, _, b11⟩ := hBr
      by_cases hk0 : k = 0
      · subst hk0
        rw [if_pos rfl] at HX
        have HF : Hid (z ++ t3 = bs (Lib.join ((p.ks.take (0 + 1)).map (planT f)) [44, 32])) := by
          show _ = _
          rw [HX, HZ.out, ← H3.out]
          simp [Lib.join_nil]
          rw [show bs [] = ByteArray.empty from rfl, ByteArray.empty_append]
        simp only [Nat.zero_mul, Nat.add_zero] at c0 c1 c2 c3 c4 c5 c6 c7 c8 c9 c10 c11
        clear ha hL hx hxw hLx hg HX H1 H2 H3 H4 hkl hxt hI hX0 hY0 hD0 hxn
        go_wp2_with fail
        refine Calls.mono (hV _ (Below.refl _ _)) ?_
        rintro e w2 ⟨rfl, hb2⟩
        have bel2 : Below w1.heap.size w1 w2 := hb'.trans (hb2.mono hb'.size)
        clear hV hb2 c0 c1 c2 c3 c4 c5 c6 c7 c8 c9 c10 c11 b11
        go_wp2_with fail
        exact ⟨⟨0 + 1, _, hlt, by simp, rfl, HF.out, bel2⟩, by simp [intOf]; omega⟩
      · rw [if_neg hk0] at HX
        have hkp : (0 : Int) < (k : Int) := by omega
        have hzc : (z ++ (⟨#[44, 32]⟩ : ByteArray)).size ≤ 5000000000002 := by rw [ByteArray.size_append]; have : (⟨#[44, 32]⟩ : ByteArray).size = 2 := rfl; omega
        have HF : Hid ((z ++ (⟨#[44, 32]⟩ : ByteArray)) ++ t3 = bs (Lib.join ((p.ks.take (k + 1)).map (planT f)) [44, 32])) := by
          show _ = _
          rw [HX, HZ.out, ← H3.out, show (⟨#[44, 32]⟩ : ByteArray) = bs [44, 32] from rfl, bs_app, bs_app, List.append_assoc]
        clear ha hL hx hxw hLx hg HX H1 H2 H3 H4 hkl hxt hI hX0 hY0 hD0 hxn
        go_wp2_with fail
        refine Calls.mono (hV _ (Below.refl _ _)) ?_
        rintro e w2 ⟨rfl, hb2⟩
        have bel2 : Below w1.heap.size w1 w2 := hb'.trans (hb2.mono hb'.size)
        clear hV hb2 c0 c1 c2 c3 c4 c5 c6 c7 c8 c9 c10 c11 b11
        go_wp2_with fail
        exact ⟨⟨k + 1, _, hlt, by simp, rfl, HF.out, bel2⟩, by simp [intOf]; omega⟩
    · obtain rfl : k = p.ks.length := by omega
      obtain ⟨t3, H3'⟩ : ∃ t3, t3 = z := ⟨_, rfl⟩
      subst H3'
      have H3 : Hid (bs (ksT f p) = t3) := by show _ = _; rw [HZ.out, List.take_length]; rfl
      have hs3 := hzs
      clear ha hkl hI HZ hzs
      have h0 := H0.out
      have HR2 : Hid (bs ([103, 114, 111, 117, 112, 40] ++ (Lib.itoa p.n ++ ([44, 32] ++ (lstT p.es ++ ([44, 32] ++ (ksT f p ++ [41])))))) = r) := by show _ = _; rw [← HR.out, planT_6 h0]
      have k0 : (p.k == 0) = false := by rw [h0]; rfl
      have k1 : (p.k == 1) = false := by rw [h0]; rfl
      have k2 : (p.k == 2) = false := by rw [h0]; rfl
      have k3 : (p.k == 3) = false := by rw [h0]; rfl
      have k4 : (p.k == 4) = false := by rw [h0]; rfl
      have k5 : (p.k == 5) = false := by rw [h0]; rfl
      have k6 : (p.k == 6) = true := by rw [h0]; rfl
      have sz1 : ((⟨#[103, 114, 111, 117, 112, 40]⟩ : ByteArray) ++ t4).size ≤ 5000000000010 := by simp only [ByteArray.size_append]; have z0 : (⟨#[103, 114, 111, 117, 112, 40]⟩ : ByteArray).size = 6 := rfl; omega
      have sz2 : ((⟨#[103, 114, 111, 117, 112, 40]⟩ : ByteArray) ++ t4 ++ (⟨#[44, 32]⟩ : ByteArray)).size ≤ 5000000000020 := by simp only [ByteArray.size_append]; have z0 : (⟨#[103, 114, 111, 117, 112, 40]⟩ : ByteArray).size = 6 := rfl; have z1 : (⟨#[44, 32]⟩ : ByteArray).size = 2 := rfl; omega
      have sz3 : ((⟨#[103, 114, 111, 117, 112, 40]⟩ : ByteArray) ++ t4 ++ (⟨#[44, 32]⟩ : ByteArray) ++ t2).size ≤ 10000000000020 := by simp only [ByteArray.size_append]; have z0 : (⟨#[103, 114, 111, 117, 112, 40]⟩ : ByteArray).size = 6 := rfl; have z1 : (⟨#[44, 32]⟩ : ByteArray).size = 2 := rfl; omega
      have sz4 : ((⟨#[103, 114, 111, 117, 112, 40]⟩ : ByteArray) ++ t4 ++ (⟨#[44, 32]⟩ : ByteArray) ++ t2 ++ (⟨#[44, 32]⟩ : ByteArray)).size ≤ 10000000000030 := by simp only [ByteArray.size_append]; have z0 : (⟨#[103, 114, 111, 117, 112, 40]⟩ : ByteArray).size = 6 := rfl; have z1 : (⟨#[44, 32]⟩ : ByteArray).size = 2 := rfl; omega
      have sz5 : ((⟨#[103, 114, 111, 117, 112, 40]⟩ : ByteArray) ++ t4 ++ (⟨#[44, 32]⟩ : ByteArray) ++ t2 ++ (⟨#[44, 32]⟩ : ByteArray) ++ t3).size ≤ 15000000000030 := by simp only [ByteArray.size_append]; have z0 : (⟨#[103, 114, 111, 117, 112, 40]⟩ : ByteArray).size = 6 := rfl; have z1 : (⟨#[44, 32]⟩ : ByteArray).size = 2 := rfl; omega
      have HF : Hid ((⟨#[103, 114, 111, 117, 112, 40]⟩ : ByteArray) ++ t4 ++ (⟨#[44, 32]⟩ : ByteArray) ++ t2 ++ (⟨#[44, 32]⟩ : ByteArray) ++ t3 ++ (⟨#[41]⟩ : ByteArray) = r) := by
        show _ = _
        rw [← HR2.out, ← H4.out, ← H2.out, ← H3.out, show (⟨#[103, 114, 111, 117, 112, 40]⟩ : ByteArray) = bs [103, 114, 111, 117, 112, 40] from rfl, show (⟨#[41]⟩ : ByteArray) = bs [41] from rfl, show (⟨#[44, 32]⟩ : ByteArray) = bs [44, 32] from rfl, bs_app, bs_app, bs_app, bs_app, bs_app, bs_app]
        simp
      have hBq := hBr
      obtain ⟨_, x0, x1, x2, x3, x4, x5, x6, x7, x8, x9, x10, x11⟩ := hBq
      clear HR2 h0 H1 H2 H3 H4
      go_wp2_with fail
      clear x0 x1 x2 x3 x4 x5 x6 x7 x8 x9 x10 x11
      refine wp_region_held_drew (S := (fun w' => BxP w' w.heap.size p (.slice a_e p.e.ks.length a_E) (.slice a_s p.es.length a_S) (.slice a_k p.ks.length a_K))) (by kernel_rfl) ?_ (fun hHeld => ?_)
      · exact hBr.below (by repeat (first | (with_reducible exact Below.refl _ _) | (with_reducible refine Below.drew ?_) | (with_reducible refine Below.alloc ?_ ?hh _; case hh => first | (simp; done) | (simp; omega) | omega) | (with_reducible refine Below.setCell ?_ ?hh _; case hh => first | (simp; done) | (simp; omega) | omega) | refine bstep (by assumption) (by first | (simp; done) | (simp; omega) | omega) ?_))
      refine takeYes (i := 0) (d := 82) (v := ?_) rfl rfl (by kernel_rfl) (by kernel_rfl) (by kernel_rfl) (fun _ _ _ h => h) (by rfl) (by assumption) ?_ ?_
      rotate_left
      · intro w' hSw; obtain ⟨_, x0, x1, x2, x3, x4, x5, x6, x7, x8, x9, x10, x11⟩ := hSw; go_simp; (try rw [if_neg (by omega)]); try exact rfl
      try simp only [List.setIfInBounds_toArray, List.set_cons_zero, List.set_cons_succ]
      refine takeYes (i := 1) (d := 83) (v := ?_) rfl rfl (by kernel_rfl) (by kernel_rfl) (by kernel_rfl) (fun _ _ _ h => h) (by rfl) (by assumption) ?_ ?_
      rotate_left
      · intro w' hSw; obtain ⟨_, x0, x1, x2, x3, x4, x5, x6, x7, x8, x9, x10, x11⟩ := hSw; go_simp; (try rw [if_neg (by omega)]); try exact rfl
      try simp only [List.setIfInBounds_toArray, List.set_cons_zero, List.set_cons_succ]
      refine takeYes (i := 5) (d := 87) (v := ?_) rfl rfl (by kernel_rfl) (by kernel_rfl) (by kernel_rfl) (fun _ _ _ h => h) (by rfl) (by assumption) ?_ ?_
      rotate_left
      · intro w' hSw; obtain ⟨_, x0, x1, x2, x3, x4, x5, x6, x7, x8, x9, x10, x11⟩ := hSw; go_simp; (try rw [if_neg (by omega)]); try exact rfl
      try simp only [List.setIfInBounds_toArray, List.set_cons_zero, List.set_cons_succ]
      refine takeYes (i := 6) (d := 88) (v := ?_) rfl rfl (by kernel_rfl) (by kernel_rfl) (by kernel_rfl) (fun _ _ _ h => h) (by rfl) (by assumption) ?_ ?_
      rotate_left
      · intro w' hSw; obtain ⟨_, x0, x1, x2, x3, x4, x5, x6, x7, x8, x9, x10, x11⟩ := hSw; go_simp; (try rw [if_neg (by omega)]); try exact rfl
      try simp only [List.setIfInBounds_toArray, List.set_cons_zero, List.set_cons_succ]
      refine takeYes (i := 10) (d := 92) (v := ?_) rfl rfl (by kernel_rfl) (by kernel_rfl) (by kernel_rfl) (fun _ _ _ h => h) (by rfl) (by assumption) ?_ ?_
      rotate_left
      · intro w' hSw; obtain ⟨_, x0, x1, x2, x3, x4, x5, x6, x7, x8, x9, x10, x11⟩ := hSw; go_simp; (try rw [if_neg (by omega)]); try exact rfl
      try simp only [List.setIfInBounds_toArray, List.set_cons_zero, List.set_cons_succ]
      refine wpAnyH_ready (rs := [2]) (by kernel_rfl) (by simp) ?_
      refine AllReadyH.cons rfl (fun K hK => ?_) AllReadyH.nil
      go_simp
      go_at_call 24
      refine Calls.mono (hD0 _ (hb.trans ((show Below wr.heap.size wr _ from by repeat (first | (with_reducible exact Below.refl _ _) | (with_reducible refine Below.drew ?_) | (with_reducible refine Below.alloc ?_ ?hh _; case hh => first | (simp; done) | (simp; omega) | omega) | (with_reducible refine Below.setCell ?_ ?hh _; case hh => first | (simp; done) | (simp; omega) | omega) | refine bstep (by assumption) (by first | (simp; done) | (simp; omega) | omega) ?_)).mono hzb))) ?_
      rintro q w2 ⟨rfl, hb2⟩
      have hz2 := hb2.size
      (try simp at hz2)
      try go_wp2_with fail
      refine hK.out _ _ ?_ (fun hHeld2 => ?_)
      · exact hBr.below (by repeat (first | (with_reducible exact Below.refl _ _) | (with_reducible refine Below.drew ?_) | (with_reducible refine Below.alloc ?_ ?hh _; case hh => first | (simp; done) | (simp; omega) | omega) | (with_reducible refine Below.setCell ?_ ?hh _; case hh => first | (simp; done) | (simp; omega) | omega) | refine bstep (by assumption) (by first | (simp; done) | (simp; omega) | omega) ?_))
      clear hK
      refine takeYes (i := 3) (d := 85) (v := ?_) rfl rfl (by kernel_rfl) (by kernel_rfl) (by kernel_rfl) (fun _ _ _ h => h) (by rfl) (by assumption) ?_ ?_
      rotate_left
      · intro w' hSw; obtain ⟨_, x0, x1, x2, x3, x4, x5, x6, x7, x8, x9, x10, x11⟩ := hSw; go_simp; (try rw [if_neg (by omega)]); try exact rfl
      try simp only [List.setIfInBounds_toArray, List.set_cons_zero, List.set_cons_succ]
      refine takeYes (i := 4) (d := 86) (v := ?_) rfl rfl (by kernel_rfl) (by kernel_rfl) (by kernel_rfl) (fun _ _ _ h => h) (by rfl) (by assumption) ?_ ?_
      rotate_left
      · intro w' hSw; obtain ⟨_, x0, x1, x2, x3, x4, x5, x6, x7, x8, x9, x10, x11⟩ := hSw; go_simp; (try rw [if_neg (by omega)]); try exact rfl
      try simp only [List.setIfInBounds_toArray, List.set_cons_zero, List.set_cons_succ]
      refine wpAnyH_ready (rs := [7]) (by kernel_rfl) (by simp) ?_
      refine AllReadyH.cons rfl (fun K hK => ?_) AllReadyH.nil
      go_simp
      go_at_call 23
      refine Calls.mono (hY0 _ (hb.trans ((show Below wr.heap.size wr _ from by repeat (first | (with_reducible exact Below.refl _ _) | (with_reducible refine Below.drew ?_) | (with_reducible refine Below.alloc ?_ ?hh _; case hh => first | (simp; done) | (simp; omega) | omega) | (with_reducible refine Below.setCell ?_ ?hh _; case hh => first | (simp; done) | (simp; omega) | omega) | refine bstep (by assumption) (by first | (simp; done) | (simp; omega) | omega) ?_)).mono hzb))) ?_
      rintro q w3 ⟨rfl, hb3⟩
      have hz3 := hb3.size
      (try simp at hz3)
      try go_wp2_with fail
      refine hK.out _ _ ?_ (fun hHeld7 => ?_)
      · exact hBr.below (by repeat (first | (with_reducible exact Below.refl _ _) | (with_reducible refine Below.drew ?_) | (with_reducible refine Below.alloc ?_ ?hh _; case hh => first | (simp; done) | (simp; omega) | omega) | (with_reducible refine Below.setCell ?_ ?hh _; case hh => first | (simp; done) | (simp; omega) | omega) | refine bstep (by assumption) (by first | (simp; done) | (simp; omega) | omega) ?_))
      clear hK
      refine takeYes (i := 8) (d := 90) (v := ?_) rfl rfl (by kernel_rfl) (by kernel_rfl) (by kernel_rfl) (fun _ _ _ h => h) (by rfl) (by assumption) ?_ ?_
      rotate_left
      · intro w' hSw; obtain ⟨_, x0, x1, x2, x3, x4, x5, x6, x7, x8, x9, x10, x11⟩ := hSw; go_simp; (try rw [if_neg (by omega)]); try exact rfl
      try simp only [List.setIfInBounds_toArray, List.set_cons_zero, List.set_cons_succ]
      refine takeYes (i := 9) (d := 91) (v := ?_) rfl rfl (by kernel_rfl) (by kernel_rfl) (by kernel_rfl) (fun _ _ _ h => h) (by rfl) (by assumption) ?_ ?_
      rotate_left
      · intro w' hSw; obtain ⟨_, x0, x1, x2, x3, x4, x5, x6, x7, x8, x9, x10, x11⟩ := hSw; go_simp; (try rw [if_neg (by omega)]); try exact rfl
      try simp only [List.setIfInBounds_toArray, List.set_cons_zero, List.set_cons_succ]
      refine takeYes (i := 11) (d := 93) (v := ?_) rfl rfl (by kernel_rfl) (by kernel_rfl) (by kernel_rfl) (fun _ _ _ h => h) (by rfl) (by assumption) ?_ ?_
      rotate_left
      · intro w' hSw; obtain ⟨_, x0, x1, x2, x3, x4, x5, x6, x7, x8, x9, x10, x11⟩ := hSw; go_simp; (try rw [if_neg (by omega)]); try exact rfl
      try simp only [List.setIfInBounds_toArray, List.set_cons_zero, List.set_cons_succ]
      refine takeYes (i := 12) (d := 94) (v := ?_) rfl rfl (by kernel_rfl) (by kernel_rfl) (by kernel_rfl) (fun _ _ _ h => h) (by rfl) (by assumption) ?_ ?_
      rotate_left
      · intro w' hSw; obtain ⟨_, x0, x1, x2, x3, x4, x5, x6, x7, x8, x9, x10, x11⟩ := hSw; go_simp; (try rw [if_neg (by omega)]); try exact rfl
      try simp only [List.setIfInBounds_toArray, List.set_cons_zero, List.set_cons_succ]
      refine takeYes (i := 13) (d := 4) (v := ?_) rfl rfl (by kernel_rfl) (by kernel_rfl) (by kernel_rfl) (fun _ _ _ h => h) (by rfl) (by assumption) ?_ ?_
      rotate_left
      · intro w' hSw; obtain ⟨_, x0, x1, x2, x3, x4, x5, x6, x7, x8, x9, x10, x11⟩ := hSw; go_simp; (try rw [if_neg (by omega)]); try exact rfl
      try simp only [List.setIfInBounds_toArray, List.set_cons_zero, List.set_cons_succ]
      refine wpAnyH_done (by kernel_rfl) ?_ _
      have bel2 : Below w.heap.size w w3 := hb.trans ((show Below wr.heap.size wr w3 from by repeat (first | (with_reducible exact Below.refl _ _) | (with_reducible refine Below.drew ?_) | (with_reducible refine Below.alloc ?_ ?hh _; case hh => first | (simp; done) | (simp; omega) | omega) | (with_reducible refine Below.setCell ?_ ?hh _; case hh => first | (simp; done) | (simp; omega) | omega) | refine bstep (by assumption) (by first | (simp; done) | (simp; omega) | omega) ?_)).mono hzb)
      clear hX0 hY0 hD0
      go_wp2
      go_returns
      exact ⟨by rw [← HF.out]; rfl, bel2⟩
end Go.Proofs.YtlpgkhdmilnbgaaDoor
/- Own text. The contract of spec.PlanText. -/
namespace Go.Proofs.YtlpgkhdmilnbgaaDoor
open Go.RowKit
set_option linter.unusedVariables false
theorem tpS_any : ∀ f, TpS f
  | 0 => tpS_zero
  | f + 1 => by
    have ih := tpS_any f
    intro p ue us u g D d w hw hL hn hf hE
    by_cases h0 : p.k = 0
    · exact tpS_0 ih hw hL hn hf hE h0
    by_cases h1 : p.k = 1
    · exact tpS_1 ih hw hL hn hf hE h1
    by_cases h2 : p.k = 2
    · exact tpS_2 ih hw hL hn hf hE h2
    by_cases h3 : p.k = 3
    · exact tpS_3 ih hw hL hn hf hE h3
    by_cases h4 : p.k = 4
    · exact tpS_4 ih hw hL hn hf hE h4
    by_cases h5 : p.k = 5
    · exact tpS_5 ih hw hL hn hf hE h5
    by_cases h6 : p.k = 6
    · exact tpS_6 ih hw hL hn hf hE h6
    exact tpS_x hL h0 h1 h2 h3 h4 h5 h6
set_option maxHeartbeats 4000000 in
set_option maxRecDepth 100000 in
theorem specPlanText_any (p : P12) (ue us u : Value) (g : List Nat) (D d : Nat) (w : World) (hw : p.wf) (hL : ListsP w D (PlansIs w D d) p ue us u g) (hn : wtP p ≤ 1048576) (hE : Env w) :
    Calls Tryd.prog 5 #[(.agg #[.int .i64 p.k, .string p.s, .int .i64 p.e.k, .int .i64 p.e.n, .int .i64 p.e.v.k, .int .i64 p.e.v.n, .string p.e.v.s, .string p.e.p, ue, us, .int .i64 p.n, u])] w fun x w' => x = .returned (.string (bs (planT 21 p))) ∧ Below w.heap.size w w' := by
  have hT := fun w2 (hb : Below w.heap.size w w2) => tpS_any 21 p ue us u g D d w2 hw (hL.below hb) hn (Nat.le_refl _) (hE.below hb)
  rw [show ((21 : Nat) : Int) - 1 = 20 from rfl] at hT
  obtain ⟨a_e, a_E, a_s, a_S, a_k, a_K, rfl, rfl, rfl, _, _, _, _, _, _⟩ := hL.shape
  clear hL hE hw
  go_enter Tryd.func5, Tryd.ntmps5
  go_wp2_with fail
  refine Calls.mono (hT _ ?hb) ?_
  case hb => repeat (first | (with_reducible exact Below.refl _ _) | (with_reducible refine Below.drew ?_) | (with_reducible refine Below.alloc ?_ ?hh _; case hh => first | (simp; done) | (simp; omega) | omega) | (with_reducible refine Below.setCell ?_ ?hh _; case hh => first | (simp; done) | (simp; omega) | omega) | refine bstep (by assumption) (by first | (simp; done) | (simp; omega) | omega) ?_)
  rintro x w1 ⟨rfl, hb1⟩
  have bel1 : Below w.heap.size w w1 := by repeat (first | (with_reducible exact Below.refl _ _) | (with_reducible refine Below.drew ?_) | (with_reducible refine Below.alloc ?_ ?hh _; case hh => first | (simp; done) | (simp; omega) | omega) | (with_reducible refine Below.setCell ?_ ?hh _; case hh => first | (simp; done) | (simp; omega) | omega) | refine bstep (by assumption) (by first | (simp; done) | (simp; omega) | omega) ?_)
  clear hT hb1
  go_wp2_with fail
  go_returns
  exact ⟨rfl, bel1⟩
end Go.Proofs.YtlpgkhdmilnbgaaDoor
/- Own text. The walk of the statement on PlanText. -/
namespace Go.Proofs.YtlpgkhdmilnbgaaDoor.fnExactPlanText
open Go.RowKit Go.Deep
set_option linter.unusedVariables false
set_option maxHeartbeats 8000000 in
set_option maxRecDepth 100000 in
theorem walk (p : P12) (ue us u : Value) (F : List Nat) (D d : Nat) (hw : p.wf) (w : World) (hr : ListsP w D (PlansIs w D d) p ue us u F) (hE : Env w) :
    Calls Tryd.prog 3 #[(.agg #[.int .i64 p.k, .string p.s, .int .i64 p.e.k, .int .i64 p.e.n, .int .i64 p.e.v.k, .int .i64 p.e.v.n, .string p.e.v.s, .string p.e.p, ue, us, .int .i64 p.n, u])] w fun x w' => x = .returned (.bool true) ∧ Below w.heap.size w w' := by
  obtain ⟨a_e, a_E, a_s, a_S, a_k, a_K, rfl, rfl, rfl, _, _, _, _, _, _⟩ := hr.shape
  have HE : Hid (∀ w', Below w.heap.size w w' → Env w') := fun w' hb => hE.below hb
  obtain ⟨r, HR⟩ := hidE (bs (planT 21 p))
  clear hE
  go_enter Tryd.func3, Tryd.ntmps3
  go_wp2_with fail
  refine Calls.mono (szPlan_of (szPlanS_any D d) p (.slice a_e p.e.ks.length a_E) (.slice a_s p.es.length a_S) (.slice a_k p.ks.length a_K) F 1048576 _ hw (hr.below ?hb) (by decide) (by decide)) ?_
  case hb => repeat (first | (with_reducible exact Below.refl _ _) | (with_reducible refine Below.drew ?_) | (with_reducible refine Below.alloc ?_ ?hh _; case hh => first | (simp; done) | (simp; omega) | omega) | (with_reducible refine Below.setCell ?_ ?hh _; case hh => first | (simp; done) | (simp; omega) | omega) | refine bstep (by assumption) (by first | (simp; done) | (simp; omega) | omega) ?_)
  rintro x w1 ⟨⟨z1, rfl, l1, g1, s1⟩, hb1⟩
  have hz1 := hb1.size
  simp only [World.size_alloc] at hz1
  have hA : BxP w1 w.heap.size p (.slice a_e p.e.ks.length a_E) (.slice a_s p.es.length a_S) (.slice a_k p.ks.length a_K) := by refine ⟨by omega, ?_, ?_, ?_, ?_, ?_, ?_, ?_, ?_, ?_, ?_, ?_, ?_⟩ <;> exact cell_later hb1 (by go_simp)
  have hbw : Below w.heap.size w w1 := by repeat (first | (with_reducible exact Below.refl _ _) | (with_reducible refine Below.drew ?_) | (with_reducible refine Below.alloc ?_ ?hh _; case hh => first | (simp; done) | (simp; omega) | omega) | (with_reducible refine Below.setCell ?_ ?hh _; case hh => first | (simp; done) | (simp; omega) | omega) | refine bstep (by assumption) (by first | (simp; done) | (simp; omega) | omega) ?_)
  replace hr := hr.below hbw
  by_cases hn1 : z1 < 0
  · go_wp2_with fail
    go_returns
    exact ⟨rfl, hbw⟩
  have hne : wtP p ≤ 1048576 := by have := s1 (by omega); omega
  clear s1 hb1
  have hzw := hbw.size
  have qy := hA; obtain ⟨ly, y0, y1, y2, y3, y4, y5, y6, y7, y8, y9, y10, y11⟩ := qy
  go_wp2_with fail
  refine Calls.mono (toPlan_of (toPlanS_any D d) p (.slice a_e p.e.ks.length a_E) (.slice a_s p.es.length a_S) (.slice a_k p.ks.length a_K) F w1 hr hne) ?_
  rintro x w2 ⟨⟨ue2, us2, u2, F2, rfl, hU2, _⟩, hb2⟩
  obtain ⟨e_e, e_E, e_s, e_S, e_k, e_K, rfl, rfl, rfl, _, _, _, _, _, _⟩ := hU2.shape
  clear ly y0 y1 y2 y3 y4 y5 y6 y7 y8 y9 y10 y11
  replace hA := hA.below hb2
  replace hr := hr.below hb2
  replace hbw : Below w.heap.size w w2 := hbw.trans (hb2.mono hzw)
  replace hzw := hbw.size
  have hcall := specPlanText_any p _ _ _ F2 D d w2 hw hU2 hne (HE.out w2 hbw)
  rw [HR.out] at hcall
  clear hb2
  go_wp2_with fail
  refine Calls.mono hcall ?_
  rintro x w3 ⟨rfl, hb3⟩
  replace hA := hA.below hb3
  replace hr := hr.below hb3
  replace hbw : Below w.heap.size w w3 := hbw.trans (hb3.mono hzw)
  replace hzw := hbw.size
  clear hb3 hU2 hcall
  have qy := hA; obtain ⟨ly, y0, y1, y2, y3, y4, y5, y6, y7, y8, y9, y10, y11⟩ := qy
  go_wp2_with fail
  refine Calls.mono (toPlan_of (toPlanS_any D d) p (.slice a_e p.e.ks.length a_E) (.slice a_s p.es.length a_S) (.slice a_k p.ks.length a_K) F w3 hr hne) ?_
  rintro x w4 ⟨⟨ue4, us4, u4, F4, rfl, hX4, hO4⟩, hb4⟩
  obtain ⟨x_e, x_E, x_s, x_S, x_k, x_K, rfl, rfl, rfl, _, _, _, _, _, _⟩ := hX4.shape
  clear ly y0 y1 y2 y3 y4 y5 y6 y7 y8 y9 y10 y11
  replace hA := hA.below hb4
  replace hr := hr.below hb4
  replace hbw : Below w.heap.size w w4 := hbw.trans (hb4.mono hzw)
  replace hzw := hbw.size
  have hb4b : Below w4.heap.size w4 (w4.alloc (.cells #[.int .i64 p.k, .string p.s, .int .i64 p.e.k, .int .i64 p.e.n, .int .i64 p.e.v.k, .int .i64 p.e.v.n, .string p.e.v.s, .string p.e.p, .slice x_e p.e.ks.length x_E, .slice x_s p.es.length x_S, .int .i64 p.n, .slice x_k p.ks.length x_K] 38)) := (Below.refl _ _).alloc (Nat.le_refl _) _
  have hXb := bxP_new w4 p (.slice x_e p.e.ks.length x_E) (.slice x_s p.es.length x_S) (.slice x_k p.ks.length x_K) 38
  have hcall := implPlanText_any p _ _ _ F4 D d _ hw (hX4.below hb4b) ⟨hO4.1, fun x hx q => (frozen_blk (hb4b.block x (hX4.lt x hx))).trans ((hO4.2 x hx).2 q)⟩ hne (HE.out _ (hbw.trans (hb4b.mono hzw)))
  rw [HR.out] at hcall
  replace hA := hA.below hb4b
  replace hr := hr.below hb4b
  have hX5 := hX4.below hb4b
  replace hbw : Below w.heap.size w (w4.alloc (.cells #[.int .i64 p.k, .string p.s, .int .i64 p.e.k, .int .i64 p.e.n, .int .i64 p.e.v.k, .int .i64 p.e.v.n, .string p.e.v.s, .string p.e.p, .slice x_e p.e.ks.length x_E, .slice x_s p.es.length x_S, .int .i64 p.n, .slice x_k p.ks.length x_K] 38)) := hbw.trans (hb4b.mono hzw)
  replace hzw := hbw.size
  clear hb4 hb4b hX4 hO4
  go_wp2_with fail
  generalize w4.alloc (.cells #[.int .i64 p.k, .string p.s, .int .i64 p.e.k, .int .i64 p.e.n, .int .i64 p.e.v.k, .int .i64 p.e.v.n, .string p.e.v.s, .string p.e.p, .slice x_e p.e.ks.length x_E, .slice x_s p.es.length x_S, .int .i64 p.n, .slice x_k p.ks.length x_K] 38) = w4b at *
  refine Calls.mono hcall ?_
  rintro x w6 ⟨rfl, hb6⟩
  have hA6 := hA.below hb6
  have hr6 := hr.below hb6
  have hX6 := hX5.below hb6
  have hXb6 := hXb.below hb6
  replace hbw : Below w.heap.size w w6 := hbw.trans (hb6.mono hzw)
  replace hzw := hbw.size
  clear hb6 hcall hA hr hX5 hXb
  go_wp2_with fail
  refine wp_region_held_drew (S := (fun w' => BxP w' w4.heap.size p (.slice x_e p.e.ks.length x_E) (.slice x_s p.es.length x_S) (.slice x_k p.ks.length x_K) ∧ BxP w' w.heap.size p (.slice a_e p.e.ks.length a_E) (.slice a_s p.es.length a_S) (.slice a_k p.ks.length a_K))) (by kernel_rfl) ?_ (fun hHeld => ?_)
  · exact ⟨hXb6.below (by repeat (first | (with_reducible exact Below.refl _ _) | (with_reducible refine Below.drew ?_) | (with_reducible refine Below.alloc ?_ ?hh _; case hh => first | (simp; done) | (simp; omega) | omega) | (with_reducible refine Below.setCell ?_ ?hh _; case hh => first | (simp; done) | (simp; omega) | omega) | refine bstep (by assumption) (by first | (simp; done) | (simp; omega) | omega) ?_)), hA6.below (by repeat (first | (with_reducible exact Below.refl _ _) | (with_reducible refine Below.drew ?_) | (with_reducible refine Below.alloc ?_ ?hh _; case hh => first | (simp; done) | (simp; omega) | omega) | (with_reducible refine Below.setCell ?_ ?hh _; case hh => first | (simp; done) | (simp; omega) | omega) | refine bstep (by assumption) (by first | (simp; done) | (simp; omega) | omega) ?_))⟩
  refine takeYes (i := 0) (d := 22) (v := ?_) rfl rfl (by kernel_rfl) (by kernel_rfl) (by kernel_rfl) (fun _ _ _ h => h) (by rfl) (by assumption) ?_ ?_
  rotate_left
  · intro w' hSw; obtain ⟨⟨_, x0, x1, x2, x3, x4, x5, x6, x7, x8, x9, x10, x11⟩, ⟨_, y0, y1, y2, y3, y4, y5, y6, y7, y8, y9, y10, y11⟩⟩ := hSw; go_simp; try exact rfl
  try simp only [List.setIfInBounds_toArray, List.set_cons_zero, List.set_cons_succ]
  refine takeYes (i := 1) (d := 23) (v := ?_) rfl rfl (by kernel_rfl) (by kernel_rfl) (by kernel_rfl) (fun _ _ _ h => h) (by rfl) (by assumption) ?_ ?_
  rotate_left
  · intro w' hSw; obtain ⟨⟨_, x0, x1, x2, x3, x4, x5, x6, x7, x8, x9, x10, x11⟩, ⟨_, y0, y1, y2, y3, y4, y5, y6, y7, y8, y9, y10, y11⟩⟩ := hSw; go_simp; try exact rfl
  try simp only [List.setIfInBounds_toArray, List.set_cons_zero, List.set_cons_succ]
  refine wpAnyH_ready (rs := [2]) (by kernel_rfl) (by simp) ?_
  refine AllReadyH.cons rfl (fun K hK => ?_) AllReadyH.nil
  go_simp
  go_at_call 6
  refine Calls.mono (toPlan_of (toPlanS_any D d) p (.slice a_e p.e.ks.length a_E) (.slice a_s p.es.length a_S) (.slice a_k p.ks.length a_K) F _ (hr6.below (by repeat (first | (with_reducible exact Below.refl _ _) | (with_reducible refine Below.drew ?_) | (with_reducible refine Below.alloc ?_ ?hh _; case hh => first | (simp; done) | (simp; omega) | omega) | (with_reducible refine Below.setCell ?_ ?hh _; case hh => first | (simp; done) | (simp; omega) | omega) | refine bstep (by assumption) (by first | (simp; done) | (simp; omega) | omega) ?_))) hne) ?_
  rintro x w7 ⟨⟨ue7, us7, u7, F7, rfl, hU7, _⟩, hb7⟩
  obtain ⟨f_e, f_E, f_s, f_S, f_k, f_K, rfl, rfl, rfl, _, _, _, _, _, _⟩ := hU7.shape
  have hz7 := hb7.size
  (try simp at hz7)
  try go_wp2_with fail
  refine hK.out _ _ ?_ (fun hHeld2 => ?_)
  · exact ⟨hXb6.below (by repeat (first | (with_reducible exact Below.refl _ _) | (with_reducible refine Below.drew ?_) | (with_reducible refine Below.alloc ?_ ?hh _; case hh => first | (simp; done) | (simp; omega) | omega) | (with_reducible refine Below.setCell ?_ ?hh _; case hh => first | (simp; done) | (simp; omega) | omega) | refine bstep (by assumption) (by first | (simp; done) | (simp; omega) | omega) ?_)), hA6.below (by repeat (first | (with_reducible exact Below.refl _ _) | (with_reducible refine Below.drew ?_) | (with_reducible refine Below.alloc ?_ ?hh _; case hh => first | (simp; done) | (simp; omega) | omega) | (with_reducible refine Below.setCell ?_ ?hh _; case hh => first | (simp; done) | (simp; omega) | omega) | refine bstep (by assumption) (by first | (simp; done) | (simp; omega) | omega) ?_))⟩
  clear hK
  refine wpAnyH_ready (rs := [3]) (by kernel_rfl) (by simp) ?_
  refine AllReadyH.cons rfl (fun K hK => ?_) AllReadyH.nil
  go_simp
  go_at_call 8
  refine Calls.mono (eqPlan_of (eqPlanS_any D d) p _ _ _ _ _ _ _ _ _ (hX6.below (by repeat (first | (with_reducible exact Below.refl _ _) | (with_reducible refine Below.drew ?_) | (with_reducible refine Below.alloc ?_ ?hh _; case hh => first | (simp; done) | (simp; omega) | omega) | (with_reducible refine Below.setCell ?_ ?hh _; case hh => first | (simp; done) | (simp; omega) | omega) | refine bstep (by assumption) (by first | (simp; done) | (simp; omega) | omega) ?_))) (hU7.below (by repeat (first | (with_reducible exact Below.refl _ _) | (with_reducible refine Below.drew ?_) | (with_reducible refine Below.alloc ?_ ?hh _; case hh => first | (simp; done) | (simp; omega) | omega) | (with_reducible refine Below.setCell ?_ ?hh _; case hh => first | (simp; done) | (simp; omega) | omega) | refine bstep (by assumption) (by first | (simp; done) | (simp; omega) | omega) ?_)))) ?_
  rintro x w8 ⟨rfl, hb8⟩
  have hz8 := hb8.size
  (try simp at hz8)
  try go_wp2_with fail
  refine hK.out _ _ ?_ (fun hHeld3 => ?_)
  · exact ⟨hXb6.below (by repeat (first | (with_reducible exact Below.refl _ _) | (with_reducible refine Below.drew ?_) | (with_reducible refine Below.alloc ?_ ?hh _; case hh => first | (simp; done) | (simp; omega) | omega) | (with_reducible refine Below.setCell ?_ ?hh _; case hh => first | (simp; done) | (simp; omega) | omega) | refine bstep (by assumption) (by first | (simp; done) | (simp; omega) | omega) ?_)), hA6.below (by repeat (first | (with_reducible exact Below.refl _ _) | (with_reducible refine Below.drew ?_) | (with_reducible refine Below.alloc ?_ ?hh _; case hh => first | (simp; done) | (simp; omega) | omega) | (with_reducible refine Below.setCell ?_ ?hh _; case hh => first | (simp; done) | (simp; omega) | omega) | refine bstep (by assumption) (by first | (simp; done) | (simp; omega) | omega) ?_))⟩
  clear hK
  refine takeYes (i := 4) (d := 26) (v := ?_) rfl rfl (by kernel_rfl) (by kernel_rfl) (by kernel_rfl) (fun _ _ _ h => h) (by rfl) (by assumption) ?_ ?_
  rotate_left
  · intro w' hSw; obtain ⟨⟨_, x0, x1, x2, x3, x4, x5, x6, x7, x8, x9, x10, x11⟩, ⟨_, y0, y1, y2, y3, y4, y5, y6, y7, y8, y9, y10, y11⟩⟩ := hSw; go_simp; try exact rfl
  try simp only [List.setIfInBounds_toArray, List.set_cons_zero, List.set_cons_succ]
  refine wpAnyH_done (by kernel_rfl) ?_ _
  have hb68 : Below w6.heap.size w6 w8 := by repeat (first | (with_reducible exact Below.refl _ _) | (with_reducible refine Below.drew ?_) | (with_reducible refine Below.alloc ?_ ?hh _; case hh => first | (simp; done) | (simp; omega) | omega) | (with_reducible refine Below.setCell ?_ ?hh _; case hh => first | (simp; done) | (simp; omega) | omega) | refine bstep (by assumption) (by first | (simp; done) | (simp; omega) | omega) ?_)
  have belE : Below w.heap.size w w8 := hbw.trans (hb68.mono hzw)
  clear hHeld hHeld2 hHeld3 hb7 hb8 hU7 hb68 hX6 hXb6 hA6 hr6
  go_wp2
  go_returns
  exact ⟨rfl, belE⟩
end Go.Proofs.YtlpgkhdmilnbgaaDoor.fnExactPlanText
/- Own text. An expression that came in: its parts, and how its kids lie. -/
namespace Go.Proofs.YtlpgkhdmilnbgaaDoor
open Go.RowKit Go.Deep Go.ChangeShapes Go.WideShapes Go.Joins
set_option linter.unusedVariables false
theorem cellsExp : Tryd.prog.cellsOf 26 = 7 := by kernel_rfl
theorem cellsVal : Tryd.prog.cellsOf 23 = 3 := by kernel_rfl
theorem cellsInt : Tryd.prog.cellsOf 3 = 1 := by kernel_rfl
theorem cellsStr : Tryd.prog.cellsOf 9 = 1 := by kernel_rfl
theorem cellsKids : Tryd.prog.cellsOf 24 = 1 := by kernel_rfl
theorem KidsIs.wfs {w : World} {d : Nat} {v : Value} {es : List E7} {F : List Nat} (h : KidsIs w (d + 1) v es F) : ∀ e ∈ es, e.wf := by
  obtain ⟨a, c, G, _, _, _, hG, _, h⟩ := h
  intro e he
  obtain ⟨b, o, _, _, _, hL⟩ := h (by rintro rfl; cases he)
  obtain ⟨i, hi, rfl⟩ := List.mem_iff_getElem.1 he
  have hi' : i < G.length := by omega
  exact (hL i es[i] G[i] (by simp) (by simp)).1
section
variable {H : Type} {enc : TypeId × Value → H} {w : World} {spare : Nat → Bool} {held : Bool}
/-- a list of expressions that came in. -/
theorem open_exps {fuel : Nat} {v : Value} {x : DataW H × List MemPlace} (h : DataW.trod enc Tryd.prog w 0 spare held fuel 24 [v] = some x) : ∃ es F, KidsIs w (fuel + 1) v es F :=
  open_kids (P := Tryd.prog) Tryd.underlying24 Tryd.underlying26 cellsExp rfl rfl rfl rfl rfl cellsInt cellsInt cellsVal cellsStr cellsKids Tryd.underlying3 Tryd.underlying3 Tryd.underlying23 Tryd.underlying9 rfl rfl rfl rfl cellsInt cellsInt cellsStr Tryd.underlying3 Tryd.underlying3 Tryd.underlying9 fuel fuel (Nat.le_refl _) h
set_option maxRecDepth 100000 in
theorem open_exp {r : Reach} {b0 : Nat} {v : Value} {d : DataW H} {p : List MemPlace} (hv : Value.okWide Tryd.prog w r b0 26 v) (h : DataW.Trod enc Tryd.prog w 0 spare held 26 v d p) :
    ∃ (e : E7) (u : Value) (F : List Nat) (n : Nat), v = (.agg #[.int .i64 e.k, .int .i64 e.n, .int .i64 e.v.k, .int .i64 e.v.n, .string e.v.s, .string e.p, u]) ∧ e.wf ∧ KidsIs w n u e.ks F := by
  obtain ⟨⟨cs⟩, rfl, hsz⟩ := okWide_struct Tryd.underlying26 hv
  obtain ⟨fuel, hf⟩ := h
  obtain ⟨xs, k, hk, _, _, hxl, hfld⟩ := DataW.trod_struct Tryd.underlying26 hf
  have hs7 : cs.length = 7 := by have := hsz.trans cellsExp; simpa using this
  match xs, hxl, cs, hs7 with
  | [y0, y1, y2, y3, y4], _, [z0, z1, z2, z3, z4, z5, z6], _ =>
    have a0 := hfld 0 _ rfl
    have a1 := hfld 1 _ rfl
    have a2 := hfld 2 _ rfl
    have a3 := hfld 3 _ rfl
    have a4 := hfld 4 _ rfl
    simp [Value.cells, cellsInt, cellsVal, cellsStr, cellsKids] at a0 a1 a2 a3 a4
    obtain ⟨n0, q0, _, w0⟩ := DataW.trod_int Tryd.underlying3 a0
    obtain ⟨n1, q1, _, w1⟩ := DataW.trod_int Tryd.underlying3 a1
    obtain ⟨n3, q3, _, w3⟩ := DataW.trod_string Tryd.underlying9 a3
    obtain ⟨ys, k2, hk2, _, _, hyl, hfl2⟩ := DataW.trod_struct Tryd.underlying23 a2
    match ys, hyl with
    | [b0, b1, b2], _ =>
      have r0 := hfl2 0 _ rfl
      have r1 := hfl2 1 _ rfl
      have r2 := hfl2 2 _ rfl
      simp [cellsInt, cellsStr] at r0 r1 r2
      obtain ⟨m0, s0, _, x0⟩ := DataW.trod_int Tryd.underlying3 r0
      obtain ⟨m1, s1, _, x1⟩ := DataW.trod_int Tryd.underlying3 r1
      obtain ⟨m2, s2, _, x2⟩ := DataW.trod_string Tryd.underlying9 r2
      simp at q0 q1 q3 s0 s1 s2
      subst q0 q1 q3 s0 s1 s2
      obtain ⟨ks, F, hK⟩ := open_exps a4
      exact ⟨.mk n0 n1 ⟨m0, m1, m2⟩ n3 ks, z6, F, _, rfl, ⟨w0, w1, ⟨x0, x1, x2⟩, w3⟩, hK⟩
end
end Go.Proofs.YtlpgkhdmilnbgaaDoor
/- Own text. A plan that came in: its parts, and how its lists lie. -/
namespace Go.Proofs.YtlpgkhdmilnbgaaDoor
open Go.RowKit Go.Deep Go.ChangeShapes Go.WideShapes Go.Joins
set_option linter.unusedVariables false
theorem cellsPlan : Tryd.prog.cellsOf 29 = 12 := by kernel_rfl
theorem cellsPlans : Tryd.prog.cellsOf 27 = 1 := by kernel_rfl
section
variable {H : Type} {enc : TypeId × Value → H} {w : World} {spare : Nat → Bool} {held : Bool}
set_option maxRecDepth 100000 in
/-- the seven cells of an expression that came in. -/
theorem open_exp7 {fuel : Nat} {z0 z1 z2 z3 z4 z5 z6 : Value} {x : DataW H × List MemPlace} (h : DataW.trod enc Tryd.prog w 0 spare held fuel 26 [z0, z1, z2, z3, z4, z5, z6] = some x) :
    ∃ (e : E7) (F : List Nat) (n : Nat), n ≤ fuel ∧ z0 = .int .i64 e.k ∧ z1 = .int .i64 e.n ∧ z2 = .int .i64 e.v.k ∧ z3 = .int .i64 e.v.n ∧ z4 = .string e.v.s ∧ z5 = .string e.p ∧ e.wf ∧ KidsIs w n z6 e.ks F := by
  obtain ⟨xs, k, hk, _, _, hxl, hfld⟩ := DataW.trod_struct Tryd.underlying26 h
  match xs, hxl with
  | [y0, y1, y2, y3, y4], _ =>
    have a0 := hfld 0 _ rfl
    have a1 := hfld 1 _ rfl
    have a2 := hfld 2 _ rfl
    have a3 := hfld 3 _ rfl
    have a4 := hfld 4 _ rfl
    simp [cellsInt, cellsVal, cellsStr, cellsKids] at a0 a1 a2 a3 a4
    obtain ⟨n0, q0, _, w0⟩ := DataW.trod_int Tryd.underlying3 a0
    obtain ⟨n1, q1, _, w1⟩ := DataW.trod_int Tryd.underlying3 a1
    obtain ⟨n3, q3, _, w3⟩ := DataW.trod_string Tryd.underlying9 a3
    obtain ⟨ys, k2, hk2, _, _, hyl, hfl2⟩ := DataW.trod_struct Tryd.underlying23 a2
    match ys, hyl with
    | [b0, b1, b2], _ =>
      have r0 := hfl2 0 _ rfl
      have r1 := hfl2 1 _ rfl
      have r2 := hfl2 2 _ rfl
      simp [cellsInt, cellsStr] at r0 r1 r2
      obtain ⟨m0, s0, _, x0⟩ := DataW.trod_int Tryd.underlying3 r0
      obtain ⟨m1, s1, _, x1⟩ := DataW.trod_int Tryd.underlying3 r1
      obtain ⟨m2, s2, _, x2⟩ := DataW.trod_string Tryd.underlying9 r2
      simp at q0 q1 q3 s0 s1 s2
      subst q0 q1 q3 s0 s1 s2
      obtain ⟨ks, F, hK⟩ := open_exps a4
      exact ⟨.mk n0 n1 ⟨m0, m1, m2⟩ n3 ks, F, k + 1, by omega, rfl, rfl, rfl, rfl, rfl, rfl, ⟨w0, w1, ⟨x0, x1, x2⟩, w3⟩, hK⟩
set_option maxRecDepth 100000 in
/-- the twelve cells of a plan that came in, where its kids are known. -/
theorem open_plan12 {fuel N : Nat} (hN : fuel ≤ N + 1) (ih : ∀ (f : Nat), f ≤ N → ∀ {v : Value} {x : DataW H × List MemPlace}, DataW.trod enc Tryd.prog w 0 spare held f 27 [v] = some x → ∃ ps F, PlansIs w (N + 2) (N + 1) v ps F)
    {z0 z1 z2 z3 z4 z5 z6 z7 z8 z9 z10 z11 : Value} {x : DataW H × List MemPlace} (h : DataW.trod enc Tryd.prog w 0 spare held fuel 29 [z0, z1, z2, z3, z4, z5, z6, z7, z8, z9, z10, z11] = some x) :
    ∃ (p : P12) (g : List Nat), z0 = .int .i64 p.k ∧ z1 = .string p.s ∧ z2 = .int .i64 p.e.k ∧ z3 = .int .i64 p.e.n ∧ z4 = .int .i64 p.e.v.k ∧ z5 = .int .i64 p.e.v.n ∧ z6 = .string p.e.v.s ∧ z7 = .string p.e.p ∧ z10 = .int .i64 p.n ∧ p.wf ∧ ListsP w (N + 2) (PlansIs w (N + 2) (N + 1)) p z8 z9 z11 g := by
  obtain ⟨xs, k, hk, _, _, hxl, hfld⟩ := DataW.trod_struct Tryd.underlying29 h
  match xs, hxl with
  | [y0, y1, y2, y3, y4, y5], _ =>
    have a0 := hfld 0 _ rfl
    have a1 := hfld 1 _ rfl
    have a2 := hfld 2 _ rfl
    have a3 := hfld 3 _ rfl
    have a4 := hfld 4 _ rfl
    have a5 := hfld 5 _ rfl
    simp [cellsInt, cellsStr, cellsExp, cellsKids, cellsPlans] at a0 a1 a2 a3 a4 a5
    obtain ⟨n0, q0, _, w0⟩ := DataW.trod_int Tryd.underlying3 a0
    obtain ⟨n1, q1, _, w1⟩ := DataW.trod_string Tryd.underlying9 a1
    obtain ⟨n4, q4, _, w4⟩ := DataW.trod_int Tryd.underlying3 a4
    simp at q0 q1 q4
    obtain ⟨e, Fe, m, hm, e0, e1, e2, e3, e4, e5, ew, ke⟩ := open_exp7 a2
    obtain ⟨es, Fs, ks⟩ := open_exps a3
    obtain ⟨ps, F, kp⟩ := ih k (by omega) a5
    exact ⟨.mk n0 n1 e es n4 ps, Fe ++ (Fs ++ F), q0, q1, e0, e1, e2, e3, e4, e5, q4, ⟨w0, w1, ew, w4⟩, Fe, Fs, F, rfl, ke.up (by omega), ks.up (by omega), kp⟩
set_option maxRecDepth 100000 in
/-- a list of plans that came in. -/
theorem open_plans : ∀ (N fuel : Nat), fuel ≤ N → ∀ {v : Value} {x : DataW H × List MemPlace}, DataW.trod enc Tryd.prog w 0 spare held fuel 27 [v] = some x → ∃ ps F, PlansIs w (N + 2) (N + 1) v ps F := by
  intro N
  induction N with
  | zero =>
    intro fuel hf v x h
    obtain rfl : fuel = 0 := by omega
    simp [DataW.trod] at h
  | succ N ih =>
    intro fuel hf v x h
    rcases DataW.trod_slice Tryd.underlying27 h with ⟨h0, _⟩ | ⟨a, len, cap, elems, rest, n, hfn, hcs, rfl, hb, hl, hm, hlen, hel, hsp, hns⟩
    · simp at h0; subst h0
      exact ⟨[], [], none, 0, [], rfl, by simp, by simp, rfl, fun _ => rfl, fun h => absurd rfl h⟩
    simp at hcs; subst hcs
    have each : ∀ i, i < len → ∃ q : P12 × List Nat × Value × Value × Value, q.1.wf ∧ (w.cell? (a.add (i * 12)) = some (.int .i64 q.1.k) ∧ w.cell? (a.add (i * 12 + 1)) = some (.string q.1.s) ∧ w.cell? (a.add (i * 12 + 2)) = some (.int .i64 q.1.e.k) ∧ w.cell? (a.add (i * 12 + 3)) = some (.int .i64 q.1.e.n) ∧ w.cell? (a.add (i * 12 + 4)) = some (.int .i64 q.1.e.v.k) ∧ w.cell? (a.add (i * 12 + 5)) = some (.int .i64 q.1.e.v.n) ∧ w.cell? (a.add (i * 12 + 6)) = some (.string q.1.e.v.s) ∧ w.cell? (a.add (i * 12 + 7)) = some (.string q.1.e.p) ∧ w.cell? (a.add (i * 12 + 8)) = some q.2.2.1 ∧ w.cell? (a.add (i * 12 + 9)) = some q.2.2.2.1 ∧ w.cell? (a.add (i * 12 + 10)) = some (.int .i64 q.1.n) ∧ w.cell? (a.add (i * 12 + 11)) = some q.2.2.2.2) ∧ ListsP w (N + 2) (PlansIs w (N + 2) (N + 1)) q.1 q.2.2.1 q.2.2.2.1 q.2.2.2.2 q.2.1 := by
      intro i hi
      have hi1 := hel i hi
      have hie : elems[i]? = some elems[i] := by simp [hlen, hi]
      rw [hie, Option.bind_eq_some_iff] at hi1
      obtain ⟨cs', h1, h2⟩ := hi1
      rw [cellsPlan] at h1
      obtain ⟨_, hlen12, hcell⟩ := World.cells?_some h1
      match cs', hlen12 with
      | [z0, z1, z2, z3, z4, z5, z6, z7, z8, z9, z10, z11], _ =>
        obtain ⟨p, g, r0, r1, r2, r3, r4, r5, r6, r7, r10, hw, hL⟩ := open_plan12 (N := N) (by omega) ih h2
        have e0 := hcell 0 (by omega)
        have e1 := hcell 1 (by omega)
        have e2 := hcell 2 (by omega)
        have e3 := hcell 3 (by omega)
        have e4 := hcell 4 (by omega)
        have e5 := hcell 5 (by omega)
        have e6 := hcell 6 (by omega)
        have e7 := hcell 7 (by omega)
        have e8 := hcell 8 (by omega)
        have e9 := hcell 9 (by omega)
        have e10 := hcell 10 (by omega)
        have e11 := hcell 11 (by omega)
        rw [add_add] at e0 e1 e2 e3 e4 e5 e6 e7 e8 e9 e10 e11
        subst r0 r1 r2 r3 r4 r5 r6 r7 r10
        exact ⟨⟨p, g, z8, z9, z11⟩, hw, ⟨by simpa using e0, by simpa using e1, by simpa using e2, by simpa using e3, by simpa using e4, by simpa using e5, by simpa using e6, by simpa using e7, by simpa using e8, by simpa using e9, by simpa using e10, by simpa using e11⟩, hL⟩
    have : Inhabited (P12 × List Nat × Value × Value × Value) := ⟨⟨.nil, [], .nilFunc, .nilFunc, .nilFunc⟩⟩
    obtain ⟨q, hq⟩ := choose_lt each
    refine ⟨(List.range len).map fun i => (q i).1, if len = 0 then [] else a.block :: ((List.range len).map fun i => (q i).2.1).flatten, some a, cap, (List.range len).map fun i => (q i).2.1, by simp, by simpa using hl, hm, by simp, fun hne => ?_, fun hne => ?_⟩
    · have : len = 0 := by simpa using congrArg List.length hne
      simp [this]
    · have hpos : 0 < len := by
        rcases Nat.eq_zero_or_pos len with h0 | h0
        · subst h0; simp at hne
        · exact h0
      have hs : a.spot = none := by have := World.cell?_spot (hq 0 hpos).2.1.1; simpa [Addr.add] using this
      obtain ⟨b, o, sp⟩ := a
      simp at hs; subst hs
      refine ⟨b, o, rfl, ?_, by simp; omega, fun i x g hx hg => ?_⟩
      · have := World.block_lt_of_cell? _ _ (hq 0 hpos).2.1.1
        simpa [Addr.add] using this
      · have hi : i < len := by
          obtain ⟨h1, _⟩ := List.getElem?_eq_some_iff.1 hx
          simpa using h1
        have ex : x = (q i).1 := by simp [hi] at hx; exact hx.symm
        have eg : g = (q i).2.1 := by simp [hi] at hg; exact hg.symm
        subst ex eg
        obtain ⟨hw, ⟨h0, h1, h2, h3, h4, h5, h6, h7, h8, h9, h10, h11⟩, Fe, Fs, k, hgg, ke, kes, kp⟩ := hq i hi
        rw [add_plain] at h0 h1 h2 h3 h4 h5 h6 h7 h8 h9 h10 h11
        exact ⟨hw, _, _, _, ⟨h0, by simpa [Nat.add_assoc] using h1, by simpa [Nat.add_assoc] using h2, by simpa [Nat.add_assoc] using h3, by simpa [Nat.add_assoc] using h4, by simpa [Nat.add_assoc] using h5, by simpa [Nat.add_assoc] using h6, by simpa [Nat.add_assoc] using h7, by simpa [Nat.add_assoc] using h8, by simpa [Nat.add_assoc] using h9, by simpa [Nat.add_assoc] using h10, by simpa [Nat.add_assoc] using h11⟩, Fe, Fs, k, hgg, ke.up (by omega), kes.up (by omega), kp.up (by omega) (Nat.le_refl _)⟩
set_option maxRecDepth 100000 in
theorem open_plan {r : Reach} {b0 : Nat} {v : Value} {d : DataW H} {ps : List MemPlace} (hv : Value.okWide Tryd.prog w r b0 29 v) (h : DataW.Trod enc Tryd.prog w 0 spare held 29 v d ps) :
    ∃ (p : P12) (ue us u : Value) (F : List Nat) (D n : Nat), v = (.agg #[.int .i64 p.k, .string p.s, .int .i64 p.e.k, .int .i64 p.e.n, .int .i64 p.e.v.k, .int .i64 p.e.v.n, .string p.e.v.s, .string p.e.p, ue, us, .int .i64 p.n, u]) ∧ p.wf ∧ ListsP w D (PlansIs w D n) p ue us u F := by
  obtain ⟨⟨cs⟩, rfl, hsz⟩ := okWide_struct Tryd.underlying29 hv
  obtain ⟨fuel, hf⟩ := h
  have hs12 : cs.length = 12 := by have := hsz.trans cellsPlan; simpa using this
  match cs, hs12 with
  | [z0, z1, z2, z3, z4, z5, z6, z7, z8, z9, z10, z11], _ =>
    obtain ⟨p, g, r0, r1, r2, r3, r4, r5, r6, r7, r10, hw, hL⟩ := open_plan12 (N := fuel) (fuel := fuel) (by omega) (fun f hf' => open_plans fuel f hf') (by simpa [Value.cells] using hf)
    subst r0 r1 r2 r3 r4 r5 r6 r7 r10
    exact ⟨p, z8, z9, z11, g, _, _, rfl, hw, hL⟩
end
end Go.Proofs.YtlpgkhdmilnbgaaDoor
