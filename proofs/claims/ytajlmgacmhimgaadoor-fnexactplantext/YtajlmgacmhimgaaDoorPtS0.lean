/- Own text. spec.l04Text of a plan of one kind. -/
import Derived.Test.YtajlmgacmhimgaaDoorPtSb
import Derived.Handy
import Derived.Deep.RegionHeld3
namespace Go.Proofs.YtajlmgacmhimgaaDoor
open Go.RowKit
set_option linter.unusedVariables false
set_option maxHeartbeats 8000000 in
set_option maxRecDepth 100000 in
theorem tpS_0 {f : Nat} (ih : TpS f) {p : P12} {ue us u : Value} {g : List Nat} {D d : Nat} {w : World} (hw : p.wf) (hL : ListsP w D (PlansIs w D d) p ue us u g) (hn : wtP p ≤ 1048576) (hf : f + 1 ≤ 21) (hE : Env w) (h0 : p.k = 0) :
    Calls Tryd.prog 52 #[(.agg #[.int .i64 p.k, .string p.s, .int .i64 p.e.k, .int .i64 p.e.n, .int .i64 p.e.v.k, .int .i64 p.e.v.n, .string p.e.v.s, .string p.e.p, ue, us, .int .i64 p.n, u]), .int .i64 (((f + 1 : Nat) : Int) - 1)] w fun x w' => x = .returned (.string (bs (planT (f + 1) p))) ∧ Below w.heap.size w w' := by
  obtain ⟨r, HR⟩ := hidE (bs (planT (f + 1) p))
  rw [HR.out]
  have hkl := ksT_len (planT_len f) hL
  have hwt := wtP_eq p
  obtain ⟨a_e, a_E, a_s, a_S, a_k, a_K, rfl, rfl, rfl, _, _, _, _, _, _⟩ := hL.shape
  obtain ⟨Fe, Fs, h, rfl, ke, kes, kp⟩ := hL
  obtain ⟨d, rfl⟩ := succP kp
  obtain ⟨a, c, b, o, G, e0, hl, hc, hG, _, ha⟩ := kp.pick
  injection e0 with e1 e2 e3
  subst e1 e3
  unfold maxLen at hc
  obtain ⟨n0, n1⟩ := wf64X p.n hw.2.2.2
  have hil := Lib.itoa_length_le p.n n0 n1
  have hel := expText_len p.e w D _ Fe hw.2.2.1 ke
  have hll := lstT_len kes
  have hX0 := fun w2 (hb : Below w.heap.size w w2) => specExpText_any p.e _ Fe D w2 hw.2.2.1 (ke.below hb) (hE.below hb)
  have hY0 := fun w2 (hb : Below w.heap.size w w2) => l04Exps_any _ p.es Fs D w2 (kes.below hb) (by omega) (hE.below hb)
  have hD0 : ∀ w2, Below w.heap.size w w2 → Calls Tryd.prog 12 #[.int .i64 p.n] w2 fun x w' => x = .returned (.string (bs (Lib.itoa p.n))) ∧ Below w2.heap.size w2 w' := fun w2 hb => (specDec_any p.n w2 n0 n1).mono fun x w' ⟨he, hw'⟩ => ⟨he, hw' ▸ Below.refl _ _⟩
  obtain ⟨t1, H1⟩ := hidE (bs (expText p.e))
  obtain ⟨t2, H2⟩ := hidE (bs (lstT p.es))
  obtain ⟨t4, H4⟩ := hidE (bs (Lib.itoa p.n))
  obtain ⟨dd, HD⟩ := hidE (((f + 1 : Nat) : Int) - 1)
  rw [HD.out]
  rw [H1.out] at hX0
  rw [H2.out] at hY0
  rw [H4.out] at hD0
  have hd0 : 0 ≤ dd := by have := HD.out; omega
  have hd2 : dd ≤ 20 := by have := HD.out; omega
  have hd1 : dd - 1 = (f : Int) - 1 := by have := HD.out; omega
  have hs1 : t1.size ≤ 5000000000000 := by rw [← H1.out, bs_size]; omega
  have hs2 : t2.size ≤ 5000000000000 := by rw [← H2.out, bs_size]; omega
  have hs4 : t4.size ≤ 5000000000000 := by rw [← H4.out, bs_size]; omega
  have HE : Hid (Env w) := hE
  have hI := fun x ux1 ux2 ux3 g w2 hw2 hL2 hn2 hE2 => ih x ux1 ux2 ux3 g D d w2 hw2 hL2 hn2 (by omega) hE2
  rw [← hd1] at hI
  have hKd := fun w2 => l04Kids_in p.k w2 (by rw [h0]; simp)
  have hB := bxP_new w p (.slice a_e p.e.ks.length a_E) (.slice a_s p.es.length a_S) (.slice a_k p.ks.length a_K) 60
  have H0 : Hid (p.k = 0) := h0
  clear hd1 ke kes hE hw ih hil hel hll n0 n1 HD h0
  go_enter Tryd.func52, Tryd.ntmps52
  go_wp2_with fail
  refine Calls.mono (hKd _) ?_
  rintro x w1 ⟨⟨z1, rfl, hz1⟩, hb1⟩
  have hB1 := hB.below hb1
  have bel1 : Below w.heap.size w w1 := by repeat (first | (with_reducible exact Below.refl _ _) | (with_reducible refine Below.drew ?_) | (with_reducible refine Below.alloc ?_ ?hh _; case hh => first | (simp; done) | (simp; omega) | omega) | (with_reducible refine Below.setCell ?_ ?hh _; case hh => first | (simp; done) | (simp; omega) | omega) | refine bstep (by assumption) (by first | (simp; done) | (simp; omega) | omega) ?_)
  have hlw : w.heap.size < w1.heap.size := hB1.1
  clear hKd hb1 hB
  go_wp2
  go_loopw [5, 6] (fun y i wr => ∃ (k : Nat) (x : ByteArray), k ≤ p.ks.length ∧ i = .int .i64 k ∧ y = .string x ∧ x = bs (Lib.join ((p.ks.take k).map (planT f)) [44, 32]) ∧ Below w1.heap.size w1 wr) (fun _ i _ => p.ks.length - (intOf i).toNat)
  case atStart => exact ⟨0, _, Nat.zero_le _, rfl, rfl, rfl, by go_grown⟩
  case round =>
    obtain ⟨k, z, hk, rfl, rfl, hz, hb'⟩ := hrel
    have hBr := hB1.below hb'
    have hb : Below w.heap.size w wr := bel1.trans (hb'.mono bel1.size)
    have hzb := hb.size
    have HZ : Hid (z = bs (Lib.join ((p.ks.take k).map (planT f)) [44, 32])) := hz
    have hj := hkl k
    have hzs : z.size ≤ 5000000000000 := by rw [HZ.out, bs_size]; omega
    clear hz hj
    by_cases hlt : k < p.ks.length
    · obtain ⟨rfl, hblt, _, hL⟩ := ha k hlt
      obtain ⟨x, g, ue, us, u, hx, hg, hxw, ⟨c0, c1, c2, c3, c4, c5, c6, c7, c8, c9, c10, c11⟩, hLx, hbr⟩ := hL.at hG hblt hb hlt
      obtain ⟨x_e, x_E, x_s, x_S, x_k, x_K, rfl, rfl, rfl, _, _, _, _, _, _⟩ := hLx.shape
      have HX := ksP_next (f := f) hx
      have hxn : wtP x ≤ 1048576 := by have := wtP_mem (List.mem_of_getElem? hx); omega
      have hxt := planT_len f x wr D d _ _ _ g hxw hLx
      have hV := fun w2 (hb2 : Below wr.heap.size wr w2) => hI x _ _ _ g w2 hxw (hLx.below hb2) hxn (HE.out.below (hb.trans (hb2.mono hzb)))
      obtain ⟨t3, H3⟩ := hidE (bs (planT f x))
      rw [H3.out] at hV
      have hs3 : t3.size ≤ 5000000000000 := by rw [← H3.out, bs_size]; omega
      obtain ⟨_, _, _, _, _, _, _, _, _, _, _, _, b11⟩ := hBr
      by_cases hk0 : k = 0
      · subst hk0
        rw [if_pos rfl] at HX
        have HF : Hid (z ++ t3 = bs (Lib.join ((p.ks.take (0 + 1)).map (planT f)) [44, 32])) := by
          show _ = _
          rw [HX, HZ.out, ← H3.out]
          simp [Lib.join_nil]
          rw [show bs [] = ByteArray.empty from rfl, ByteArray.empty_append]
        simp only [Nat.zero_mul, Nat.add_zero] at c0 c1 c2 c3 c4 c5 c6 c7 c8 c9 c10 c11
        clear ha hL hx hxw hLx hg HX H1 H2 H3 H4 hkl hxt hI hX0 hY0 hD0 hxn
        go_wp2_with fail
        refine Calls.mono (hV _ (Below.refl _ _)) ?_
        rintro e w2 ⟨rfl, hb2⟩
        have bel2 : Below w1.heap.size w1 w2 := hb'.trans (hb2.mono hb'.size)
        clear hV hb2 c0 c1 c2 c3 c4 c5 c6 c7 c8 c9 c10 c11 b11
        go_wp2_with fail
        exact ⟨⟨0 + 1, _, hlt, by simp, rfl, HF.out, bel2⟩, by simp [intOf]; omega⟩
      · rw [if_neg hk0] at HX
        have hkp : (0 : Int) < (k : Int) := by omega
        have hzc : (z ++ (⟨#[44, 32]⟩ : ByteArray)).size ≤ 5000000000002 := by rw [ByteArray.size_append]; have : (⟨#[44, 32]⟩ : ByteArray).size = 2 := rfl; omega
        have HF : Hid ((z ++ (⟨#[44, 32]⟩ : ByteArray)) ++ t3 = bs (Lib.join ((p.ks.take (k + 1)).map (planT f)) [44, 32])) := by
          show _ = _
          rw [HX, HZ.out, ← H3.out, show (⟨#[44, 32]⟩ : ByteArray) = bs [44, 32] from rfl, bs_app, bs_app, List.append_assoc]
        clear ha hL hx hxw hLx hg HX H1 H2 H3 H4 hkl hxt hI hX0 hY0 hD0 hxn
        go_wp2_with fail
        refine Calls.mono (hV _ (Below.refl _ _)) ?_
        rintro e w2 ⟨rfl, hb2⟩
        have bel2 : Below w1.heap.size w1 w2 := hb'.trans (hb2.mono hb'.size)
        clear hV hb2 c0 c1 c2 c3 c4 c5 c6 c7 c8 c9 c10 c11 b11
        go_wp2_with fail
        exact ⟨⟨k + 1, _, hlt, by simp, rfl, HF.out, bel2⟩, by simp [intOf]; omega⟩
    · obtain rfl : k = p.ks.length := by omega
      obtain ⟨t3, H3'⟩ : ∃ t3, t3 = z := ⟨_, rfl⟩
      subst H3'
      have H3 : Hid (bs (ksT f p) = t3) := by show _ = _; rw [HZ.out, List.take_length]; rfl
      have hs3 := hzs
      clear ha hkl hI HZ hzs
      have h0 := H0.out
      have HR2 : Hid (p.s = r) := by show _ = _; rw [← HR.out, planT_0 h0, bs_of]
      have k0 : (p.k == 0) = true := by rw [h0]; rfl
      obtain ⟨_, x0, x1, x2, x3, x4, x5, x6, x7, x8, x9, x10, x11⟩ := hBr
      clear hX0 hY0 hD0 h0 H1 H2 H3 H4
      go_wp2_with fail
      go_returns
      exact ⟨by rw [← HR2.out]; rfl, hb⟩
end Go.Proofs.YtajlmgacmhimgaaDoor
