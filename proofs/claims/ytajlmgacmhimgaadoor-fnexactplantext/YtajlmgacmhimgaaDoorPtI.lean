/- Own text. The contract of impl.PlanText. -/
import Derived.Test.YtajlmgacmhimgaaDoorKtI
import Derived.Test.YtajlmgacmhimgaaDoorLtI
import Derived.Test.YtajlmgacmhimgaaDoorBoxP
import Derived.Test.YtajlmgacmhimgaaDoorTake
import Derived.Handy
import Derived.Deep.RegionHeld3
namespace Go.Proofs.YtajlmgacmhimgaaDoor
open Go.RowKit
set_option linter.unusedVariables false
theorem tpI_zero : TpI 0 := by
  intro p ue us u g D d w hw hL hn hf hE
  obtain ⟨a_e, a_E, a_s, a_S, a_k, a_K, rfl, rfl, rfl, _, _, _, _, _, _⟩ := hL.shape
  clear hL hE hw
  simp only [planT]
  go_enter Tryd.func54, Tryd.ntmps54
  go_wp2
  go_returns
  exact ⟨rfl, by repeat (first | (with_reducible exact Below.refl _ _) | (with_reducible refine Below.drew ?_) | (with_reducible refine Below.alloc ?_ ?hh _; case hh => first | (simp; done) | (simp; omega) | omega) | (with_reducible refine Below.setCell ?_ ?hh _; case hh => first | (simp; done) | (simp; omega) | omega) | refine bstep (by assumption) (by first | (simp; done) | (simp; omega) | omega) ?_)⟩
set_option maxHeartbeats 4000000 in
set_option maxRecDepth 100000 in
theorem tpI_0 {f : Nat} (ih : TpI f) {p : P12} {ue us u : Value} {g : List Nat} {D d : Nat} {w : World} (hw : p.wf) (hL : ListsP w D (PlansIs w D d) p ue us u g) (hn : wtP p ≤ 1048576) (hf : f + 1 ≤ 21) (hE : Env w) (h0 : p.k = 0) :
    Calls Tryd.prog 54 #[(.agg #[.int .i64 p.k, .string p.s, .int .i64 p.e.k, .int .i64 p.e.n, .int .i64 p.e.v.k, .int .i64 p.e.v.n, .string p.e.v.s, .string p.e.p, ue, us, .int .i64 p.n, u]), .int .i64 (21 - ((f + 1 : Nat) : Int))] w fun x w' => x = .returned (.string (bs (planT (f + 1) p))) ∧ Below w.heap.size w w' := by
  rw [planT_0 h0, bs_of]
  obtain ⟨a_e, a_E, a_s, a_S, a_k, a_K, rfl, rfl, rfl, _, _, _, _, _, _⟩ := hL.shape
  obtain ⟨dd, HD⟩ := hidE (21 - ((f + 1 : Nat) : Int))
  rw [HD.out]
  have hd0 : 0 ≤ dd := by have := HD.out; omega
  have hd2 : dd ≤ 20 := by have := HD.out; omega
  have k0 : (p.k == 0) = true := by rw [h0]; rfl
  clear hL hE hw ih h0 HD
  go_enter Tryd.func54, Tryd.ntmps54
  go_wp2
  go_returns
  exact ⟨rfl, by repeat (first | (with_reducible exact Below.refl _ _) | (with_reducible refine Below.drew ?_) | (with_reducible refine Below.alloc ?_ ?hh _; case hh => first | (simp; done) | (simp; omega) | omega) | (with_reducible refine Below.setCell ?_ ?hh _; case hh => first | (simp; done) | (simp; omega) | omega) | refine bstep (by assumption) (by first | (simp; done) | (simp; omega) | omega) ?_)⟩
set_option maxHeartbeats 8000000 in
set_option maxRecDepth 100000 in
theorem tpI_1 {f : Nat} (ih : TpI f) {p : P12} {ue us u : Value} {g : List Nat} {D d : Nat} {w : World} (hw : p.wf) (hL : ListsP w D (PlansIs w D d) p ue us u g) (hn : wtP p ≤ 1048576) (hf : f + 1 ≤ 21) (hE : Env w) (h0 : p.k = 1) :
    Calls Tryd.prog 54 #[(.agg #[.int .i64 p.k, .string p.s, .int .i64 p.e.k, .int .i64 p.e.n, .int .i64 p.e.v.k, .int .i64 p.e.v.n, .string p.e.v.s, .string p.e.p, ue, us, .int .i64 p.n, u]), .int .i64 (21 - ((f + 1 : Nat) : Int))] w fun x w' => x = .returned (.string (bs (planT (f + 1) p))) ∧ Below w.heap.size w w' := by
  obtain ⟨r, HR⟩ := hidE (bs (planT (f + 1) p))
  rw [HR.out]
  have HR2 : Hid (bs ([102, 105, 108, 116, 101, 114, 40] ++ (expText p.e ++ ([44, 32] ++ (ksT f p ++ [41])))) = r) := by show _ = _; rw [← HR.out, planT_1 h0]
  have hK0 := fun w2 (hb : Below w.heap.size w w2) => kidsText_any ih p ue us u g D d w2 (hL.below hb) hn hf (hE.below hb)
  have hkl := ksT_len' (planT_len f) hL
  have hwt := wtP_eq p
  obtain ⟨a_e, a_E, a_s, a_S, a_k, a_K, rfl, rfl, rfl, _, _, _, _, _, _⟩ := hL.shape
  obtain ⟨Fe, Fs, h, rfl, ke, kes, kp⟩ := hL
  obtain ⟨n0, n1⟩ := wf64X p.n hw.2.2.2
  have hil := Lib.itoa_length_le p.n n0 n1
  have hel := expText_len p.e w D _ Fe hw.2.2.1 ke
  have hll := lstT_len kes
  have hX0 := fun w2 (hb : Below w.heap.size w w2) => implExpText_any p.e _ Fe D w2 hw.2.2.1 (ke.below hb) (hE.below hb)
  have hY0 := fun w2 (hb : Below w.heap.size w w2) => listText_any _ p.es Fs D w2 (kes.below hb) (by omega) (hE.below hb)
  have hD0 := fun w2 (hb : Below w.heap.size w w2) => implDec_env p.n w2 n0 n1 (hE.below hb)
  obtain ⟨t1, H1⟩ := hidE (bs (expText p.e))
  obtain ⟨t2, H2⟩ := hidE (bs (lstT p.es))
  obtain ⟨t3, H3⟩ := hidE (bs (ksT f p))
  obtain ⟨t4, H4⟩ := hidE (bs (Lib.itoa p.n))
  obtain ⟨dd, HD⟩ := hidE (21 - ((f + 1 : Nat) : Int))
  rw [HD.out] at hK0 ⊢
  rw [H3.out] at hK0
  rw [H1.out] at hX0
  rw [H2.out] at hY0
  rw [H4.out] at hD0
  have hd0 : 0 ≤ dd := by have := HD.out; omega
  have hd2 : dd ≤ 20 := by have := HD.out; omega
  have hs1 : t1.size ≤ 5000000000000 := by rw [← H1.out, bs_size]; omega
  have hs2 : t2.size ≤ 5000000000000 := by rw [← H2.out, bs_size]; omega
  have hs3 : t3.size ≤ 5000000000000 := by rw [← H3.out, bs_size]; omega
  have hs4 : t4.size ≤ 5000000000000 := by rw [← H4.out, bs_size]; omega
  have k0 : (p.k == 0) = false := by rw [h0]; rfl
  have k1 : (p.k == 1) = true := by rw [h0]; rfl
  have sz1 : ((⟨#[102, 105, 108, 116, 101, 114, 40]⟩ : ByteArray) ++ t1).size ≤ 5000000000010 := by simp only [ByteArray.size_append]; have z0 : (⟨#[102, 105, 108, 116, 101, 114, 40]⟩ : ByteArray).size = 7 := rfl; omega
  have sz2 : ((⟨#[102, 105, 108, 116, 101, 114, 40]⟩ : ByteArray) ++ t1 ++ (⟨#[44, 32]⟩ : ByteArray)).size ≤ 5000000000020 := by simp only [ByteArray.size_append]; have z0 : (⟨#[102, 105, 108, 116, 101, 114, 40]⟩ : ByteArray).size = 7 := rfl; have z1 : (⟨#[44, 32]⟩ : ByteArray).size = 2 := rfl; omega
  have sz3 : ((⟨#[102, 105, 108, 116, 101, 114, 40]⟩ : ByteArray) ++ t1 ++ (⟨#[44, 32]⟩ : ByteArray) ++ t3).size ≤ 10000000000020 := by simp only [ByteArray.size_append]; have z0 : (⟨#[102, 105, 108, 116, 101, 114, 40]⟩ : ByteArray).size = 7 := rfl; have z1 : (⟨#[44, 32]⟩ : ByteArray).size = 2 := rfl; omega
  have HF : Hid ((⟨#[102, 105, 108, 116, 101, 114, 40]⟩ : ByteArray) ++ t1 ++ (⟨#[44, 32]⟩ : ByteArray) ++ t3 ++ (⟨#[41]⟩ : ByteArray) = r) := by
    show _ = _
    rw [← HR2.out, ← H1.out, ← H3.out, show (⟨#[102, 105, 108, 116, 101, 114, 40]⟩ : ByteArray) = bs [102, 105, 108, 116, 101, 114, 40] from rfl, show (⟨#[41]⟩ : ByteArray) = bs [41] from rfl, show (⟨#[44, 32]⟩ : ByteArray) = bs [44, 32] from rfl, bs_app, bs_app, bs_app, bs_app]
    simp
  have hB := bxP_new w p (.slice a_e p.e.ks.length a_E) (.slice a_s p.es.length a_S) (.slice a_k p.ks.length a_K) 60
  clear hw hE ih hel hll hkl hil n0 n1 ke kes kp hn hf hwt HD H1 H2 H3 H4 HR HR2 h0
  go_enter Tryd.func54, Tryd.ntmps54
  go_wp2_with fail
  refine wp_region_held_drew (S := (fun w' => BxP w' w.heap.size p (.slice a_e p.e.ks.length a_E) (.slice a_s p.es.length a_S) (.slice a_k p.ks.length a_K))) (by kernel_rfl) ?_ (fun hHeld => ?_)
  · exact hB.below (by repeat (first | (with_reducible exact Below.refl _ _) | (with_reducible refine Below.drew ?_) | (with_reducible refine Below.alloc ?_ ?hh _; case hh => first | (simp; done) | (simp; omega) | omega) | (with_reducible refine Below.setCell ?_ ?hh _; case hh => first | (simp; done) | (simp; omega) | omega) | refine bstep (by assumption) (by first | (simp; done) | (simp; omega) | omega) ?_))
  refine takeYes (i := 0) (d := 15) (v := ?_) rfl rfl (by kernel_rfl) (by kernel_rfl) (by kernel_rfl) (fun _ _ _ h => h) (by rfl) (by assumption) ?_ ?_
  rotate_left
  · intro w' hSw; obtain ⟨_, x0, x1, x2, x3, x4, x5, x6, x7, x8, x9, x10, x11⟩ := hSw; go_simp; (try rw [if_neg (by omega)]); try exact rfl
  try simp only [List.setIfInBounds_toArray, List.set_cons_zero, List.set_cons_succ]
  refine takeYes (i := 1) (d := 16) (v := ?_) rfl rfl (by kernel_rfl) (by kernel_rfl) (by kernel_rfl) (fun _ _ _ h => h) (by rfl) (by assumption) ?_ ?_
  rotate_left
  · intro w' hSw; obtain ⟨_, x0, x1, x2, x3, x4, x5, x6, x7, x8, x9, x10, x11⟩ := hSw; go_simp; (try rw [if_neg (by omega)]); try exact rfl
  try simp only [List.setIfInBounds_toArray, List.set_cons_zero, List.set_cons_succ]
  refine takeYes (i := 5) (d := 20) (v := ?_) rfl rfl (by kernel_rfl) (by kernel_rfl) (by kernel_rfl) (fun _ _ _ h => h) (by rfl) (by assumption) ?_ ?_
  rotate_left
  · intro w' hSw; obtain ⟨_, x0, x1, x2, x3, x4, x5, x6, x7, x8, x9, x10, x11⟩ := hSw; go_simp; (try rw [if_neg (by omega)]); try exact rfl
  try simp only [List.setIfInBounds_toArray, List.set_cons_zero, List.set_cons_succ]
  refine takeYes (i := 6) (d := 21) (v := ?_) rfl rfl (by kernel_rfl) (by kernel_rfl) (by kernel_rfl) (fun _ _ _ h => h) (by rfl) (by assumption) ?_ ?_
  rotate_left
  · intro w' hSw; obtain ⟨_, x0, x1, x2, x3, x4, x5, x6, x7, x8, x9, x10, x11⟩ := hSw; go_simp; (try rw [if_neg (by omega)]); try exact rfl
  try simp only [List.setIfInBounds_toArray, List.set_cons_zero, List.set_cons_succ]
  refine wpAnyH_ready (rs := [2]) (by kernel_rfl) (by simp) ?_
  refine AllReadyH.cons rfl (fun K hK => ?_) AllReadyH.nil
  go_simp
  go_at_call 22
  refine Calls.mono (hX0 _ (by repeat (first | (with_reducible exact Below.refl _ _) | (with_reducible refine Below.drew ?_) | (with_reducible refine Below.alloc ?_ ?hh _; case hh => first | (simp; done) | (simp; omega) | omega) | (with_reducible refine Below.setCell ?_ ?hh _; case hh => first | (simp; done) | (simp; omega) | omega) | refine bstep (by assumption) (by first | (simp; done) | (simp; omega) | omega) ?_))) ?_
  rintro q w2 ⟨rfl, hb2⟩
  have hz2 := hb2.size
  (try simp at hz2)
  try go_wp2_with fail
  refine hK.out _ _ ?_ (fun hHeld2 => ?_)
  · exact hB.below (by repeat (first | (with_reducible exact Below.refl _ _) | (with_reducible refine Below.drew ?_) | (with_reducible refine Below.alloc ?_ ?hh _; case hh => first | (simp; done) | (simp; omega) | omega) | (with_reducible refine Below.setCell ?_ ?hh _; case hh => first | (simp; done) | (simp; omega) | omega) | refine bstep (by assumption) (by first | (simp; done) | (simp; omega) | omega) ?_))
  clear hK
  refine takeYes (i := 3) (d := 18) (v := ?_) rfl rfl (by kernel_rfl) (by kernel_rfl) (by kernel_rfl) (fun _ _ _ h => h) (by rfl) (by assumption) ?_ ?_
  rotate_left
  · intro w' hSw; obtain ⟨_, x0, x1, x2, x3, x4, x5, x6, x7, x8, x9, x10, x11⟩ := hSw; go_simp; (try rw [if_neg (by omega)]); try exact rfl
  try simp only [List.setIfInBounds_toArray, List.set_cons_zero, List.set_cons_succ]
  refine takeYes (i := 4) (d := 19) (v := ?_) rfl rfl (by kernel_rfl) (by kernel_rfl) (by kernel_rfl) (fun _ _ _ h => h) (by rfl) (by assumption) ?_ ?_
  rotate_left
  · intro w' hSw; obtain ⟨_, x0, x1, x2, x3, x4, x5, x6, x7, x8, x9, x10, x11⟩ := hSw; go_simp; (try rw [if_neg (by omega)]); try exact rfl
  try simp only [List.setIfInBounds_toArray, List.set_cons_zero, List.set_cons_succ]
  refine wpAnyH_ready (rs := [7]) (by kernel_rfl) (by simp) ?_
  refine AllReadyH.cons rfl (fun K hK => ?_) AllReadyH.nil
  go_simp
  go_at_call 75
  refine Calls.mono (hK0 _ (by repeat (first | (with_reducible exact Below.refl _ _) | (with_reducible refine Below.drew ?_) | (with_reducible refine Below.alloc ?_ ?hh _; case hh => first | (simp; done) | (simp; omega) | omega) | (with_reducible refine Below.setCell ?_ ?hh _; case hh => first | (simp; done) | (simp; omega) | omega) | refine bstep (by assumption) (by first | (simp; done) | (simp; omega) | omega) ?_))) ?_
  rintro q w3 ⟨rfl, hb3⟩
  have hz3 := hb3.size
  (try simp at hz3)
  try go_wp2_with fail
  refine hK.out _ _ ?_ (fun hHeld7 => ?_)
  · exact hB.below (by repeat (first | (with_reducible exact Below.refl _ _) | (with_reducible refine Below.drew ?_) | (with_reducible refine Below.alloc ?_ ?hh _; case hh => first | (simp; done) | (simp; omega) | omega) | (with_reducible refine Below.setCell ?_ ?hh _; case hh => first | (simp; done) | (simp; omega) | omega) | refine bstep (by assumption) (by first | (simp; done) | (simp; omega) | omega) ?_))
  clear hK
  refine takeYes (i := 8) (d := 23) (v := ?_) rfl rfl (by kernel_rfl) (by kernel_rfl) (by kernel_rfl) (fun _ _ _ h => h) (by rfl) (by assumption) ?_ ?_
  rotate_left
  · intro w' hSw; obtain ⟨_, x0, x1, x2, x3, x4, x5, x6, x7, x8, x9, x10, x11⟩ := hSw; go_simp; (try rw [if_neg (by omega)]); try exact rfl
  try simp only [List.setIfInBounds_toArray, List.set_cons_zero, List.set_cons_succ]
  refine takeYes (i := 9) (d := 24) (v := ?_) rfl rfl (by kernel_rfl) (by kernel_rfl) (by kernel_rfl) (fun _ _ _ h => h) (by rfl) (by assumption) ?_ ?_
  rotate_left
  · intro w' hSw; obtain ⟨_, x0, x1, x2, x3, x4, x5, x6, x7, x8, x9, x10, x11⟩ := hSw; go_simp; (try rw [if_neg (by omega)]); try exact rfl
  try simp only [List.setIfInBounds_toArray, List.set_cons_zero, List.set_cons_succ]
  refine takeYes (i := 10) (d := 4) (v := ?_) rfl rfl (by kernel_rfl) (by kernel_rfl) (by kernel_rfl) (fun _ _ _ h => h) (by rfl) (by assumption) ?_ ?_
  rotate_left
  · intro w' hSw; obtain ⟨_, x0, x1, x2, x3, x4, x5, x6, x7, x8, x9, x10, x11⟩ := hSw; go_simp; (try rw [if_neg (by omega)]); try exact rfl
  try simp only [List.setIfInBounds_toArray, List.set_cons_zero, List.set_cons_succ]
  refine wpAnyH_done (by kernel_rfl) ?_ _
  have bel2 : Below w.heap.size w w3 := by repeat (first | (with_reducible exact Below.refl _ _) | (with_reducible refine Below.drew ?_) | (with_reducible refine Below.alloc ?_ ?hh _; case hh => first | (simp; done) | (simp; omega) | omega) | (with_reducible refine Below.setCell ?_ ?hh _; case hh => first | (simp; done) | (simp; omega) | omega) | refine bstep (by assumption) (by first | (simp; done) | (simp; omega) | omega) ?_)
  clear hX0 hY0 hK0 hD0
  go_wp2
  go_returns
  exact ⟨by rw [← HF.out]; rfl, bel2⟩
set_option maxHeartbeats 8000000 in
set_option maxRecDepth 100000 in
theorem tpI_2 {f : Nat} (ih : TpI f) {p : P12} {ue us u : Value} {g : List Nat} {D d : Nat} {w : World} (hw : p.wf) (hL : ListsP w D (PlansIs w D d) p ue us u g) (hn : wtP p ≤ 1048576) (hf : f + 1 ≤ 21) (hE : Env w) (h0 : p.k = 2) :
    Calls Tryd.prog 54 #[(.agg #[.int .i64 p.k, .string p.s, .int .i64 p.e.k, .int .i64 p.e.n, .int .i64 p.e.v.k, .int .i64 p.e.v.n, .string p.e.v.s, .string p.e.p, ue, us, .int .i64 p.n, u]), .int .i64 (21 - ((f + 1 : Nat) : Int))] w fun x w' => x = .returned (.string (bs (planT (f + 1) p))) ∧ Below w.heap.size w w' := by
  obtain ⟨r, HR⟩ := hidE (bs (planT (f + 1) p))
  rw [HR.out]
  have HR2 : Hid (bs ([112, 114, 111, 106, 101, 99, 116, 40] ++ (lstT p.es ++ ([44, 32] ++ (ksT f p ++ [41])))) = r) := by show _ = _; rw [← HR.out, planT_2 h0]
  have hK0 := fun w2 (hb : Below w.heap.size w w2) => kidsText_any ih p ue us u g D d w2 (hL.below hb) hn hf (hE.below hb)
  have hkl := ksT_len' (planT_len f) hL
  have hwt := wtP_eq p
  obtain ⟨a_e, a_E, a_s, a_S, a_k, a_K, rfl, rfl, rfl, _, _, _, _, _, _⟩ := hL.shape
  obtain ⟨Fe, Fs, h, rfl, ke, kes, kp⟩ := hL
  obtain ⟨n0, n1⟩ := wf64X p.n hw.2.2.2
  have hil := Lib.itoa_length_le p.n n0 n1
  have hel := expText_len p.e w D _ Fe hw.2.2.1 ke
  have hll := lstT_len kes
  have hX0 := fun w2 (hb : Below w.heap.size w w2) => implExpText_any p.e _ Fe D w2 hw.2.2.1 (ke.below hb) (hE.below hb)
  have hY0 := fun w2 (hb : Below w.heap.size w w2) => listText_any _ p.es Fs D w2 (kes.below hb) (by omega) (hE.below hb)
  have hD0 := fun w2 (hb : Below w.heap.size w w2) => implDec_env p.n w2 n0 n1 (hE.below hb)
  obtain ⟨t1, H1⟩ := hidE (bs (expText p.e))
  obtain ⟨t2, H2⟩ := hidE (bs (lstT p.es))
  obtain ⟨t3, H3⟩ := hidE (bs (ksT f p))
  obtain ⟨t4, H4⟩ := hidE (bs (Lib.itoa p.n))
  obtain ⟨dd, HD⟩ := hidE (21 - ((f + 1 : Nat) : Int))
  rw [HD.out] at hK0 ⊢
  rw [H3.out] at hK0
  rw [H1.out] at hX0
  rw [H2.out] at hY0
  rw [H4.out] at hD0
  have hd0 : 0 ≤ dd := by have := HD.out; omega
  have hd2 : dd ≤ 20 := by have := HD.out; omega
  have hs1 : t1.size ≤ 5000000000000 := by rw [← H1.out, bs_size]; omega
  have hs2 : t2.size ≤ 5000000000000 := by rw [← H2.out, bs_size]; omega
  have hs3 : t3.size ≤ 5000000000000 := by rw [← H3.out, bs_size]; omega
  have hs4 : t4.size ≤ 5000000000000 := by rw [← H4.out, bs_size]; omega
  have k0 : (p.k == 0) = false := by rw [h0]; rfl
  have k1 : (p.k == 1) = false := by rw [h0]; rfl
  have k2 : (p.k == 2) = true := by rw [h0]; rfl
  have sz1 : ((⟨#[112, 114, 111, 106, 101, 99, 116, 40]⟩ : ByteArray) ++ t2).size ≤ 5000000000010 := by simp only [ByteArray.size_append]; have z0 : (⟨#[112, 114, 111, 106, 101, 99, 116, 40]⟩ : ByteArray).size = 8 := rfl; omega
  have sz2 : ((⟨#[112, 114, 111, 106, 101, 99, 116, 40]⟩ : ByteArray) ++ t2 ++ (⟨#[44, 32]⟩ : ByteArray)).size ≤ 5000000000020 := by simp only [ByteArray.size_append]; have z0 : (⟨#[112, 114, 111, 106, 101, 99, 116, 40]⟩ : ByteArray).size = 8 := rfl; have z1 : (⟨#[44, 32]⟩ : ByteArray).size = 2 := rfl; omega
  have sz3 : ((⟨#[112, 114, 111, 106, 101, 99, 116, 40]⟩ : ByteArray) ++ t2 ++ (⟨#[44, 32]⟩ : ByteArray) ++ t3).size ≤ 10000000000020 := by simp only [ByteArray.size_append]; have z0 : (⟨#[112, 114, 111, 106, 101, 99, 116, 40]⟩ : ByteArray).size = 8 := rfl; have z1 : (⟨#[44, 32]⟩ : ByteArray).size = 2 := rfl; omega
  have HF : Hid ((⟨#[112, 114, 111, 106, 101, 99, 116, 40]⟩ : ByteArray) ++ t2 ++ (⟨#[44, 32]⟩ : ByteArray) ++ t3 ++ (⟨#[41]⟩ : ByteArray) = r) := by
    show _ = _
    rw [← HR2.out, ← H2.out, ← H3.out, show (⟨#[112, 114, 111, 106, 101, 99, 116, 40]⟩ : ByteArray) = bs [112, 114, 111, 106, 101, 99, 116, 40] from rfl, show (⟨#[41]⟩ : ByteArray) = bs [41] from rfl, show (⟨#[44, 32]⟩ : ByteArray) = bs [44, 32] from rfl, bs_app, bs_app, bs_app, bs_app]
    simp
  have hB := bxP_new w p (.slice a_e p.e.ks.length a_E) (.slice a_s p.es.length a_S) (.slice a_k p.ks.length a_K) 60
  clear hw hE ih hel hll hkl hil n0 n1 ke kes kp hn hf hwt HD H1 H2 H3 H4 HR HR2 h0
  go_enter Tryd.func54, Tryd.ntmps54
  go_wp2_with fail
  refine wp_region_held_drew (S := (fun w' => BxP w' w.heap.size p (.slice a_e p.e.ks.length a_E) (.slice a_s p.es.length a_S) (.slice a_k p.ks.length a_K))) (by kernel_rfl) ?_ (fun hHeld => ?_)
  · exact hB.below (by repeat (first | (with_reducible exact Below.refl _ _) | (with_reducible refine Below.drew ?_) | (with_reducible refine Below.alloc ?_ ?hh _; case hh => first | (simp; done) | (simp; omega) | omega) | (with_reducible refine Below.setCell ?_ ?hh _; case hh => first | (simp; done) | (simp; omega) | omega) | refine bstep (by assumption) (by first | (simp; done) | (simp; omega) | omega) ?_))
  refine takeYes (i := 0) (d := 27) (v := ?_) rfl rfl (by kernel_rfl) (by kernel_rfl) (by kernel_rfl) (fun _ _ _ h => h) (by rfl) (by assumption) ?_ ?_
  rotate_left
  · intro w' hSw; obtain ⟨_, x0, x1, x2, x3, x4, x5, x6, x7, x8, x9, x10, x11⟩ := hSw; go_simp; (try rw [if_neg (by omega)]); try exact rfl
  try simp only [List.setIfInBounds_toArray, List.set_cons_zero, List.set_cons_succ]
  refine takeYes (i := 1) (d := 28) (v := ?_) rfl rfl (by kernel_rfl) (by kernel_rfl) (by kernel_rfl) (fun _ _ _ h => h) (by rfl) (by assumption) ?_ ?_
  rotate_left
  · intro w' hSw; obtain ⟨_, x0, x1, x2, x3, x4, x5, x6, x7, x8, x9, x10, x11⟩ := hSw; go_simp; (try rw [if_neg (by omega)]); try exact rfl
  try simp only [List.setIfInBounds_toArray, List.set_cons_zero, List.set_cons_succ]
  refine takeYes (i := 5) (d := 32) (v := ?_) rfl rfl (by kernel_rfl) (by kernel_rfl) (by kernel_rfl) (fun _ _ _ h => h) (by rfl) (by assumption) ?_ ?_
  rotate_left
  · intro w' hSw; obtain ⟨_, x0, x1, x2, x3, x4, x5, x6, x7, x8, x9, x10, x11⟩ := hSw; go_simp; (try rw [if_neg (by omega)]); try exact rfl
  try simp only [List.setIfInBounds_toArray, List.set_cons_zero, List.set_cons_succ]
  refine takeYes (i := 6) (d := 33) (v := ?_) rfl rfl (by kernel_rfl) (by kernel_rfl) (by kernel_rfl) (fun _ _ _ h => h) (by rfl) (by assumption) ?_ ?_
  rotate_left
  · intro w' hSw; obtain ⟨_, x0, x1, x2, x3, x4, x5, x6, x7, x8, x9, x10, x11⟩ := hSw; go_simp; (try rw [if_neg (by omega)]); try exact rfl
  try simp only [List.setIfInBounds_toArray, List.set_cons_zero, List.set_cons_succ]
  refine wpAnyH_ready (rs := [2]) (by kernel_rfl) (by simp) ?_
  refine AllReadyH.cons rfl (fun K hK => ?_) AllReadyH.nil
  go_simp
  go_at_call 76
  refine Calls.mono (hY0 _ (by repeat (first | (with_reducible exact Below.refl _ _) | (with_reducible refine Below.drew ?_) | (with_reducible refine Below.alloc ?_ ?hh _; case hh => first | (simp; done) | (simp; omega) | omega) | (with_reducible refine Below.setCell ?_ ?hh _; case hh => first | (simp; done) | (simp; omega) | omega) | refine bstep (by assumption) (by first | (simp; done) | (simp; omega) | omega) ?_))) ?_
  rintro q w2 ⟨rfl, hb2⟩
  have hz2 := hb2.size
  (try simp at hz2)
  try go_wp2_with fail
  refine hK.out _ _ ?_ (fun hHeld2 => ?_)
  · exact hB.below (by repeat (first | (with_reducible exact Below.refl _ _) | (with_reducible refine Below.drew ?_) | (with_reducible refine Below.alloc ?_ ?hh _; case hh => first | (simp; done) | (simp; omega) | omega) | (with_reducible refine Below.setCell ?_ ?hh _; case hh => first | (simp; done) | (simp; omega) | omega) | refine bstep (by assumption) (by first | (simp; done) | (simp; omega) | omega) ?_))
  clear hK
  refine takeYes (i := 3) (d := 30) (v := ?_) rfl rfl (by kernel_rfl) (by kernel_rfl) (by kernel_rfl) (fun _ _ _ h => h) (by rfl) (by assumption) ?_ ?_
  rotate_left
  · intro w' hSw; obtain ⟨_, x0, x1, x2, x3, x4, x5, x6, x7, x8, x9, x10, x11⟩ := hSw; go_simp; (try rw [if_neg (by omega)]); try exact rfl
  try simp only [List.setIfInBounds_toArray, List.set_cons_zero, List.set_cons_succ]
  refine takeYes (i := 4) (d := 31) (v := ?_) rfl rfl (by kernel_rfl) (by kernel_rfl) (by kernel_rfl) (fun _ _ _ h => h) (by rfl) (by assumption) ?_ ?_
  rotate_left
  · intro w' hSw; obtain ⟨_, x0, x1, x2, x3, x4, x5, x6, x7, x8, x9, x10, x11⟩ := hSw; go_simp; (try rw [if_neg (by omega)]); try exact rfl
  try simp only [List.setIfInBounds_toArray, List.set_cons_zero, List.set_cons_succ]
  refine wpAnyH_ready (rs := [7]) (by kernel_rfl) (by simp) ?_
  refine AllReadyH.cons rfl (fun K hK => ?_) AllReadyH.nil
  go_simp
  go_at_call 75
  refine Calls.mono (hK0 _ (by repeat (first | (with_reducible exact Below.refl _ _) | (with_reducible refine Below.drew ?_) | (with_reducible refine Below.alloc ?_ ?hh _; case hh => first | (simp; done) | (simp; omega) | omega) | (with_reducible refine Below.setCell ?_ ?hh _; case hh => first | (simp; done) | (simp; omega) | omega) | refine bstep (by assumption) (by first | (simp; done) | (simp; omega) | omega) ?_))) ?_
  rintro q w3 ⟨rfl, hb3⟩
  have hz3 := hb3.size
  (try simp at hz3)
  try go_wp2_with fail
  refine hK.out _ _ ?_ (fun hHeld7 => ?_)
  · exact hB.below (by repeat (first | (with_reducible exact Below.refl _ _) | (with_reducible refine Below.drew ?_) | (with_reducible refine Below.alloc ?_ ?hh _; case hh => first | (simp; done) | (simp; omega) | omega) | (with_reducible refine Below.setCell ?_ ?hh _; case hh => first | (simp; done) | (simp; omega) | omega) | refine bstep (by assumption) (by first | (simp; done) | (simp; omega) | omega) ?_))
  clear hK
  refine takeYes (i := 8) (d := 35) (v := ?_) rfl rfl (by kernel_rfl) (by kernel_rfl) (by kernel_rfl) (fun _ _ _ h => h) (by rfl) (by assumption) ?_ ?_
  rotate_left
  · intro w' hSw; obtain ⟨_, x0, x1, x2, x3, x4, x5, x6, x7, x8, x9, x10, x11⟩ := hSw; go_simp; (try rw [if_neg (by omega)]); try exact rfl
  try simp only [List.setIfInBounds_toArray, List.set_cons_zero, List.set_cons_succ]
  refine takeYes (i := 9) (d := 36) (v := ?_) rfl rfl (by kernel_rfl) (by kernel_rfl) (by kernel_rfl) (fun _ _ _ h => h) (by rfl) (by assumption) ?_ ?_
  rotate_left
  · intro w' hSw; obtain ⟨_, x0, x1, x2, x3, x4, x5, x6, x7, x8, x9, x10, x11⟩ := hSw; go_simp; (try rw [if_neg (by omega)]); try exact rfl
  try simp only [List.setIfInBounds_toArray, List.set_cons_zero, List.set_cons_succ]
  refine takeYes (i := 10) (d := 4) (v := ?_) rfl rfl (by kernel_rfl) (by kernel_rfl) (by kernel_rfl) (fun _ _ _ h => h) (by rfl) (by assumption) ?_ ?_
  rotate_left
  · intro w' hSw; obtain ⟨_, x0, x1, x2, x3, x4, x5, x6, x7, x8, x9, x10, x11⟩ := hSw; go_simp; (try rw [if_neg (by omega)]); try exact rfl
  try simp only [List.setIfInBounds_toArray, List.set_cons_zero, List.set_cons_succ]
  refine wpAnyH_done (by kernel_rfl) ?_ _
  have bel2 : Below w.heap.size w w3 := by repeat (first | (with_reducible exact Below.refl _ _) | (with_reducible refine Below.drew ?_) | (with_reducible refine Below.alloc ?_ ?hh _; case hh => first | (simp; done) | (simp; omega) | omega) | (with_reducible refine Below.setCell ?_ ?hh _; case hh => first | (simp; done) | (simp; omega) | omega) | refine bstep (by assumption) (by first | (simp; done) | (simp; omega) | omega) ?_)
  clear hX0 hY0 hK0 hD0
  go_wp2
  go_returns
  exact ⟨by rw [← HF.out]; rfl, bel2⟩
set_option maxHeartbeats 8000000 in
set_option maxRecDepth 100000 in
theorem tpI_3 {f : Nat} (ih : TpI f) {p : P12} {ue us u : Value} {g : List Nat} {D d : Nat} {w : World} (hw : p.wf) (hL : ListsP w D (PlansIs w D d) p ue us u g) (hn : wtP p ≤ 1048576) (hf : f + 1 ≤ 21) (hE : Env w) (h0 : p.k = 3) :
    Calls Tryd.prog 54 #[(.agg #[.int .i64 p.k, .string p.s, .int .i64 p.e.k, .int .i64 p.e.n, .int .i64 p.e.v.k, .int .i64 p.e.v.n, .string p.e.v.s, .string p.e.p, ue, us, .int .i64 p.n, u]), .int .i64 (21 - ((f + 1 : Nat) : Int))] w fun x w' => x = .returned (.string (bs (planT (f + 1) p))) ∧ Below w.heap.size w w' := by
  obtain ⟨r, HR⟩ := hidE (bs (planT (f + 1) p))
  rw [HR.out]
  have HR2 : Hid (bs ([106, 111, 105, 110, 40] ++ (expText p.e ++ ([44, 32] ++ (ksT f p ++ [41])))) = r) := by show _ = _; rw [← HR.out, planT_3 h0]
  have hK0 := fun w2 (hb : Below w.heap.size w w2) => kidsText_any ih p ue us u g D d w2 (hL.below hb) hn hf (hE.below hb)
  have hkl := ksT_len' (planT_len f) hL
  have hwt := wtP_eq p
  obtain ⟨a_e, a_E, a_s, a_S, a_k, a_K, rfl, rfl, rfl, _, _, _, _, _, _⟩ := hL.shape
  obtain ⟨Fe, Fs, h, rfl, ke, kes, kp⟩ := hL
  obtain ⟨n0, n1⟩ := wf64X p.n hw.2.2.2
  have hil := Lib.itoa_length_le p.n n0 n1
  have hel := expText_len p.e w D _ Fe hw.2.2.1 ke
  have hll := lstT_len kes
  have hX0 := fun w2 (hb : Below w.heap.size w w2) => implExpText_any p.e _ Fe D w2 hw.2.2.1 (ke.below hb) (hE.below hb)
  have hY0 := fun w2 (hb : Below w.heap.size w w2) => listText_any _ p.es Fs D w2 (kes.below hb) (by omega) (hE.below hb)
  have hD0 := fun w2 (hb : Below w.heap.size w w2) => implDec_env p.n w2 n0 n1 (hE.below hb)
  obtain ⟨t1, H1⟩ := hidE (bs (expText p.e))
  obtain ⟨t2, H2⟩ := hidE (bs (lstT p.es))
  obtain ⟨t3, H3⟩ := hidE (bs (ksT f p))
  obtain ⟨t4, H4⟩ := hidE (bs (Lib.itoa p.n))
  obtain ⟨dd, HD⟩ := hidE (21 - ((f + 1 : Nat) : Int))
  rw [HD.out] at hK0 ⊢
  rw [H3.out] at hK0
  rw [H1.out] at hX0
  rw [H2.out] at hY0
  rw [H4.out] at hD0
  have hd0 : 0 ≤ dd := by have := HD.out; omega
  have hd2 : dd ≤ 20 := by have := HD.out; omega
  have hs1 : t1.size ≤ 5000000000000 := by rw [← H1.out, bs_size]; omega
  have hs2 : t2.size ≤ 5000000000000 := by rw [← H2.out, bs_size]; omega
  have hs3 : t3.size ≤ 5000000000000 := by rw [← H3.out, bs_size]; omega
  have hs4 : t4.size ≤ 5000000000000 := by rw [← H4.out, bs_size]; omega
  have k0 : (p.k == 0) = false := by rw [h0]; rfl
  have k1 : (p.k == 1) = false := by rw [h0]; rfl
  have k2 : (p.k == 2) = false := by rw [h0]; rfl
  have k3 : (p.k == 3) = true := by rw [h0]; rfl
  have sz1 : ((⟨#[106, 111, 105, 110, 40]⟩ : ByteArray) ++ t1).size ≤ 5000000000010 := by simp only [ByteArray.size_append]; have z0 : (⟨#[106, 111, 105, 110, 40]⟩ : ByteArray).size = 5 := rfl; omega
  have sz2 : ((⟨#[106, 111, 105, 110, 40]⟩ : ByteArray) ++ t1 ++ (⟨#[44, 32]⟩ : ByteArray)).size ≤ 5000000000020 := by simp only [ByteArray.size_append]; have z0 : (⟨#[106, 111, 105, 110, 40]⟩ : ByteArray).size = 5 := rfl; have z1 : (⟨#[44, 32]⟩ : ByteArray).size = 2 := rfl; omega
  have sz3 : ((⟨#[106, 111, 105, 110, 40]⟩ : ByteArray) ++ t1 ++ (⟨#[44, 32]⟩ : ByteArray) ++ t3).size ≤ 10000000000020 := by simp only [ByteArray.size_append]; have z0 : (⟨#[106, 111, 105, 110, 40]⟩ : ByteArray).size = 5 := rfl; have z1 : (⟨#[44, 32]⟩ : ByteArray).size = 2 := rfl; omega
  have HF : Hid ((⟨#[106, 111, 105, 110, 40]⟩ : ByteArray) ++ t1 ++ (⟨#[44, 32]⟩ : ByteArray) ++ t3 ++ (⟨#[41]⟩ : ByteArray) = r) := by
    show _ = _
    rw [← HR2.out, ← H1.out, ← H3.out, show (⟨#[106, 111, 105, 110, 40]⟩ : ByteArray) = bs [106, 111, 105, 110, 40] from rfl, show (⟨#[41]⟩ : ByteArray) = bs [41] from rfl, show (⟨#[44, 32]⟩ : ByteArray) = bs [44, 32] from rfl, bs_app, bs_app, bs_app, bs_app]
    simp
  have hB := bxP_new w p (.slice a_e p.e.ks.length a_E) (.slice a_s p.es.length a_S) (.slice a_k p.ks.length a_K) 60
  clear hw hE ih hel hll hkl hil n0 n1 ke kes kp hn hf hwt HD H1 H2 H3 H4 HR HR2 h0
  go_enter Tryd.func54, Tryd.ntmps54
  go_wp2_with fail
  refine wp_region_held_drew (S := (fun w' => BxP w' w.heap.size p (.slice a_e p.e.ks.length a_E) (.slice a_s p.es.length a_S) (.slice a_k p.ks.length a_K))) (by kernel_rfl) ?_ (fun hHeld => ?_)
  · exact hB.below (by repeat (first | (with_reducible exact Below.refl _ _) | (with_reducible refine Below.drew ?_) | (with_reducible refine Below.alloc ?_ ?hh _; case hh => first | (simp; done) | (simp; omega) | omega) | (with_reducible refine Below.setCell ?_ ?hh _; case hh => first | (simp; done) | (simp; omega) | omega) | refine bstep (by assumption) (by first | (simp; done) | (simp; omega) | omega) ?_))
  refine takeYes (i := 0) (d := 39) (v := ?_) rfl rfl (by kernel_rfl) (by kernel_rfl) (by kernel_rfl) (fun _ _ _ h => h) (by rfl) (by assumption) ?_ ?_
  rotate_left
  · intro w' hSw; obtain ⟨_, x0, x1, x2, x3, x4, x5, x6, x7, x8, x9, x10, x11⟩ := hSw; go_simp; (try rw [if_neg (by omega)]); try exact rfl
  try simp only [List.setIfInBounds_toArray, List.set_cons_zero, List.set_cons_succ]
  refine takeYes (i := 1) (d := 40) (v := ?_) rfl rfl (by kernel_rfl) (by kernel_rfl) (by kernel_rfl) (fun _ _ _ h => h) (by rfl) (by assumption) ?_ ?_
  rotate_left
  · intro w' hSw; obtain ⟨_, x0, x1, x2, x3, x4, x5, x6, x7, x8, x9, x10, x11⟩ := hSw; go_simp; (try rw [if_neg (by omega)]); try exact rfl
  try simp only [List.setIfInBounds_toArray, List.set_cons_zero, List.set_cons_succ]
  refine takeYes (i := 5) (d := 44) (v := ?_) rfl rfl (by kernel_rfl) (by kernel_rfl) (by kernel_rfl) (fun _ _ _ h => h) (by rfl) (by assumption) ?_ ?_
  rotate_left
  · intro w' hSw; obtain ⟨_, x0, x1, x2, x3, x4, x5, x6, x7, x8, x9, x10, x11⟩ := hSw; go_simp; (try rw [if_neg (by omega)]); try exact rfl
  try simp only [List.setIfInBounds_toArray, List.set_cons_zero, List.set_cons_succ]
  refine takeYes (i := 6) (d := 45) (v := ?_) rfl rfl (by kernel_rfl) (by kernel_rfl) (by kernel_rfl) (fun _ _ _ h => h) (by rfl) (by assumption) ?_ ?_
  rotate_left
  · intro w' hSw; obtain ⟨_, x0, x1, x2, x3, x4, x5, x6, x7, x8, x9, x10, x11⟩ := hSw; go_simp; (try rw [if_neg (by omega)]); try exact rfl
  try simp only [List.setIfInBounds_toArray, List.set_cons_zero, List.set_cons_succ]
  refine wpAnyH_ready (rs := [2]) (by kernel_rfl) (by simp) ?_
  refine AllReadyH.cons rfl (fun K hK => ?_) AllReadyH.nil
  go_simp
  go_at_call 22
  refine Calls.mono (hX0 _ (by repeat (first | (with_reducible exact Below.refl _ _) | (with_reducible refine Below.drew ?_) | (with_reducible refine Below.alloc ?_ ?hh _; case hh => first | (simp; done) | (simp; omega) | omega) | (with_reducible refine Below.setCell ?_ ?hh _; case hh => first | (simp; done) | (simp; omega) | omega) | refine bstep (by assumption) (by first | (simp; done) | (simp; omega) | omega) ?_))) ?_
  rintro q w2 ⟨rfl, hb2⟩
  have hz2 := hb2.size
  (try simp at hz2)
  try go_wp2_with fail
  refine hK.out _ _ ?_ (fun hHeld2 => ?_)
  · exact hB.below (by repeat (first | (with_reducible exact Below.refl _ _) | (with_reducible refine Below.drew ?_) | (with_reducible refine Below.alloc ?_ ?hh _; case hh => first | (simp; done) | (simp; omega) | omega) | (with_reducible refine Below.setCell ?_ ?hh _; case hh => first | (simp; done) | (simp; omega) | omega) | refine bstep (by assumption) (by first | (simp; done) | (simp; omega) | omega) ?_))
  clear hK
  refine takeYes (i := 3) (d := 42) (v := ?_) rfl rfl (by kernel_rfl) (by kernel_rfl) (by kernel_rfl) (fun _ _ _ h => h) (by rfl) (by assumption) ?_ ?_
  rotate_left
  · intro w' hSw; obtain ⟨_, x0, x1, x2, x3, x4, x5, x6, x7, x8, x9, x10, x11⟩ := hSw; go_simp; (try rw [if_neg (by omega)]); try exact rfl
  try simp only [List.setIfInBounds_toArray, List.set_cons_zero, List.set_cons_succ]
  refine takeYes (i := 4) (d := 43) (v := ?_) rfl rfl (by kernel_rfl) (by kernel_rfl) (by kernel_rfl) (fun _ _ _ h => h) (by rfl) (by assumption) ?_ ?_
  rotate_left
  · intro w' hSw; obtain ⟨_, x0, x1, x2, x3, x4, x5, x6, x7, x8, x9, x10, x11⟩ := hSw; go_simp; (try rw [if_neg (by omega)]); try exact rfl
  try simp only [List.setIfInBounds_toArray, List.set_cons_zero, List.set_cons_succ]
  refine wpAnyH_ready (rs := [7]) (by kernel_rfl) (by simp) ?_
  refine AllReadyH.cons rfl (fun K hK => ?_) AllReadyH.nil
  go_simp
  go_at_call 75
  refine Calls.mono (hK0 _ (by repeat (first | (with_reducible exact Below.refl _ _) | (with_reducible refine Below.drew ?_) | (with_reducible refine Below.alloc ?_ ?hh _; case hh => first | (simp; done) | (simp; omega) | omega) | (with_reducible refine Below.setCell ?_ ?hh _; case hh => first | (simp; done) | (simp; omega) | omega) | refine bstep (by assumption) (by first | (simp; done) | (simp; omega) | omega) ?_))) ?_
  rintro q w3 ⟨rfl, hb3⟩
  have hz3 := hb3.size
  (try simp at hz3)
  try go_wp2_with fail
  refine hK.out _ _ ?_ (fun hHeld7 => ?_)
  · exact hB.below (by repeat (first | (with_reducible exact Below.refl _ _) | (with_reducible refine Below.drew ?_) | (with_reducible refine Below.alloc ?_ ?hh _; case hh => first | (simp; done) | (simp; omega) | omega) | (with_reducible refine Below.setCell ?_ ?hh _; case hh => first | (simp; done) | (simp; omega) | omega) | refine bstep (by assumption) (by first | (simp; done) | (simp; omega) | omega) ?_))
  clear hK
  refine takeYes (i := 8) (d := 47) (v := ?_) rfl rfl (by kernel_rfl) (by kernel_rfl) (by kernel_rfl) (fun _ _ _ h => h) (by rfl) (by assumption) ?_ ?_
  rotate_left
  · intro w' hSw; obtain ⟨_, x0, x1, x2, x3, x4, x5, x6, x7, x8, x9, x10, x11⟩ := hSw; go_simp; (try rw [if_neg (by omega)]); try exact rfl
  try simp only [List.setIfInBounds_toArray, List.set_cons_zero, List.set_cons_succ]
  refine takeYes (i := 9) (d := 48) (v := ?_) rfl rfl (by kernel_rfl) (by kernel_rfl) (by kernel_rfl) (fun _ _ _ h => h) (by rfl) (by assumption) ?_ ?_
  rotate_left
  · intro w' hSw; obtain ⟨_, x0, x1, x2, x3, x4, x5, x6, x7, x8, x9, x10, x11⟩ := hSw; go_simp; (try rw [if_neg (by omega)]); try exact rfl
  try simp only [List.setIfInBounds_toArray, List.set_cons_zero, List.set_cons_succ]
  refine takeYes (i := 10) (d := 4) (v := ?_) rfl rfl (by kernel_rfl) (by kernel_rfl) (by kernel_rfl) (fun _ _ _ h => h) (by rfl) (by assumption) ?_ ?_
  rotate_left
  · intro w' hSw; obtain ⟨_, x0, x1, x2, x3, x4, x5, x6, x7, x8, x9, x10, x11⟩ := hSw; go_simp; (try rw [if_neg (by omega)]); try exact rfl
  try simp only [List.setIfInBounds_toArray, List.set_cons_zero, List.set_cons_succ]
  refine wpAnyH_done (by kernel_rfl) ?_ _
  have bel2 : Below w.heap.size w w3 := by repeat (first | (with_reducible exact Below.refl _ _) | (with_reducible refine Below.drew ?_) | (with_reducible refine Below.alloc ?_ ?hh _; case hh => first | (simp; done) | (simp; omega) | omega) | (with_reducible refine Below.setCell ?_ ?hh _; case hh => first | (simp; done) | (simp; omega) | omega) | refine bstep (by assumption) (by first | (simp; done) | (simp; omega) | omega) ?_)
  clear hX0 hY0 hK0 hD0
  go_wp2
  go_returns
  exact ⟨by rw [← HF.out]; rfl, bel2⟩
set_option maxHeartbeats 8000000 in
set_option maxRecDepth 100000 in
theorem tpI_6 {f : Nat} (ih : TpI f) {p : P12} {ue us u : Value} {g : List Nat} {D d : Nat} {w : World} (hw : p.wf) (hL : ListsP w D (PlansIs w D d) p ue us u g) (hn : wtP p ≤ 1048576) (hf : f + 1 ≤ 21) (hE : Env w) (h0 : p.k = 6) :
    Calls Tryd.prog 54 #[(.agg #[.int .i64 p.k, .string p.s, .int .i64 p.e.k, .int .i64 p.e.n, .int .i64 p.e.v.k, .int .i64 p.e.v.n, .string p.e.v.s, .string p.e.p, ue, us, .int .i64 p.n, u]), .int .i64 (21 - ((f + 1 : Nat) : Int))] w fun x w' => x = .returned (.string (bs (planT (f + 1) p))) ∧ Below w.heap.size w w' := by
  obtain ⟨r, HR⟩ := hidE (bs (planT (f + 1) p))
  rw [HR.out]
  have HR2 : Hid (bs ([103, 114, 111, 117, 112, 40] ++ (Lib.itoa p.n ++ ([44, 32] ++ (lstT p.es ++ ([44, 32] ++ (ksT f p ++ [41])))))) = r) := by show _ = _; rw [← HR.out, planT_6 h0]
  have hK0 := fun w2 (hb : Below w.heap.size w w2) => kidsText_any ih p ue us u g D d w2 (hL.below hb) hn hf (hE.below hb)
  have hkl := ksT_len' (planT_len f) hL
  have hwt := wtP_eq p
  obtain ⟨a_e, a_E, a_s, a_S, a_k, a_K, rfl, rfl, rfl, _, _, _, _, _, _⟩ := hL.shape
  obtain ⟨Fe, Fs, h, rfl, ke, kes, kp⟩ := hL
  obtain ⟨n0, n1⟩ := wf64X p.n hw.2.2.2
  have hil := Lib.itoa_length_le p.n n0 n1
  have hel := expText_len p.e w D _ Fe hw.2.2.1 ke
  have hll := lstT_len kes
  have hX0 := fun w2 (hb : Below w.heap.size w w2) => implExpText_any p.e _ Fe D w2 hw.2.2.1 (ke.below hb) (hE.below hb)
  have hY0 := fun w2 (hb : Below w.heap.size w w2) => listText_any _ p.es Fs D w2 (kes.below hb) (by omega) (hE.below hb)
  have hD0 := fun w2 (hb : Below w.heap.size w w2) => implDec_env p.n w2 n0 n1 (hE.below hb)
  obtain ⟨t1, H1⟩ := hidE (bs (expText p.e))
  obtain ⟨t2, H2⟩ := hidE (bs (lstT p.es))
  obtain ⟨t3, H3⟩ := hidE (bs (ksT f p))
  obtain ⟨t4, H4⟩ := hidE (bs (Lib.itoa p.n))
  obtain ⟨dd, HD⟩ := hidE (21 - ((f + 1 : Nat) : Int))
  rw [HD.out] at hK0 ⊢
  rw [H3.out] at hK0
  rw [H1.out] at hX0
  rw [H2.out] at hY0
  rw [H4.out] at hD0
  have hd0 : 0 ≤ dd := by have := HD.out; omega
  have hd2 : dd ≤ 20 := by have := HD.out; omega
  have hs1 : t1.size ≤ 5000000000000 := by rw [← H1.out, bs_size]; omega
  have hs2 : t2.size ≤ 5000000000000 := by rw [← H2.out, bs_size]; omega
  have hs3 : t3.size ≤ 5000000000000 := by rw [← H3.out, bs_size]; omega
  have hs4 : t4.size ≤ 5000000000000 := by rw [← H4.out, bs_size]; omega
  have k0 : (p.k == 0) = false := by rw [h0]; rfl
  have k1 : (p.k == 1) = false := by rw [h0]; rfl
  have k2 : (p.k == 2) = false := by rw [h0]; rfl
  have k3 : (p.k == 3) = false := by rw [h0]; rfl
  have k4 : (p.k == 4) = false := by rw [h0]; rfl
  have k5 : (p.k == 5) = false := by rw [h0]; rfl
  have k6 : (p.k == 6) = true := by rw [h0]; rfl
  have sz1 : ((⟨#[103, 114, 111, 117, 112, 40]⟩ : ByteArray) ++ t4).size ≤ 5000000000010 := by simp only [ByteArray.size_append]; have z0 : (⟨#[103, 114, 111, 117, 112, 40]⟩ : ByteArray).size = 6 := rfl; omega
  have sz2 : ((⟨#[103, 114, 111, 117, 112, 40]⟩ : ByteArray) ++ t4 ++ (⟨#[44, 32]⟩ : ByteArray)).size ≤ 5000000000020 := by simp only [ByteArray.size_append]; have z0 : (⟨#[103, 114, 111, 117, 112, 40]⟩ : ByteArray).size = 6 := rfl; have z1 : (⟨#[44, 32]⟩ : ByteArray).size = 2 := rfl; omega
  have sz3 : ((⟨#[103, 114, 111, 117, 112, 40]⟩ : ByteArray) ++ t4 ++ (⟨#[44, 32]⟩ : ByteArray) ++ t2).size ≤ 10000000000020 := by simp only [ByteArray.size_append]; have z0 : (⟨#[103, 114, 111, 117, 112, 40]⟩ : ByteArray).size = 6 := rfl; have z1 : (⟨#[44, 32]⟩ : ByteArray).size = 2 := rfl; omega
  have sz4 : ((⟨#[103, 114, 111, 117, 112, 40]⟩ : ByteArray) ++ t4 ++ (⟨#[44, 32]⟩ : ByteArray) ++ t2 ++ (⟨#[44, 32]⟩ : ByteArray)).size ≤ 10000000000030 := by simp only [ByteArray.size_append]; have z0 : (⟨#[103, 114, 111, 117, 112, 40]⟩ : ByteArray).size = 6 := rfl; have z1 : (⟨#[44, 32]⟩ : ByteArray).size = 2 := rfl; omega
  have sz5 : ((⟨#[103, 114, 111, 117, 112, 40]⟩ : ByteArray) ++ t4 ++ (⟨#[44, 32]⟩ : ByteArray) ++ t2 ++ (⟨#[44, 32]⟩ : ByteArray) ++ t3).size ≤ 15000000000030 := by simp only [ByteArray.size_append]; have z0 : (⟨#[103, 114, 111, 117, 112, 40]⟩ : ByteArray).size = 6 := rfl; have z1 : (⟨#[44, 32]⟩ : ByteArray).size = 2 := rfl; omega
  have HF : Hid ((⟨#[103, 114, 111, 117, 112, 40]⟩ : ByteArray) ++ t4 ++ (⟨#[44, 32]⟩ : ByteArray) ++ t2 ++ (⟨#[44, 32]⟩ : ByteArray) ++ t3 ++ (⟨#[41]⟩ : ByteArray) = r) := by
    show _ = _
    rw [← HR2.out, ← H4.out, ← H2.out, ← H3.out, show (⟨#[103, 114, 111, 117, 112, 40]⟩ : ByteArray) = bs [103, 114, 111, 117, 112, 40] from rfl, show (⟨#[41]⟩ : ByteArray) = bs [41] from rfl, show (⟨#[44, 32]⟩ : ByteArray) = bs [44, 32] from rfl, bs_app, bs_app, bs_app, bs_app, bs_app, bs_app]
    simp
  have hB := bxP_new w p (.slice a_e p.e.ks.length a_E) (.slice a_s p.es.length a_S) (.slice a_k p.ks.length a_K) 60
  clear hw hE ih hel hll hkl hil n0 n1 ke kes kp hn hf hwt HD H1 H2 H3 H4 HR HR2 h0
  go_enter Tryd.func54, Tryd.ntmps54
  go_wp2_with fail
  refine wp_region_held_drew (S := (fun w' => BxP w' w.heap.size p (.slice a_e p.e.ks.length a_E) (.slice a_s p.es.length a_S) (.slice a_k p.ks.length a_K))) (by kernel_rfl) ?_ (fun hHeld => ?_)
  · exact hB.below (by repeat (first | (with_reducible exact Below.refl _ _) | (with_reducible refine Below.drew ?_) | (with_reducible refine Below.alloc ?_ ?hh _; case hh => first | (simp; done) | (simp; omega) | omega) | (with_reducible refine Below.setCell ?_ ?hh _; case hh => first | (simp; done) | (simp; omega) | omega) | refine bstep (by assumption) (by first | (simp; done) | (simp; omega) | omega) ?_))
  refine takeYes (i := 0) (d := 65) (v := ?_) rfl rfl (by kernel_rfl) (by kernel_rfl) (by kernel_rfl) (fun _ _ _ h => h) (by rfl) (by assumption) ?_ ?_
  rotate_left
  · intro w' hSw; obtain ⟨_, x0, x1, x2, x3, x4, x5, x6, x7, x8, x9, x10, x11⟩ := hSw; go_simp; (try rw [if_neg (by omega)]); try exact rfl
  try simp only [List.setIfInBounds_toArray, List.set_cons_zero, List.set_cons_succ]
  refine takeYes (i := 1) (d := 66) (v := ?_) rfl rfl (by kernel_rfl) (by kernel_rfl) (by kernel_rfl) (fun _ _ _ h => h) (by rfl) (by assumption) ?_ ?_
  rotate_left
  · intro w' hSw; obtain ⟨_, x0, x1, x2, x3, x4, x5, x6, x7, x8, x9, x10, x11⟩ := hSw; go_simp; (try rw [if_neg (by omega)]); try exact rfl
  try simp only [List.setIfInBounds_toArray, List.set_cons_zero, List.set_cons_succ]
  refine takeYes (i := 5) (d := 70) (v := ?_) rfl rfl (by kernel_rfl) (by kernel_rfl) (by kernel_rfl) (fun _ _ _ h => h) (by rfl) (by assumption) ?_ ?_
  rotate_left
  · intro w' hSw; obtain ⟨_, x0, x1, x2, x3, x4, x5, x6, x7, x8, x9, x10, x11⟩ := hSw; go_simp; (try rw [if_neg (by omega)]); try exact rfl
  try simp only [List.setIfInBounds_toArray, List.set_cons_zero, List.set_cons_succ]
  refine takeYes (i := 6) (d := 71) (v := ?_) rfl rfl (by kernel_rfl) (by kernel_rfl) (by kernel_rfl) (fun _ _ _ h => h) (by rfl) (by assumption) ?_ ?_
  rotate_left
  · intro w' hSw; obtain ⟨_, x0, x1, x2, x3, x4, x5, x6, x7, x8, x9, x10, x11⟩ := hSw; go_simp; (try rw [if_neg (by omega)]); try exact rfl
  try simp only [List.setIfInBounds_toArray, List.set_cons_zero, List.set_cons_succ]
  refine takeYes (i := 10) (d := 75) (v := ?_) rfl rfl (by kernel_rfl) (by kernel_rfl) (by kernel_rfl) (fun _ _ _ h => h) (by rfl) (by assumption) ?_ ?_
  rotate_left
  · intro w' hSw; obtain ⟨_, x0, x1, x2, x3, x4, x5, x6, x7, x8, x9, x10, x11⟩ := hSw; go_simp; (try rw [if_neg (by omega)]); try exact rfl
  try simp only [List.setIfInBounds_toArray, List.set_cons_zero, List.set_cons_succ]
  refine takeYes (i := 11) (d := 76) (v := ?_) rfl rfl (by kernel_rfl) (by kernel_rfl) (by kernel_rfl) (fun _ _ _ h => h) (by rfl) (by assumption) ?_ ?_
  rotate_left
  · intro w' hSw; obtain ⟨_, x0, x1, x2, x3, x4, x5, x6, x7, x8, x9, x10, x11⟩ := hSw; go_simp; (try rw [if_neg (by omega)]); try exact rfl
  try simp only [List.setIfInBounds_toArray, List.set_cons_zero, List.set_cons_succ]
  refine wpAnyH_ready (rs := [2]) (by kernel_rfl) (by simp) ?_
  refine AllReadyH.cons rfl (fun K hK => ?_) AllReadyH.nil
  go_simp
  go_at_call 13
  refine Calls.mono (hD0 _ (by repeat (first | (with_reducible exact Below.refl _ _) | (with_reducible refine Below.drew ?_) | (with_reducible refine Below.alloc ?_ ?hh _; case hh => first | (simp; done) | (simp; omega) | omega) | (with_reducible refine Below.setCell ?_ ?hh _; case hh => first | (simp; done) | (simp; omega) | omega) | refine bstep (by assumption) (by first | (simp; done) | (simp; omega) | omega) ?_))) ?_
  rintro q w2 ⟨rfl, hb2⟩
  have hz2 := hb2.size
  (try simp at hz2)
  try go_wp2_with fail
  refine hK.out _ _ ?_ (fun hHeld2 => ?_)
  · exact hB.below (by repeat (first | (with_reducible exact Below.refl _ _) | (with_reducible refine Below.drew ?_) | (with_reducible refine Below.alloc ?_ ?hh _; case hh => first | (simp; done) | (simp; omega) | omega) | (with_reducible refine Below.setCell ?_ ?hh _; case hh => first | (simp; done) | (simp; omega) | omega) | refine bstep (by assumption) (by first | (simp; done) | (simp; omega) | omega) ?_))
  clear hK
  refine takeYes (i := 3) (d := 68) (v := ?_) rfl rfl (by kernel_rfl) (by kernel_rfl) (by kernel_rfl) (fun _ _ _ h => h) (by rfl) (by assumption) ?_ ?_
  rotate_left
  · intro w' hSw; obtain ⟨_, x0, x1, x2, x3, x4, x5, x6, x7, x8, x9, x10, x11⟩ := hSw; go_simp; (try rw [if_neg (by omega)]); try exact rfl
  try simp only [List.setIfInBounds_toArray, List.set_cons_zero, List.set_cons_succ]
  refine takeYes (i := 4) (d := 69) (v := ?_) rfl rfl (by kernel_rfl) (by kernel_rfl) (by kernel_rfl) (fun _ _ _ h => h) (by rfl) (by assumption) ?_ ?_
  rotate_left
  · intro w' hSw; obtain ⟨_, x0, x1, x2, x3, x4, x5, x6, x7, x8, x9, x10, x11⟩ := hSw; go_simp; (try rw [if_neg (by omega)]); try exact rfl
  try simp only [List.setIfInBounds_toArray, List.set_cons_zero, List.set_cons_succ]
  refine wpAnyH_ready (rs := [7]) (by kernel_rfl) (by simp) ?_
  refine AllReadyH.cons rfl (fun K hK => ?_) AllReadyH.nil
  go_simp
  go_at_call 76
  refine Calls.mono (hY0 _ (by repeat (first | (with_reducible exact Below.refl _ _) | (with_reducible refine Below.drew ?_) | (with_reducible refine Below.alloc ?_ ?hh _; case hh => first | (simp; done) | (simp; omega) | omega) | (with_reducible refine Below.setCell ?_ ?hh _; case hh => first | (simp; done) | (simp; omega) | omega) | refine bstep (by assumption) (by first | (simp; done) | (simp; omega) | omega) ?_))) ?_
  rintro q w1 ⟨rfl, hb1⟩
  have hz1 := hb1.size
  (try simp at hz1)
  try go_wp2_with fail
  refine hK.out _ _ ?_ (fun hHeld7 => ?_)
  · exact hB.below (by repeat (first | (with_reducible exact Below.refl _ _) | (with_reducible refine Below.drew ?_) | (with_reducible refine Below.alloc ?_ ?hh _; case hh => first | (simp; done) | (simp; omega) | omega) | (with_reducible refine Below.setCell ?_ ?hh _; case hh => first | (simp; done) | (simp; omega) | omega) | refine bstep (by assumption) (by first | (simp; done) | (simp; omega) | omega) ?_))
  clear hK
  refine takeYes (i := 8) (d := 73) (v := ?_) rfl rfl (by kernel_rfl) (by kernel_rfl) (by kernel_rfl) (fun _ _ _ h => h) (by rfl) (by assumption) ?_ ?_
  rotate_left
  · intro w' hSw; obtain ⟨_, x0, x1, x2, x3, x4, x5, x6, x7, x8, x9, x10, x11⟩ := hSw; go_simp; (try rw [if_neg (by omega)]); try exact rfl
  try simp only [List.setIfInBounds_toArray, List.set_cons_zero, List.set_cons_succ]
  refine takeYes (i := 9) (d := 74) (v := ?_) rfl rfl (by kernel_rfl) (by kernel_rfl) (by kernel_rfl) (fun _ _ _ h => h) (by rfl) (by assumption) ?_ ?_
  rotate_left
  · intro w' hSw; obtain ⟨_, x0, x1, x2, x3, x4, x5, x6, x7, x8, x9, x10, x11⟩ := hSw; go_simp; (try rw [if_neg (by omega)]); try exact rfl
  try simp only [List.setIfInBounds_toArray, List.set_cons_zero, List.set_cons_succ]
  refine wpAnyH_ready (rs := [12]) (by kernel_rfl) (by simp) ?_
  refine AllReadyH.cons rfl (fun K hK => ?_) AllReadyH.nil
  go_simp
  go_at_call 75
  refine Calls.mono (hK0 _ (by repeat (first | (with_reducible exact Below.refl _ _) | (with_reducible refine Below.drew ?_) | (with_reducible refine Below.alloc ?_ ?hh _; case hh => first | (simp; done) | (simp; omega) | omega) | (with_reducible refine Below.setCell ?_ ?hh _; case hh => first | (simp; done) | (simp; omega) | omega) | refine bstep (by assumption) (by first | (simp; done) | (simp; omega) | omega) ?_))) ?_
  rintro q w3 ⟨rfl, hb3⟩
  have hz3 := hb3.size
  (try simp at hz3)
  try go_wp2_with fail
  refine hK.out _ _ ?_ (fun hHeld12 => ?_)
  · exact hB.below (by repeat (first | (with_reducible exact Below.refl _ _) | (with_reducible refine Below.drew ?_) | (with_reducible refine Below.alloc ?_ ?hh _; case hh => first | (simp; done) | (simp; omega) | omega) | (with_reducible refine Below.setCell ?_ ?hh _; case hh => first | (simp; done) | (simp; omega) | omega) | refine bstep (by assumption) (by first | (simp; done) | (simp; omega) | omega) ?_))
  clear hK
  refine takeYes (i := 13) (d := 78) (v := ?_) rfl rfl (by kernel_rfl) (by kernel_rfl) (by kernel_rfl) (fun _ _ _ h => h) (by rfl) (by assumption) ?_ ?_
  rotate_left
  · intro w' hSw; obtain ⟨_, x0, x1, x2, x3, x4, x5, x6, x7, x8, x9, x10, x11⟩ := hSw; go_simp; (try rw [if_neg (by omega)]); try exact rfl
  try simp only [List.setIfInBounds_toArray, List.set_cons_zero, List.set_cons_succ]
  refine takeYes (i := 14) (d := 79) (v := ?_) rfl rfl (by kernel_rfl) (by kernel_rfl) (by kernel_rfl) (fun _ _ _ h => h) (by rfl) (by assumption) ?_ ?_
  rotate_left
  · intro w' hSw; obtain ⟨_, x0, x1, x2, x3, x4, x5, x6, x7, x8, x9, x10, x11⟩ := hSw; go_simp; (try rw [if_neg (by omega)]); try exact rfl
  try simp only [List.setIfInBounds_toArray, List.set_cons_zero, List.set_cons_succ]
  refine takeYes (i := 15) (d := 4) (v := ?_) rfl rfl (by kernel_rfl) (by kernel_rfl) (by kernel_rfl) (fun _ _ _ h => h) (by rfl) (by assumption) ?_ ?_
  rotate_left
  · intro w' hSw; obtain ⟨_, x0, x1, x2, x3, x4, x5, x6, x7, x8, x9, x10, x11⟩ := hSw; go_simp; (try rw [if_neg (by omega)]); try exact rfl
  try simp only [List.setIfInBounds_toArray, List.set_cons_zero, List.set_cons_succ]
  refine wpAnyH_done (by kernel_rfl) ?_ _
  have bel2 : Below w.heap.size w w3 := by repeat (first | (with_reducible exact Below.refl _ _) | (with_reducible refine Below.drew ?_) | (with_reducible refine Below.alloc ?_ ?hh _; case hh => first | (simp; done) | (simp; omega) | omega) | (with_reducible refine Below.setCell ?_ ?hh _; case hh => first | (simp; done) | (simp; omega) | omega) | refine bstep (by assumption) (by first | (simp; done) | (simp; omega) | omega) ?_)
  clear hX0 hY0 hK0 hD0
  go_wp2
  go_returns
  exact ⟨by rw [← HF.out]; rfl, bel2⟩
set_option maxHeartbeats 4000000 in
set_option maxRecDepth 100000 in
theorem tpI_4 {f : Nat} (ih : TpI f) {p : P12} {ue us u : Value} {g : List Nat} {D d : Nat} {w : World} (hw : p.wf) (hL : ListsP w D (PlansIs w D d) p ue us u g) (hn : wtP p ≤ 1048576) (hf : f + 1 ≤ 21) (hE : Env w) (h0 : p.k = 4) :
    Calls Tryd.prog 54 #[(.agg #[.int .i64 p.k, .string p.s, .int .i64 p.e.k, .int .i64 p.e.n, .int .i64 p.e.v.k, .int .i64 p.e.v.n, .string p.e.v.s, .string p.e.p, ue, us, .int .i64 p.n, u]), .int .i64 (21 - ((f + 1 : Nat) : Int))] w fun x w' => x = .returned (.string (bs (planT (f + 1) p))) ∧ Below w.heap.size w w' := by
  obtain ⟨r, HR⟩ := hidE (bs (planT (f + 1) p))
  rw [HR.out]
  have HR2 : Hid (bs ([117, 110, 105, 111, 110, 40] ++ (ksT f p ++ [41])) = r) := by show _ = _; rw [← HR.out, planT_4 h0]
  have hK0 := fun w2 (hb : Below w.heap.size w w2) => kidsText_any ih p ue us u g D d w2 (hL.below hb) hn hf (hE.below hb)
  have hkl := ksT_len' (planT_len f) hL
  have hwt := wtP_eq p
  obtain ⟨a_e, a_E, a_s, a_S, a_k, a_K, rfl, rfl, rfl, _, _, _, _, _, _⟩ := hL.shape
  obtain ⟨Fe, Fs, h, rfl, ke, kes, kp⟩ := hL
  obtain ⟨n0, n1⟩ := wf64X p.n hw.2.2.2
  have hil := Lib.itoa_length_le p.n n0 n1
  have hel := expText_len p.e w D _ Fe hw.2.2.1 ke
  have hll := lstT_len kes
  have hX0 := fun w2 (hb : Below w.heap.size w w2) => implExpText_any p.e _ Fe D w2 hw.2.2.1 (ke.below hb) (hE.below hb)
  have hY0 := fun w2 (hb : Below w.heap.size w w2) => listText_any _ p.es Fs D w2 (kes.below hb) (by omega) (hE.below hb)
  have hD0 := fun w2 (hb : Below w.heap.size w w2) => implDec_env p.n w2 n0 n1 (hE.below hb)
  obtain ⟨t1, H1⟩ := hidE (bs (expText p.e))
  obtain ⟨t2, H2⟩ := hidE (bs (lstT p.es))
  obtain ⟨t3, H3⟩ := hidE (bs (ksT f p))
  obtain ⟨t4, H4⟩ := hidE (bs (Lib.itoa p.n))
  obtain ⟨dd, HD⟩ := hidE (21 - ((f + 1 : Nat) : Int))
  rw [HD.out] at hK0 ⊢
  rw [H3.out] at hK0
  rw [H1.out] at hX0
  rw [H2.out] at hY0
  rw [H4.out] at hD0
  have hd0 : 0 ≤ dd := by have := HD.out; omega
  have hd2 : dd ≤ 20 := by have := HD.out; omega
  have hs1 : t1.size ≤ 5000000000000 := by rw [← H1.out, bs_size]; omega
  have hs2 : t2.size ≤ 5000000000000 := by rw [← H2.out, bs_size]; omega
  have hs3 : t3.size ≤ 5000000000000 := by rw [← H3.out, bs_size]; omega
  have hs4 : t4.size ≤ 5000000000000 := by rw [← H4.out, bs_size]; omega
  have k0 : (p.k == 0) = false := by rw [h0]; rfl
  have k1 : (p.k == 1) = false := by rw [h0]; rfl
  have k2 : (p.k == 2) = false := by rw [h0]; rfl
  have k3 : (p.k == 3) = false := by rw [h0]; rfl
  have k4 : (p.k == 4) = true := by rw [h0]; rfl
  have sz1 : ((⟨#[117, 110, 105, 111, 110, 40]⟩ : ByteArray) ++ t3).size ≤ 5000000000010 := by simp only [ByteArray.size_append]; have z0 : (⟨#[117, 110, 105, 111, 110, 40]⟩ : ByteArray).size = 6 := rfl; omega
  have HF : Hid ((⟨#[117, 110, 105, 111, 110, 40]⟩ : ByteArray) ++ t3 ++ (⟨#[41]⟩ : ByteArray) = r) := by
    show _ = _
    rw [← HR2.out, ← H3.out, show (⟨#[117, 110, 105, 111, 110, 40]⟩ : ByteArray) = bs [117, 110, 105, 111, 110, 40] from rfl, show (⟨#[41]⟩ : ByteArray) = bs [41] from rfl, bs_app, bs_app]
    simp
  clear hw hE ih hel hll hkl hil n0 n1 ke kes kp hn hf hwt HD H1 H2 H3 H4 HR HR2 h0
  go_enter Tryd.func54, Tryd.ntmps54
  go_wp2_with fail
  refine Calls.mono (hK0 _ ?hb) ?_
  case hb => repeat (first | (with_reducible exact Below.refl _ _) | (with_reducible refine Below.drew ?_) | (with_reducible refine Below.alloc ?_ ?hh _; case hh => first | (simp; done) | (simp; omega) | omega) | (with_reducible refine Below.setCell ?_ ?hh _; case hh => first | (simp; done) | (simp; omega) | omega) | refine bstep (by assumption) (by first | (simp; done) | (simp; omega) | omega) ?_)
  rintro q w3 ⟨rfl, hb3⟩
  have bel2 : Below w.heap.size w w3 := by repeat (first | (with_reducible exact Below.refl _ _) | (with_reducible refine Below.drew ?_) | (with_reducible refine Below.alloc ?_ ?hh _; case hh => first | (simp; done) | (simp; omega) | omega) | (with_reducible refine Below.setCell ?_ ?hh _; case hh => first | (simp; done) | (simp; omega) | omega) | refine bstep (by assumption) (by first | (simp; done) | (simp; omega) | omega) ?_)
  clear hX0 hY0 hK0 hD0 hb3
  go_wp2
  go_returns
  exact ⟨by rw [← HF.out]; rfl, bel2⟩
set_option maxHeartbeats 4000000 in
set_option maxRecDepth 100000 in
theorem tpI_5 {f : Nat} (ih : TpI f) {p : P12} {ue us u : Value} {g : List Nat} {D d : Nat} {w : World} (hw : p.wf) (hL : ListsP w D (PlansIs w D d) p ue us u g) (hn : wtP p ≤ 1048576) (hf : f + 1 ≤ 21) (hE : Env w) (h0 : p.k = 5) :
    Calls Tryd.prog 54 #[(.agg #[.int .i64 p.k, .string p.s, .int .i64 p.e.k, .int .i64 p.e.n, .int .i64 p.e.v.k, .int .i64 p.e.v.n, .string p.e.v.s, .string p.e.p, ue, us, .int .i64 p.n, u]), .int .i64 (21 - ((f + 1 : Nat) : Int))] w fun x w' => x = .returned (.string (bs (planT (f + 1) p))) ∧ Below w.heap.size w w' := by
  obtain ⟨r, HR⟩ := hidE (bs (planT (f + 1) p))
  rw [HR.out]
  have HR2 : Hid (bs ([100, 105, 115, 116, 105, 110, 99, 116, 40] ++ (ksT f p ++ [41])) = r) := by show _ = _; rw [← HR.out, planT_5 h0]
  have hK0 := fun w2 (hb : Below w.heap.size w w2) => kidsText_any ih p ue us u g D d w2 (hL.below hb) hn hf (hE.below hb)
  have hkl := ksT_len' (planT_len f) hL
  have hwt := wtP_eq p
  obtain ⟨a_e, a_E, a_s, a_S, a_k, a_K, rfl, rfl, rfl, _, _, _, _, _, _⟩ := hL.shape
  obtain ⟨Fe, Fs, h, rfl, ke, kes, kp⟩ := hL
  obtain ⟨n0, n1⟩ := wf64X p.n hw.2.2.2
  have hil := Lib.itoa_length_le p.n n0 n1
  have hel := expText_len p.e w D _ Fe hw.2.2.1 ke
  have hll := lstT_len kes
  have hX0 := fun w2 (hb : Below w.heap.size w w2) => implExpText_any p.e _ Fe D w2 hw.2.2.1 (ke.below hb) (hE.below hb)
  have hY0 := fun w2 (hb : Below w.heap.size w w2) => listText_any _ p.es Fs D w2 (kes.below hb) (by omega) (hE.below hb)
  have hD0 := fun w2 (hb : Below w.heap.size w w2) => implDec_env p.n w2 n0 n1 (hE.below hb)
  obtain ⟨t1, H1⟩ := hidE (bs (expText p.e))
  obtain ⟨t2, H2⟩ := hidE (bs (lstT p.es))
  obtain ⟨t3, H3⟩ := hidE (bs (ksT f p))
  obtain ⟨t4, H4⟩ := hidE (bs (Lib.itoa p.n))
  obtain ⟨dd, HD⟩ := hidE (21 - ((f + 1 : Nat) : Int))
  rw [HD.out] at hK0 ⊢
  rw [H3.out] at hK0
  rw [H1.out] at hX0
  rw [H2.out] at hY0
  rw [H4.out] at hD0
  have hd0 : 0 ≤ dd := by have := HD.out; omega
  have hd2 : dd ≤ 20 := by have := HD.out; omega
  have hs1 : t1.size ≤ 5000000000000 := by rw [← H1.out, bs_size]; omega
  have hs2 : t2.size ≤ 5000000000000 := by rw [← H2.out, bs_size]; omega
  have hs3 : t3.size ≤ 5000000000000 := by rw [← H3.out, bs_size]; omega
  have hs4 : t4.size ≤ 5000000000000 := by rw [← H4.out, bs_size]; omega
  have k0 : (p.k == 0) = false := by rw [h0]; rfl
  have k1 : (p.k == 1) = false := by rw [h0]; rfl
  have k2 : (p.k == 2) = false := by rw [h0]; rfl
  have k3 : (p.k == 3) = false := by rw [h0]; rfl
  have k4 : (p.k == 4) = false := by rw [h0]; rfl
  have k5 : (p.k == 5) = true := by rw [h0]; rfl
  have sz1 : ((⟨#[100, 105, 115, 116, 105, 110, 99, 116, 40]⟩ : ByteArray) ++ t3).size ≤ 5000000000010 := by simp only [ByteArray.size_append]; have z0 : (⟨#[100, 105, 115, 116, 105, 110, 99, 116, 40]⟩ : ByteArray).size = 9 := rfl; omega
  have HF : Hid ((⟨#[100, 105, 115, 116, 105, 110, 99, 116, 40]⟩ : ByteArray) ++ t3 ++ (⟨#[41]⟩ : ByteArray) = r) := by
    show _ = _
    rw [← HR2.out, ← H3.out, show (⟨#[100, 105, 115, 116, 105, 110, 99, 116, 40]⟩ : ByteArray) = bs [100, 105, 115, 116, 105, 110, 99, 116, 40] from rfl, show (⟨#[41]⟩ : ByteArray) = bs [41] from rfl, bs_app, bs_app]
    simp
  clear hw hE ih hel hll hkl hil n0 n1 ke kes kp hn hf hwt HD H1 H2 H3 H4 HR HR2 h0
  go_enter Tryd.func54, Tryd.ntmps54
  go_wp2_with fail
  refine Calls.mono (hK0 _ ?hb) ?_
  case hb => repeat (first | (with_reducible exact Below.refl _ _) | (with_reducible refine Below.drew ?_) | (with_reducible refine Below.alloc ?_ ?hh _; case hh => first | (simp; done) | (simp; omega) | omega) | (with_reducible refine Below.setCell ?_ ?hh _; case hh => first | (simp; done) | (simp; omega) | omega) | refine bstep (by assumption) (by first | (simp; done) | (simp; omega) | omega) ?_)
  rintro q w3 ⟨rfl, hb3⟩
  have bel2 : Below w.heap.size w w3 := by repeat (first | (with_reducible exact Below.refl _ _) | (with_reducible refine Below.drew ?_) | (with_reducible refine Below.alloc ?_ ?hh _; case hh => first | (simp; done) | (simp; omega) | omega) | (with_reducible refine Below.setCell ?_ ?hh _; case hh => first | (simp; done) | (simp; omega) | omega) | refine bstep (by assumption) (by first | (simp; done) | (simp; omega) | omega) ?_)
  clear hX0 hY0 hK0 hD0 hb3
  go_wp2
  go_returns
  exact ⟨by rw [← HF.out]; rfl, bel2⟩
set_option maxHeartbeats 4000000 in
set_option maxRecDepth 100000 in
theorem tpI_x {f : Nat} (ih : TpI f) {p : P12} {ue us u : Value} {g : List Nat} {D d : Nat} {w : World} (hw : p.wf) (hL : ListsP w D (PlansIs w D d) p ue us u g) (hn : wtP p ≤ 1048576) (hf : f + 1 ≤ 21) (hE : Env w) (h0 : ¬ p.k = 0) (h1 : ¬ p.k = 1) (h2 : ¬ p.k = 2) (h3 : ¬ p.k = 3) (h4 : ¬ p.k = 4) (h5 : ¬ p.k = 5) (h6 : ¬ p.k = 6) :
    Calls Tryd.prog 54 #[(.agg #[.int .i64 p.k, .string p.s, .int .i64 p.e.k, .int .i64 p.e.n, .int .i64 p.e.v.k, .int .i64 p.e.v.n, .string p.e.v.s, .string p.e.p, ue, us, .int .i64 p.n, u]), .int .i64 (21 - ((f + 1 : Nat) : Int))] w fun x w' => x = .returned (.string (bs (planT (f + 1) p))) ∧ Below w.heap.size w w' := by
  rw [planT_x h0 h1 h2 h3 h4 h5 h6]
  obtain ⟨a_e, a_E, a_s, a_S, a_k, a_K, rfl, rfl, rfl, _, _, _, _, _, _⟩ := hL.shape
  obtain ⟨dd, HD⟩ := hidE (21 - ((f + 1 : Nat) : Int))
  rw [HD.out]
  have hd0 : 0 ≤ dd := by have := HD.out; omega
  have hd2 : dd ≤ 20 := by have := HD.out; omega
  have k0 : (p.k == 0) = false := by simpa using h0
  have k1 : (p.k == 1) = false := by simpa using h1
  have k2 : (p.k == 2) = false := by simpa using h2
  have k3 : (p.k == 3) = false := by simpa using h3
  have k4 : (p.k == 4) = false := by simpa using h4
  have k5 : (p.k == 5) = false := by simpa using h5
  have k6 : (p.k == 6) = false := by simpa using h6
  clear hL hE hw ih h0 h1 h2 h3 h4 h5 h6 HD
  go_enter Tryd.func54, Tryd.ntmps54
  go_wp2
  go_returns
  exact ⟨rfl, by repeat (first | (with_reducible exact Below.refl _ _) | (with_reducible refine Below.drew ?_) | (with_reducible refine Below.alloc ?_ ?hh _; case hh => first | (simp; done) | (simp; omega) | omega) | (with_reducible refine Below.setCell ?_ ?hh _; case hh => first | (simp; done) | (simp; omega) | omega) | refine bstep (by assumption) (by first | (simp; done) | (simp; omega) | omega) ?_)⟩
theorem tpI_any : ∀ f, TpI f
  | 0 => tpI_zero
  | f + 1 => by
    have ih := tpI_any f
    intro p ue us u g D d w hw hL hn hf hE
    by_cases h0 : p.k = 0
    · exact tpI_0 ih hw hL hn hf hE h0
    by_cases h1 : p.k = 1
    · exact tpI_1 ih hw hL hn hf hE h1
    by_cases h2 : p.k = 2
    · exact tpI_2 ih hw hL hn hf hE h2
    by_cases h3 : p.k = 3
    · exact tpI_3 ih hw hL hn hf hE h3
    by_cases h4 : p.k = 4
    · exact tpI_4 ih hw hL hn hf hE h4
    by_cases h5 : p.k = 5
    · exact tpI_5 ih hw hL hn hf hE h5
    by_cases h6 : p.k = 6
    · exact tpI_6 ih hw hL hn hf hE h6
    exact tpI_x ih hw hL hn hf hE h0 h1 h2 h3 h4 h5 h6
set_option maxHeartbeats 4000000 in
set_option maxRecDepth 100000 in
theorem implPlanText_any (p : P12) (ue us u : Value) (g : List Nat) (D d : Nat) (w : World) (hw : p.wf) (hL : ListsP w D (PlansIs w D d) p ue us u g) (hn : wtP p ≤ 1048576) (hE : Env w) :
    Calls Tryd.prog 27 #[(.agg #[.int .i64 p.k, .string p.s, .int .i64 p.e.k, .int .i64 p.e.n, .int .i64 p.e.v.k, .int .i64 p.e.v.n, .string p.e.v.s, .string p.e.p, ue, us, .int .i64 p.n, u])] w fun x w' => x = .returned (.string (bs (planT 21 p))) ∧ Below w.heap.size w w' := by
  have hT := fun w2 (hb : Below w.heap.size w w2) => tpI_any 21 p ue us u g D d w2 hw (hL.below hb) hn (Nat.le_refl _) (hE.below hb)
  rw [show (21 : Int) - ((21 : Nat) : Int) = 0 from rfl] at hT
  obtain ⟨a_e, a_E, a_s, a_S, a_k, a_K, rfl, rfl, rfl, _, _, _, _, _, _⟩ := hL.shape
  clear hL hE hw
  go_enter Tryd.func27, Tryd.ntmps27
  go_wp2_with fail
  refine Calls.mono (hT _ ?hb) ?_
  case hb => repeat (first | (with_reducible exact Below.refl _ _) | (with_reducible refine Below.drew ?_) | (with_reducible refine Below.alloc ?_ ?hh _; case hh => first | (simp; done) | (simp; omega) | omega) | (with_reducible refine Below.setCell ?_ ?hh _; case hh => first | (simp; done) | (simp; omega) | omega) | refine bstep (by assumption) (by first | (simp; done) | (simp; omega) | omega) ?_)
  rintro x w1 ⟨rfl, hb1⟩
  have bel1 : Below w.heap.size w w1 := by repeat (first | (with_reducible exact Below.refl _ _) | (with_reducible refine Below.drew ?_) | (with_reducible refine Below.alloc ?_ ?hh _; case hh => first | (simp; done) | (simp; omega) | omega) | (with_reducible refine Below.setCell ?_ ?hh _; case hh => first | (simp; done) | (simp; omega) | omega) | refine bstep (by assumption) (by first | (simp; done) | (simp; omega) | omega) ?_)
  clear hT hb1
  go_wp2_with fail
  go_returns
  exact ⟨rfl, bel1⟩
end Go.Proofs.YtajlmgacmhimgaaDoor
