/- Own text. The contract of tell, the teller's, of a plan of one kind. -/
import Derived.Test.YtlpgkhdmilnbgaaDoorTlI
import Derived.Test.YtlpgkhdmilnbgaaDoorPtP
import Derived.Test.YtlpgkhdmilnbgaaDoorLtI
import Derived.Test.YtlpgkhdmilnbgaaDoorBoxP
import Derived.Test.YtlpgkhdmilnbgaaDoorTake
import Derived.Handy
import Derived.Deep.RegionHeld3
namespace Go.Proofs.YtlpgkhdmilnbgaaDoor
open Go.RowKit Go.ChangeShapes Go.WideShapes
set_option linter.unusedVariables false
set_option maxHeartbeats 8000000 in
set_option maxRecDepth 100000 in
theorem tlI_6 {f : Nat} (ih : TlI f) {p : P12} {b o : Nat} {ue us u : Value} {g : List Nat} {D d N T M : Nat} {y : Value} {L : List UInt8} {S : Addr → Prop} {w : World} (hw : p.wf) (hc : cellsP w b o p ue us u) (hL : ListsP w D (PlansIs w D d) p ue us u g) (hP : Pb w N b g) (hS : ∀ a, S a → a ≠ ⟨b, o, none⟩ ∧ a.block ∉ g) (hn : wtP p ≤ 1048576) (hB : L.length + 4000000 * (1 + wtP p) ≤ 10000000000000) (hf : f + 1 ≤ 21) (hE : ∀ w2, Below N w w2 → Env w2) (hT : Tl w N T M y L S) (h0 : p.k = 6) :
    Calls Tryd.prog 16 #[.pointer (some ⟨T, 0, none⟩), .pointer (some ⟨b, o, none⟩), .int .i64 (21 - ((f + 1 : Nat) : Int))] w fun x w' => x = .returned (.tuple #[]) ∧ (∃ y', Tl w' N T M y' (L ++ planT (f + 1) p) (fun a => S a ∨ a = ⟨b, o, none⟩ ∨ a.block ∈ g)) ∧ Below N w w' := by
  have hwt := wtP_eq p
  obtain ⟨hd, Hhd⟩ := hidT (([[103, 114, 111, 117, 112, 40], Lib.itoa p.n, [44, 32], lstT p.es, [44, 32]] : List (List UInt8)).flatten)
  have HR : Hid (planT (f + 1) p = hd ++ (ksT f p ++ [41])) := by show _ = _; rw [← Hhd.out, planT_6 h0]; simp
  have hJK := joinK_len (f := f) hL
  have k0 : (p.k == 0) = false := by rw [h0]; rfl
  have k1 : (p.k == 1) = false := by rw [h0]; rfl
  have k2 : (p.k == 2) = false := by rw [h0]; rfl
  have k3 : (p.k == 3) = false := by rw [h0]; rfl
  have k4 : (p.k == 4) = false := by rw [h0]; rfl
  have k5 : (p.k == 5) = false := by rw [h0]; rfl
  have k6 : (p.k == 6) = true := by rw [h0]; rfl
  have hNw : N ≤ w.heap.size := by have := hT.ltT; have := hT.tN; omega
  have hbN : b < N := (hP.2 b List.mem_cons_self).1
  have hAg := again_any N T M y L S b o w hT hbN (cellsP_fr hc (hP.2 b List.mem_cons_self).2) (fun a ha => (hS a ha).1) (by omega)
  have hgN : ∀ x ∈ g, x < N := fun x hx => (hP.2 x (List.mem_cons_of_mem _ hx)).1
  obtain ⟨dd, HD⟩ := hidT (21 - ((f + 1 : Nat) : Int))
  rw [HD.out]
  have hd0 : 0 ≤ dd := by have := HD.out; omega
  have hd2 : dd ≤ 20 := by have := HD.out; omega
  go_enter Tryd.func16, Tryd.ntmps16
  go_wp2_with fail
  refine Calls.mono hAg ?_
  rintro x w1 ⟨rfl, hT1, hb1⟩
  clear hAg hT
  have hz1 := hb1.size
  have hc1 := hc.keep (hb1.block b hbN)
  obtain ⟨c0, c1, c2, c3, c4, c5, c6, c7, c8, c9, c10, c11⟩ := hc1
  have hcw : ∀ w2, Below N w w2 → cellsP w2 b o p ue us u := fun w2 hb => hc.keep (hb.block b hbN)
  obtain ⟨a_e, a_E, a_s, a_S, a_k, a_K, rfl, rfl, rfl, _, _, _, _, _, _⟩ := hL.shape
  have hLw : ∀ w2, Below N w w2 → ListsP w2 D (PlansIs w2 D d) p (.slice a_e p.e.ks.length a_E) (.slice a_s p.es.length a_S) (.slice a_k p.ks.length a_K) g := fun w2 hb => hL.keep hb.size fun x hx => hb.block x (hgN x hx)
  obtain ⟨n0, n1⟩ := wf64X p.n hw.2.2.2
  have hil := Lib.itoa_length_le p.n n0 n1
  obtain ⟨Fe, Fs, h, rfl, ke, kes, kp⟩ := hL
  have hel := expText_len p.e w D _ Fe hw.2.2.1 ke
  have hll := lstT_len kes
  have hX0 := fun w2 (hb : Below N w w2) => implExpText_any p.e _ Fe D w2 hw.2.2.1 (ke.keep hb.size fun x hx => hb.block x (hgN x (List.mem_append_left _ hx))) (hE w2 hb)
  have hY0 := fun w2 (hb : Below N w w2) => listText_any _ p.es Fs D w2 (kes.keep hb.size fun x hx => hb.block x (hgN x (List.mem_append_right _ (List.mem_append_left _ hx)))) (by omega) (hE w2 hb)
  have hD0 := fun w2 (hb : Below N w w2) => implDec_env p.n w2 n0 n1 (hE w2 hb)
  have hdl : hd.length ≤ 3900000 + 2600000 * p.es.length := by rw [← Hhd.out]; simp only [List.flatten_cons, List.flatten_nil, List.length_append, List.length_cons, List.length_nil]; omega
  obtain ⟨t1, H1⟩ := hidT (bs (expText p.e))
  obtain ⟨t2, H2⟩ := hidT (bs (lstT p.es))
  obtain ⟨t4, H4⟩ := hidT (bs (Lib.itoa p.n))
  rw [H1.out] at hX0
  rw [H2.out] at hY0
  rw [H4.out] at hD0
  have hpt := fun w2 tb (hb2 : Below w1.heap.size w1 w2) (htb : w2.heap[tb]? = some (.cells #[.string ⟨#[103, 114, 111, 117, 112, 40]⟩, .string t4, .string ⟨#[44, 32]⟩, .string t2, .string ⟨#[44, 32]⟩] 9 (0, 0))) => tput_any N T M y L _ [[103, 114, 111, 117, 112, 40], Lib.itoa p.n, [44, 32], lstT p.es, [44, 32]] tb 5 5 w2 (hT1.below hb2) (by rw [← H4.out, ← H2.out] at htb; exact htb) rfl (by rw [Hhd.out]; omega) (by omega) (by omega)
  rw [Hhd.out] at hpt
  have bels : Below N w w1 := hb1
  have hbd : Below N w w1.drew := hb1.drew
  go_wp2_with fail
  refine wp_region_held_drew (S := (fun w' => cellsP w' b o p (.slice a_e p.e.ks.length a_E) (.slice a_s p.es.length a_S) (.slice a_k p.ks.length a_K))) (by kernel_rfl) ?_ (fun hHeld => ?_)
  · exact hcw _ (by first | exact bel4 | exact bel3.alloc (by omega) _ | exact bel3 | exact bel2 | exact hbd)
  refine takeYes (i := 0) (d := 69) (v := ?_) rfl rfl (by kernel_rfl) (by kernel_rfl) (by kernel_rfl) (fun _ _ _ h => h) (by rfl) (by assumption) ?_ ?_
  rotate_left
  · intro w' hSw; obtain ⟨x0, x1, x2, x3, x4, x5, x6, x7, x8, x9, x10, x11⟩ := hSw; go_simp; try exact rfl
  try simp only [List.setIfInBounds_toArray, List.set_cons_zero, List.set_cons_succ]
  refine takeYes (i := 1) (d := 70) (v := ?_) rfl rfl (by kernel_rfl) (by kernel_rfl) (by kernel_rfl) (fun _ _ _ h => h) (by rfl) (by assumption) ?_ ?_
  rotate_left
  · intro w' hSw; obtain ⟨x0, x1, x2, x3, x4, x5, x6, x7, x8, x9, x10, x11⟩ := hSw; go_simp; try exact rfl
  try simp only [List.setIfInBounds_toArray, List.set_cons_zero, List.set_cons_succ]
  refine takeYes (i := 2) (d := 71) (v := ?_) rfl rfl (by kernel_rfl) (by kernel_rfl) (by kernel_rfl) (fun _ _ _ h => h) (by rfl) (by assumption) ?_ ?_
  rotate_left
  · intro w' hSw; obtain ⟨x0, x1, x2, x3, x4, x5, x6, x7, x8, x9, x10, x11⟩ := hSw; go_simp; try exact rfl
  try simp only [List.setIfInBounds_toArray, List.set_cons_zero, List.set_cons_succ]
  refine takeYes (i := 3) (d := 72) (v := ?_) rfl rfl (by kernel_rfl) (by kernel_rfl) (by kernel_rfl) (fun _ _ _ h => h) (by rfl) (by assumption) ?_ ?_
  rotate_left
  · intro w' hSw; obtain ⟨x0, x1, x2, x3, x4, x5, x6, x7, x8, x9, x10, x11⟩ := hSw; go_simp; try exact rfl
  try simp only [List.setIfInBounds_toArray, List.set_cons_zero, List.set_cons_succ]
  refine takeYes (i := 4) (d := 73) (v := ?_) rfl rfl (by kernel_rfl) (by kernel_rfl) (by kernel_rfl) (fun _ _ _ h => h) (by rfl) (by assumption) ?_ ?_
  rotate_left
  · intro w' hSw; obtain ⟨x0, x1, x2, x3, x4, x5, x6, x7, x8, x9, x10, x11⟩ := hSw; go_simp; try exact rfl
  try simp only [List.setIfInBounds_toArray, List.set_cons_zero, List.set_cons_succ]
  refine takeYes (i := 6) (d := 75) (v := ?_) rfl rfl (by kernel_rfl) (by kernel_rfl) (by kernel_rfl) (fun _ _ _ h => h) (by rfl) (by assumption) ?_ ?_
  rotate_left
  · intro w' hSw; obtain ⟨x0, x1, x2, x3, x4, x5, x6, x7, x8, x9, x10, x11⟩ := hSw; go_simp; try exact rfl
  try simp only [List.setIfInBounds_toArray, List.set_cons_zero, List.set_cons_succ]
  refine takeYes (i := 7) (d := 76) (v := ?_) rfl rfl (by kernel_rfl) (by kernel_rfl) (by kernel_rfl) (fun _ _ _ h => h) (by rfl) (by assumption) ?_ ?_
  rotate_left
  · intro w' hSw; obtain ⟨x0, x1, x2, x3, x4, x5, x6, x7, x8, x9, x10, x11⟩ := hSw; go_simp; try exact rfl
  try simp only [List.setIfInBounds_toArray, List.set_cons_zero, List.set_cons_succ]
  refine takeYes (i := 8) (d := 77) (v := ?_) rfl rfl (by kernel_rfl) (by kernel_rfl) (by kernel_rfl) (fun _ _ _ h => h) (by rfl) (by assumption) ?_ ?_
  rotate_left
  · intro w' hSw; obtain ⟨x0, x1, x2, x3, x4, x5, x6, x7, x8, x9, x10, x11⟩ := hSw; go_simp; try exact rfl
  try simp only [List.setIfInBounds_toArray, List.set_cons_zero, List.set_cons_succ]
  refine takeYes (i := 9) (d := 78) (v := ?_) rfl rfl (by kernel_rfl) (by kernel_rfl) (by kernel_rfl) (fun _ _ _ h => h) (by rfl) (by assumption) ?_ ?_
  rotate_left
  · intro w' hSw; obtain ⟨x0, x1, x2, x3, x4, x5, x6, x7, x8, x9, x10, x11⟩ := hSw; go_simp; try exact rfl
  try simp only [List.setIfInBounds_toArray, List.set_cons_zero, List.set_cons_succ]
  refine wpAnyH_ready (rs := [5]) (by kernel_rfl) (by simp) ?_
  refine AllReadyH.cons rfl (fun K hK => ?_) AllReadyH.nil
  go_simp
  go_at_call 30
  refine Calls.mono (hD0 _ hbd) ?_
  rintro q w2 ⟨rfl, hb2⟩
  have hz2 : w1.heap.size ≤ w2.heap.size := hb2.size
  have bel2 : Below N w w2 := hbd.trans (hb2.mono (show N ≤ w1.heap.size by omega))
  try go_wp2_with fail
  refine hK.out _ _ ?_ (fun hHeld5 => ?_)
  · exact hcw _ (by first | exact bel4 | exact bel3.alloc (by omega) _ | exact bel3 | exact bel2 | exact hbd)
  clear hK
  refine wpAnyH_ready (rs := [10]) (by kernel_rfl) (by simp) ?_
  refine AllReadyH.cons rfl (fun K hK => ?_) AllReadyH.nil
  go_simp
  go_at_call 29
  refine Calls.mono (hY0 _ bel2) ?_
  rintro q w3 ⟨rfl, hb3⟩
  have hz3 := hb3.size
  have bel3 : Below N w w3 := bel2.trans (hb3.mono (by omega))
  try go_wp2_with fail
  refine hK.out _ _ ?_ (fun hHeld10 => ?_)
  · exact hcw _ (by first | exact bel4 | exact bel3.alloc (by omega) _ | exact bel3 | exact bel2 | exact hbd)
  clear hK
  refine wpAnyH_ready (rs := [11]) (by kernel_rfl) (by simp) ?_
  refine AllReadyH.cons rfl (fun K hK => ?_) AllReadyH.nil
  go_simp
  try go_wp2_with fail
  refine hK.out _ _ ?_ (fun hHeld11 => ?_)
  · exact hcw _ (by first | exact bel4 | exact bel3.alloc (by omega) _ | exact bel3 | exact bel2 | exact hbd)
  clear hK
  refine wpAnyH_ready (rs := [12]) (by kernel_rfl) (by simp) ?_
  refine AllReadyH.cons rfl (fun K hK => ?_) AllReadyH.nil
  go_simp
  go_at_call 27
  refine Calls.mono (hpt _ _ (by repeat (first | (with_reducible exact Below.refl _ _) | (with_reducible refine Below.drew ?_) | (with_reducible refine Below.alloc ?_ ?hh _; case hh => first | (simp; done) | (simp; omega) | omega) | (with_reducible refine Below.setCell ?_ ?hh _; case hh => first | (simp; done) | (simp; omega) | omega) | refine bstep (by assumption) (by first | (simp; done) | (simp; omega) | omega) ?_)) (heap_alloc_new _ _)) ?_
  rintro q w4 ⟨rfl, ⟨y4, hT4⟩, hb4⟩
  have hz4 := hb4.size
  have bel4 : Below N w w4 := (bel3.alloc (by omega) _).trans hb4
  try go_wp2_with fail
  refine hK.out _ _ ?_ (fun hHeld12 => ?_)
  · exact hcw _ (by first | exact bel4 | exact bel3.alloc (by omega) _ | exact bel3 | exact bel2 | exact hbd)
  clear hK
  refine wpAnyH_done (by kernel_rfl) ?_ _
  clear hpt hX0 hY0 hD0 hT1 hll hel hil n0 n1 H1 H2 H4 ke kes c0 c1 c2 c3 c4 c5 c6 c7 c8 c9 c10 c11
  have hz4 := bel4.size
  obtain ⟨d, rfl⟩ := succP kp
  obtain ⟨a, c, kb, ko, G, e0, hlk, hck, hG, hem, ha⟩ := kp.pick
  injection e0 with e1 e2 e3
  subst e1 e3
  unfold maxLen at hck
  have hpl : p.ks.length ≤ 1048576 := by omega
  have hd1 : dd + 1 = 21 - (f : Int) := by have := HD.out; omega
  have hI := fun (x : P12) (bb oo : Nat) (ux1 ux2 ux3 : Value) (gg : List Nat) (y2 : Value) (L2 : List UInt8) (S2 : Addr → Prop) (w2 : World) q1 q2 q3 q4 q5 q6 q7 q9 q10 => ih x bb oo ux1 ux2 ux3 gg D d N T M y2 L2 S2 w2 q1 q2 q3 q4 q5 q6 q7 (by omega) q9 q10
  rw [← hd1] at hI
  clear hd1
  have hpt := fun w2 tb l y2 L2 S2 (hT2 : Tl w2 N T M y2 L2 S2) (hl : l.length + L2.length ≤ 100000000000000) (htb : w2.heap[tb]? = some (.cells #[.string (bs l)] 9 (0, 0))) => tput_any N T M y2 L2 S2 [l] tb 1 1 w2 hT2 htb rfl (by simp; omega) (by omega) (by omega)
  obtain ⟨q0, q1, q2, q3, q4, q5, q6, q7, q8, q9, q10, q11⟩ := hcw w4 bel4
  have hnd := (List.nodup_cons.1 hP.1)
  have hsub : ∀ {k : Nat}, k < p.ks.length → ∀ x ∈ kb :: G.flatten, x ∈ Fe ++ (Fs ++ h) := fun hk x hx => by
    rw [(ha _ hk).2.2.1]; exact List.mem_append_right _ (List.mem_append_right _ hx)
  have hT4' : Tl w4 N T M y4 (L ++ (hd ++ Lib.join ((p.ks.take 0).map (planT f)) [44, 32])) (Sk S b o kb ko G 0) := (hT4.eqL (by simp [Lib.join_nil])).mono fun a ha => .inl ha
  clear hT4 q0 q1 q2 q3 q4 q5 q6 q7 q8 q9 q10 hb4
  go_wp2
  go_loopw [87] (fun i wr => ∃ (k : Nat) (y' : Value), k ≤ p.ks.length ∧ i = .int .i64 k ∧ Tl wr N T M y' (L ++ (hd ++ Lib.join ((p.ks.take k).map (planT f)) [44, 32])) (Sk S b o kb ko G k) ∧ Below N w wr) (fun i _ => p.ks.length - (intOf i).toNat)
  case atStart => exact ⟨0, y4, Nat.zero_le _, rfl, hT4', bel4⟩
  case round =>
    clear hT4' q11
    obtain ⟨k, y5, hk, rfl, hT5, hb5⟩ := hrel
    have hz5 := hb5.size
    have hJk := hJK k hk
    have hwk := wtPs_le p.ks k
    by_cases hlt : k < p.ks.length
    · obtain ⟨rfl, hblt, hFe, hPL⟩ := ha k hlt
      have hkN : kb < N := hgN _ (hsub hlt kb List.mem_cons_self)
      have hx : p.ks[k]? = some p.ks[k] := List.getElem?_eq_getElem hlt
      have hgk : G[k]? = some (G[k]'(by omega)) := List.getElem?_eq_getElem (by omega)
      generalize G[k]'(by omega) = gk at hgk
      have hwx : wtPs (p.ks.take k) + wtP p.ks[k] ≤ wtPs p.ks := by rw [← wtPs_take hx]; exact wtPs_le _ _
      have HJ := join_more f p.ks k _ hx
      generalize p.ks[k] = x at hx hwx HJ
      have hPk : ∀ w2, Below N w w2 → x.wf ∧ ∃ ue us u, cellsP w2 kb (ko + k * 12) x ue us u ∧ ListsP w2 D (PlansIs w2 D d) x ue us u gk := fun w2 hb => plies_low hPL hb hkN (fun z hz => hgN z (hsub hlt z (List.mem_cons_of_mem _ hz))) k x gk hx hgk
      have hgf : ∀ z ∈ gk, z ∈ G.flatten := fun z hz => List.mem_flatten.2 ⟨gk, List.mem_of_getElem? hgk, hz⟩
      have hndk : (kb :: G.flatten).Nodup := by
        have h1 := (List.nodup_append.1 hnd.2).2.1
        rw [hFe] at h1
        exact (List.nodup_append.1 h1).2.1
      have hPb : ∀ w2, Below N w w2 → Pb w2 N kb gk := fun w2 hb => by
        refine ⟨List.nodup_cons.2 ⟨fun hz => (List.nodup_cons.1 hndk).1 (hgf _ hz), ?_⟩, fun z hz => ?_⟩
        · exact (List.pairwise_flatten.1 (List.nodup_cons.1 hndk).2).1 gk (List.mem_of_getElem? hgk)
        · have hz' : z ∈ b :: (Fe ++ (Fs ++ h)) := by
            refine List.mem_cons_of_mem _ (hsub hlt z ?_)
            rcases List.mem_cons.1 hz with rfl | hz
            · exact List.mem_cons_self
            · exact List.mem_cons_of_mem _ (hgf z hz)
          exact (hP.low hb).2 z hz'
      have hfree := Sk.free (S := S) (b := b) (o := o) (ko := ko) hgk (hsub hlt) (fun a ha => (hS a ha).2) hnd.1 hndk
      have hnext := Sk.next (S := S) (b := b) (o := o) (kb := kb) (ko := ko) hgk
      have q11 : wr.cell? ⟨b, o + 11, none⟩ = some (.slice (some ⟨kb, ko, none⟩) p.ks.length a_K) := (hcw wr hb5).2.2.2.2.2.2.2.2.2.2.2
      have HTell : Hid (∀ (w2 : World) (y2 : Value), Below N w w2 → Tl w2 N T M y2 (L ++ (hd ++ (Lib.join ((p.ks.take k).map (planT f)) [44, 32] ++ (if k = 0 then [] else [44, 32])))) (Sk S b o kb ko G k) → Calls Tryd.prog 16 #[.pointer (some ⟨T, 0, none⟩), .pointer (some ⟨kb, ko + k * 12, none⟩), .int .i64 (dd + 1)] w2 fun e w' => e = .returned (.tuple #[]) ∧ (∃ y', Tl w' N T M y' (L ++ (hd ++ Lib.join ((p.ks.take (k + 1)).map (planT f)) [44, 32])) (Sk S b o kb ko G (k + 1))) ∧ Below N w w') := by
        intro w2 y2 hb2 hT2
        obtain ⟨hxw, ue, us, u, hcx, hLx⟩ := hPk w2 hb2
        refine (hI x kb (ko + k * 12) ue us u gk y2 _ _ w2 hxw hcx hLx (hPb w2 hb2) hfree (by omega) ?_ (fun w3 hb3 => hE w3 (hb2.trans hb3)) hT2).mono ?_
        · simp only [List.length_append]
          have : (if k = 0 then ([] : List UInt8) else [44, 32]).length ≤ 2 := by split <;> simp
          omega
        · rintro e w3 ⟨rfl, ⟨y3, hT3⟩, hb3⟩
          refine ⟨rfl, ⟨y3, (hT3.eqL ?_).mono hnext⟩, hb2.trans hb3⟩
          rw [HJ]
          simp only [List.append_assoc]
      have HJl : (Lib.join ((p.ks.take k).map (planT f)) [44, 32]).length + (L.length + hd.length) ≤ 90000000000000 := by omega
      obtain ⟨J, HJ0⟩ := hidT (Lib.join ((p.ks.take k).map (planT f)) [44, 32])
      obtain ⟨J1, HJ1⟩ := hidT (Lib.join ((p.ks.take (k + 1)).map (planT f)) [44, 32])
      rw [HJ0.out] at hT5 HJl
      replace HTell : Hid (∀ (w2 : World) (y2 : Value), Below N w w2 → Tl w2 N T M y2 (L ++ (hd ++ (J ++ (if k = 0 then [] else [44, 32])))) (Sk S b o kb ko G k) → Calls Tryd.prog 16 #[.pointer (some ⟨T, 0, none⟩), .pointer (some ⟨kb, ko + k * 12, none⟩), .int .i64 (dd + 1)] w2 fun e w' => e = .returned (.tuple #[]) ∧ (∃ y', Tl w' N T M y' (L ++ (hd ++ J1)) (Sk S b o kb ko G (k + 1))) ∧ Below N w w') := by
        rw [← HJ0.out, ← HJ1.out]; exact HTell
      clear hPk hPb hfree hnext hndk hgf hx hgk HJ hI hPL hFe hJk hJK ha hsub hLw hE hS hP hnd kp hem ih
      have hTl5 := hT5.ltT
      by_cases hk0 : k = 0
      · subst hk0
        rw [if_pos rfl, show ko + 0 * 12 = ko by omega] at HTell
        go_wp2_with fail
        (with_reducible refine Calls.mono (HTell.out wr y5 hb5 (hT5.eqL (by simp))) ?_)
        rintro e w6 ⟨rfl, ⟨y6, hT6⟩, hb6⟩
        rw [← HJ1.out] at hT6
        clear HTell hT5 hpt
        go_wp2
        exact ⟨⟨1, y6, hlt, by simp, hT6, hb6⟩, by simp [intOf]; omega⟩
      · rw [if_neg hk0] at HTell
        have hkp : 0 < k := by omega
        go_wp2_with fail
        refine Calls.mono (hpt _ _ [44, 32] _ _ _ (hT5.below ?hb) (by simp only [List.length_append, List.length_cons, List.length_nil]; omega) (heap_alloc_new _ _)) ?_
        case hb => repeat (first | (with_reducible exact Below.refl _ _) | (with_reducible refine Below.drew ?_) | (with_reducible refine Below.alloc ?_ ?hh _; case hh => first | (simp; done) | (simp; omega) | omega) | (with_reducible refine Below.setCell ?_ ?hh _; case hh => first | (simp; done) | (simp; omega) | omega) | refine bstep (by assumption) (by first | (simp; done) | (simp; omega) | omega) ?_)
        rintro e w6 ⟨rfl, ⟨y6, hT6⟩, hb6⟩
        have hb6' : Below N w w6 := (hb5.alloc (by omega) _).trans hb6
        have q12 : w6.cell? ⟨b, o + 11, none⟩ = some (.slice (some ⟨kb, ko, none⟩) p.ks.length a_K) := (hcw w6 hb6').2.2.2.2.2.2.2.2.2.2.2
        have hz6 := hb6'.size
        clear hpt hT5 hb6 q11
        go_wp2_with fail
        (with_reducible refine Calls.mono (HTell.out w6 y6 hb6' (hT6.eqL (by simp))) ?_)
        rintro e w7 ⟨rfl, ⟨y7, hT7⟩, hb7⟩
        rw [← HJ1.out] at hT7
        clear HTell hT6
        go_wp2
        exact ⟨⟨k + 1, y7, hlt, by simp, hT7, hb7⟩, by simp [intOf]; omega⟩
    · obtain rfl : k = p.ks.length := by omega
      rw [List.take_length] at hT5 hJk
      have HJl : (Lib.join (p.ks.map (planT f)) [44, 32]).length + (L.length + hd.length) ≤ 90000000000000 := by omega
      obtain ⟨J, HJ0⟩ := hidT (Lib.join (p.ks.map (planT f)) [44, 32])
      have HF : Hid (L ++ planT (f + 1) p = L ++ (hd ++ J) ++ [41]) := by
        show _ = _
        rw [HR.out, ← HJ0.out]
        unfold ksT
        simp
      rw [HJ0.out] at hT5 HJl
      have hall : ∀ a, Sk S b o kb ko G p.ks.length a → S a ∨ a = ⟨b, o, none⟩ ∨ a.block ∈ Fe ++ (Fs ++ h) := by
        by_cases hz : p.ks.length = 0
        · rw [hz]
          rintro a ((h1 | h1) | ⟨j, hj, _⟩)
          · exact .inl h1
          · exact .inr (.inl h1)
          · omega
        · exact Sk.all (hsub (k := 0) (by omega))
      have HA : Hid (∀ a, Sk S b o kb ko G p.ks.length a → S a ∨ a = ⟨b, o, none⟩ ∨ a.block ∈ Fe ++ (Fs ++ h)) := hall
      clear hall hI hJk hJK ha hsub hLw hE hS hP hnd kp hem ih HR
      have hTl5 := hT5.ltT
      go_wp2_with fail
      refine Calls.mono (hpt _ _ [41] _ _ _ (hT5.below ?hb) (by simp only [List.length_append, List.length_cons, List.length_nil]; omega) (heap_alloc_new _ _)) ?_
      case hb => repeat (first | (with_reducible exact Below.refl _ _) | (with_reducible refine Below.drew ?_) | (with_reducible refine Below.alloc ?_ ?hh _; case hh => first | (simp; done) | (simp; omega) | omega) | (with_reducible refine Below.setCell ?_ ?hh _; case hh => first | (simp; done) | (simp; omega) | omega) | refine bstep (by assumption) (by first | (simp; done) | (simp; omega) | omega) ?_)
      rintro e w6 ⟨rfl, ⟨y6, hT6⟩, hb6⟩
      have hb6' : Below N w w6 := (hb5.alloc (by omega) _).trans hb6
      clear hpt hT5 hb6
      go_wp2
      go_end0
      refine ⟨rfl, ⟨y6, ?_⟩, hb6'⟩
      rw [HF.out]
      exact (hT6.eqL (by simp)).mono HA.out
end Go.Proofs.YtlpgkhdmilnbgaaDoor
