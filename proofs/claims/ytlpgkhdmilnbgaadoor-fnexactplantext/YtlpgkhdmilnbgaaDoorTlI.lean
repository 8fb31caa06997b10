/- Own text. The contract of tell, the teller's. -/
import Derived.Test.YtlpgkhdmilnbgaaDoorTlC
import Derived.Test.YtlpgkhdmilnbgaaDoorPtP
import Derived.Test.YtlpgkhdmilnbgaaDoorLtI
import Derived.Test.YtlpgkhdmilnbgaaDoorBoxP
import Derived.Test.YtlpgkhdmilnbgaaDoorTake
import Derived.Handy
import Derived.Deep.RegionHeld3
namespace Go.Proofs.YtlpgkhdmilnbgaaDoor
open Go.RowKit Go.ChangeShapes Go.WideShapes
set_option linter.unusedVariables false
theorem plies_low {w w' : World} {N D d b o : Nat} {ps : List P12} {G : List (List Nat)} (h : PLies w D d b o ps G) (hb : Below N w w') (hbN : b < N) (hGN : ∀ x ∈ G.flatten, x < N) : PLies w' D d b o ps G := by
  intro i p g hp hg
  obtain ⟨hw, ue, us, u, hc, hL⟩ := h i p g hp hg
  exact ⟨hw, ue, us, u, hc.keep (hb.block b hbN), hL.keep hb.size fun x hx => hb.block x (hGN x (List.mem_flatten.2 ⟨g, List.mem_of_getElem? hg, hx⟩))⟩
theorem cellsP_fr {w : World} {b o : Nat} {p : P12} {ue us u : Value} (h : cellsP w b o p ue us u) (hf : ∀ q, w.frozen? ⟨b, q, none⟩ = false) : FrY w b := by
  refine ⟨?_, hf⟩
  have h0 := h.1
  unfold World.cell? at h0
  split at h0
  · exact ⟨_, _, _, by assumption⟩
  · cases h0
/-- the blocks of a plan: each once, ahead of N, not frozen. -/
def Pb (w : World) (N b : Nat) (g : List Nat) : Prop := (b :: g).Nodup ∧ ∀ x ∈ b :: g, x < N ∧ ∀ q, w.frozen? ⟨x, q, none⟩ = false
theorem Pb.low {w w' : World} {N b : Nat} {g : List Nat} (h : Pb w N b g) (hb : Below N w w') : Pb w' N b g :=
  ⟨h.1, fun x hx => ⟨(h.2 x hx).1, fun q => (frozen_blk (hb.block x (h.2 x hx).1)).trans ((h.2 x hx).2 q)⟩⟩
/-- tell of a plan where f levels are told. -/
def TlI (f : Nat) : Prop := ∀ (p : P12) (b o : Nat) (ue us u : Value) (g : List Nat) (D d N T M : Nat) (y : Value) (L : List UInt8) (S : Addr → Prop) (w : World), p.wf → cellsP w b o p ue us u → ListsP w D (PlansIs w D d) p ue us u g → Pb w N b g → (∀ a, S a → a ≠ ⟨b, o, none⟩ ∧ a.block ∉ g) → wtP p ≤ 1048576 → L.length + 4000000 * (1 + wtP p) ≤ 10000000000000 → f ≤ 21 → (∀ w2, Below N w w2 → Env w2) → Tl w N T M y L S →
    Calls Tryd.prog 16 #[.pointer (some ⟨T, 0, none⟩), .pointer (some ⟨b, o, none⟩), .int .i64 (21 - (f : Int))] w fun x w' => x = .returned (.tuple #[]) ∧ (∃ y', Tl w' N T M y' (L ++ planT f p) (fun a => S a ∨ a = ⟨b, o, none⟩ ∨ a.block ∈ g)) ∧ Below N w w'
theorem Tl.eqL {w : World} {N T M : Nat} {y : Value} {L L' : List UInt8} {S : Addr → Prop} (h : Tl w N T M y L S) (e : L = L') : Tl w N T M y L' S := e ▸ h
theorem tlI_zero : TlI 0 := by
  intro p b o ue us u g D d N T M y L S w hw hc hL hP hS hn hB hf hE hT
  have HT : Hid (∃ y', Tl w N T M y' (L ++ planT 0 p) (fun a => S a ∨ a = ⟨b, o, none⟩ ∨ a.block ∈ g)) := ⟨y, by simp only [planT, List.append_nil]; exact hT.mono fun a ha => .inl ha⟩
  clear hL hE hw hT hP hS hc hB
  go_enter Tryd.func16, Tryd.ntmps16
  go_wp2
  refine bodyPost_ret (results_none rfl _ _ _) rfl ?_
  exact ⟨rfl, HT.out, Below.refl _ _⟩
/-- what the loop over the kids has told: the keys. -/
def Sk (S : Addr → Prop) (b o kb ko : Nat) (G : List (List Nat)) (k : Nat) : Addr → Prop := fun a => (S a ∨ a = ⟨b, o, none⟩) ∨ ∃ j, j < k ∧ (a = ⟨kb, ko + j * 12, none⟩ ∨ ∃ g, G[j]? = some g ∧ a.block ∈ g)
theorem Sk.next {S : Addr → Prop} {b o kb ko : Nat} {G : List (List Nat)} {k : Nat} {g : List Nat} (hg : G[k]? = some g) : ∀ a, (Sk S b o kb ko G k a ∨ a = ⟨kb, ko + k * 12, none⟩ ∨ a.block ∈ g) → Sk S b o kb ko G (k + 1) a := by
  rintro a ((h | ⟨j, hj, h⟩) | h | h)
  · exact .inl h
  · exact .inr ⟨j, by omega, h⟩
  · exact .inr ⟨k, by omega, .inl h⟩
  · exact .inr ⟨k, by omega, .inr ⟨g, hg, h⟩⟩
theorem Sk.free {S : Addr → Prop} {b o kb ko : Nat} {G : List (List Nat)} {k : Nat} {g F : List Nat} (hg : G[k]? = some g) (hsub : ∀ x ∈ kb :: G.flatten, x ∈ F) (hS : ∀ a, S a → a.block ∉ F) (hb : b ∉ F) (hnd : (kb :: G.flatten).Nodup) : ∀ a, Sk S b o kb ko G k a → a ≠ ⟨kb, ko + k * 12, none⟩ ∧ a.block ∉ g := by
  obtain ⟨hkb, hnd⟩ := List.nodup_cons.1 hnd
  have hgm : ∀ x ∈ g, x ∈ G.flatten := fun x hx => List.mem_flatten.2 ⟨g, List.mem_of_getElem? hg, hx⟩
  have hdis : ∀ (j : Nat) (g' : List Nat), G[j]? = some g' → j ≠ k → ∀ x ∈ g', x ∉ g := by
    intro j g' hg' hne x hx hx'
    have hp := (List.pairwise_flatten.1 hnd).2
    rw [List.pairwise_iff_getElem] at hp
    obtain ⟨hj, rfl⟩ := List.getElem?_eq_some_iff.1 hg'
    obtain ⟨hk, rfl⟩ := List.getElem?_eq_some_iff.1 hg
    rcases Nat.lt_or_gt_of_ne hne with h | h
    · exact hp j k hj hk h x hx x hx' rfl
    · exact hp k j hk hj h x hx' x hx rfl
  rintro a ((h | rfl) | ⟨j, hj, rfl | ⟨g', hg', h⟩⟩)
  · refine ⟨?_, fun hx => hS a h (hsub _ (List.mem_cons_of_mem _ (hgm _ hx)))⟩
    rintro rfl
    exact hS _ h (hsub _ List.mem_cons_self)
  · refine ⟨?_, fun hx => hb (hsub _ (List.mem_cons_of_mem _ (hgm _ hx)))⟩
    intro e
    injection e with e1
    exact hb (e1 ▸ hsub _ List.mem_cons_self)
  · refine ⟨?_, fun hx => hkb (hgm _ hx)⟩
    intro e
    injection e with _ e2
    omega
  · refine ⟨?_, hdis j g' hg' (by omega) _ h⟩
    rintro rfl
    exact hkb (List.mem_flatten.2 ⟨g', List.mem_of_getElem? hg', h⟩)
theorem Sk.all {S : Addr → Prop} {b o kb ko : Nat} {G : List (List Nat)} {k : Nat} {F : List Nat} (hsub : ∀ x ∈ kb :: G.flatten, x ∈ F) : ∀ a, Sk S b o kb ko G k a → S a ∨ a = ⟨b, o, none⟩ ∨ a.block ∈ F := by
  rintro a ((h | h) | ⟨j, _, rfl | ⟨g', hg', h⟩⟩)
  · exact .inl h
  · exact .inr (.inl h)
  · exact .inr (.inr (hsub _ List.mem_cons_self))
  · exact .inr (.inr (hsub _ (List.mem_cons_of_mem _ (List.mem_flatten.2 ⟨g', List.mem_of_getElem? hg', h⟩))))
/-- the texts of the first kids, as they are told: with a comma and a blank ahead of each but the first. -/
theorem join_more (f : Nat) (ks : List P12) (k : Nat) (x : P12) (hx : ks[k]? = some x) : Lib.join ((ks.take (k + 1)).map (planT f)) [44, 32] = Lib.join ((ks.take k).map (planT f)) [44, 32] ++ ((if k = 0 then [] else [44, 32]) ++ planT f x) := by
  rw [ks_take hx, join_push]
  obtain ⟨hk, _⟩ := List.getElem?_eq_some_iff.1 hx
  by_cases h0 : k = 0
  · subst h0; simp [Lib.join_nil]
  · rw [if_neg (by simp only [List.map_eq_nil_iff, List.take_eq_nil_iff]; rintro (h | h); exact h0 h; rw [h] at hk; simp at hk), if_neg h0]
/-- how long the texts of the first kids are. -/
theorem joinK_len {f : Nat} {p : P12} {w : World} {D d : Nat} {ue us u : Value} {g : List Nat} (hL : ListsP w D (PlansIs w D d) p ue us u g) (k : Nat) (hk : k ≤ p.ks.length) : (Lib.join ((p.ks.take k).map (planT f)) [44, 32]).length ≤ 4000000 * (k + wtPs (p.ks.take k)) := by
  obtain ⟨Fe, Fs, h, rfl, ke, kes, kp⟩ := hL
  obtain ⟨d', rfl⟩ := succP kp
  have h1 := ks_sum (planT f) 4000000 (p.ks.take k) (fun k hk => by
    obtain ⟨kw, a1, a2, a3, a4, a5⟩ := kidP_of kp (List.mem_of_mem_take hk)
    exact planT_len f k w D d' a1 a2 a3 a4 kw a5)
  rw [List.length_take, Nat.min_eq_left hk] at h1
  exact Nat.le_trans (join_sum _ _) h1
theorem wtPs_le (ps : List P12) (k : Nat) : wtPs (ps.take k) ≤ wtPs ps := by
  conv => rhs; rw [← List.take_append_drop k ps]
  rw [wtPs_app]
  omega
set_option maxHeartbeats 4000000 in
set_option maxRecDepth 100000 in
theorem tlI_0 {f : Nat} (ih : TlI f) {p : P12} {b o : Nat} {ue us u : Value} {g : List Nat} {D d N T M : Nat} {y : Value} {L : List UInt8} {S : Addr → Prop} {w : World} (hw : p.wf) (hc : cellsP w b o p ue us u) (hL : ListsP w D (PlansIs w D d) p ue us u g) (hP : Pb w N b g) (hS : ∀ a, S a → a ≠ ⟨b, o, none⟩ ∧ a.block ∉ g) (hn : wtP p ≤ 1048576) (hB : L.length + 4000000 * (1 + wtP p) ≤ 10000000000000) (hf : f + 1 ≤ 21) (hE : ∀ w2, Below N w w2 → Env w2) (hT : Tl w N T M y L S) (h0 : p.k = 0) :
    Calls Tryd.prog 16 #[.pointer (some ⟨T, 0, none⟩), .pointer (some ⟨b, o, none⟩), .int .i64 (21 - ((f + 1 : Nat) : Int))] w fun x w' => x = .returned (.tuple #[]) ∧ (∃ y', Tl w' N T M y' (L ++ planT (f + 1) p) (fun a => S a ∨ a = ⟨b, o, none⟩ ∨ a.block ∈ g)) ∧ Below N w w' := by
  have HR : Hid (planT (f + 1) p = p.s.data.toList) := planT_0 h0
  have hsz : p.s.size ≤ 1048576 := by have := wtP_eq p; omega
  have k0 : (p.k == 0) = true := by rw [h0]; rfl
  have hNw : N ≤ w.heap.size := by have := hT.ltT; have := hT.tN; omega
  have hbN : b < N := (hP.2 b List.mem_cons_self).1
  have hAg := again_any N T M y L S b o w hT hbN (cellsP_fr hc (hP.2 b List.mem_cons_self).2) (fun a ha => (hS a ha).1) (by omega)
  have hgN : ∀ x ∈ g, x < N := fun x hx => (hP.2 x (List.mem_cons_of_mem _ hx)).1
  obtain ⟨dd, HD⟩ := hidT (21 - ((f + 1 : Nat) : Int))
  rw [HD.out]
  have hd0 : 0 ≤ dd := by have := HD.out; omega
  have hd2 : dd ≤ 20 := by have := HD.out; omega
  go_enter Tryd.func16, Tryd.ntmps16
  go_wp2_with fail
  refine Calls.mono hAg ?_
  rintro x w1 ⟨rfl, hT1, hb1⟩
  clear hAg hT
  have hz1 := hb1.size
  have hc1 := hc.keep (hb1.block b hbN)
  obtain ⟨c0, c1, c2, c3, c4, c5, c6, c7, c8, c9, c10, c11⟩ := hc1
  obtain ⟨a_e, a_E, a_s, a_S, a_k, a_K, rfl, rfl, rfl, _, _, _, _, _, _⟩ := hL.shape
  have hpt := fun w2 (hb2 : Below w1.heap.size w1 w2) (htb : w2.heap[w1.heap.size]? = some (.cells #[.string p.s] 9 (0, 0))) => tput_any N T M y L _ [p.s.data.toList] w1.heap.size 1 1 w2 (hT1.below hb2) (by simpa [bs_of] using htb) rfl (by simp; have : p.s.data.size = p.s.size := rfl; omega) (by omega) (by omega)
  clear hL hE hP hS hw ih hc
  go_wp2_with fail
  refine Calls.mono (hpt _ ?hb ?ht) ?_
  case hb => repeat (first | (with_reducible exact Below.refl _ _) | (with_reducible refine Below.drew ?_) | (with_reducible refine Below.alloc ?_ ?hh _; case hh => first | (simp; done) | (simp; omega) | omega) | (with_reducible refine Below.setCell ?_ ?hh _; case hh => first | (simp; done) | (simp; omega) | omega) | refine bstep (by assumption) (by first | (simp; done) | (simp; omega) | omega) ?_)
  case ht => exact heap_alloc_new _ _
  rintro x w2 ⟨rfl, ⟨y2, hT2⟩, hb2⟩
  have bel2 : Below N w w2 := (hb1.alloc (by omega) _).trans hb2
  clear hpt hT1
  go_wp2
  refine bodyPost_ret (results_none rfl _ _ _) rfl ?_
  refine ⟨rfl, ⟨y2, ?_⟩, bel2⟩
  rw [HR.out]
  exact (hT2.eqL (by simp)).mono fun a ha => ha.elim .inl (fun h => .inr (.inl h))
set_option maxHeartbeats 4000000 in
set_option maxRecDepth 100000 in
theorem tlI_x {f : Nat} (ih : TlI f) {p : P12} {b o : Nat} {ue us u : Value} {g : List Nat} {D d N T M : Nat} {y : Value} {L : List UInt8} {S : Addr → Prop} {w : World} (hw : p.wf) (hc : cellsP w b o p ue us u) (hL : ListsP w D (PlansIs w D d) p ue us u g) (hP : Pb w N b g) (hS : ∀ a, S a → a ≠ ⟨b, o, none⟩ ∧ a.block ∉ g) (hn : wtP p ≤ 1048576) (hB : L.length + 4000000 * (1 + wtP p) ≤ 10000000000000) (hf : f + 1 ≤ 21) (hE : ∀ w2, Below N w w2 → Env w2) (hT : Tl w N T M y L S) (h0 : ¬ p.k = 0) (h1 : ¬ p.k = 1) (h2 : ¬ p.k = 2) (h3 : ¬ p.k = 3) (h4 : ¬ p.k = 4) (h5 : ¬ p.k = 5) (h6 : ¬ p.k = 6) :
    Calls Tryd.prog 16 #[.pointer (some ⟨T, 0, none⟩), .pointer (some ⟨b, o, none⟩), .int .i64 (21 - ((f + 1 : Nat) : Int))] w fun x w' => x = .returned (.tuple #[]) ∧ (∃ y', Tl w' N T M y' (L ++ planT (f + 1) p) (fun a => S a ∨ a = ⟨b, o, none⟩ ∨ a.block ∈ g)) ∧ Below N w w' := by
  have HR : Hid (planT (f + 1) p = []) := planT_x h0 h1 h2 h3 h4 h5 h6
  have k0 : (p.k == 0) = false := by simpa using h0
  have k1 : (p.k == 1) = false := by simpa using h1
  have k2 : (p.k == 2) = false := by simpa using h2
  have k3 : (p.k == 3) = false := by simpa using h3
  have k4 : (p.k == 4) = false := by simpa using h4
  have k5 : (p.k == 5) = false := by simpa using h5
  have k6 : (p.k == 6) = false := by simpa using h6
  have hNw : N ≤ w.heap.size := by have := hT.ltT; have := hT.tN; omega
  have hbN : b < N := (hP.2 b List.mem_cons_self).1
  have hAg := again_any N T M y L S b o w hT hbN (cellsP_fr hc (hP.2 b List.mem_cons_self).2) (fun a ha => (hS a ha).1) (by omega)
  have hgN : ∀ x ∈ g, x < N := fun x hx => (hP.2 x (List.mem_cons_of_mem _ hx)).1
  obtain ⟨dd, HD⟩ := hidT (21 - ((f + 1 : Nat) : Int))
  rw [HD.out]
  have hd0 : 0 ≤ dd := by have := HD.out; omega
  have hd2 : dd ≤ 20 := by have := HD.out; omega
  go_enter Tryd.func16, Tryd.ntmps16
  go_wp2_with fail
  refine Calls.mono hAg ?_
  rintro x w1 ⟨rfl, hT1, hb1⟩
  clear hAg hT
  have hz1 := hb1.size
  have hc1 := hc.keep (hb1.block b hbN)
  obtain ⟨c0, c1, c2, c3, c4, c5, c6, c7, c8, c9, c10, c11⟩ := hc1
  clear hL hE hP hS hw ih h0 h1 h2 h3 h4 h5 h6 hc
  go_wp2
  refine bodyPost_ret (results_none rfl _ _ _) rfl ?_
  refine ⟨rfl, ⟨y, ?_⟩, hb1⟩
  rw [HR.out]
  exact (hT1.eqL (by simp)).mono fun a ha => ha.elim .inl (fun h => .inr (.inl h))
end Go.Proofs.YtlpgkhdmilnbgaaDoor
