/- Own text. The contract of impl.kidsText, of planTextAt's. -/
import Derived.Test.YtajlmgacmhimgaaDoorPtP
import Derived.Test.YtajlmgacmhimgaaDoorVtI
import Derived.Handy
namespace Go.Proofs.YtajlmgacmhimgaaDoor
open Go.RowKit Go.ChangeShapes Go.WideShapes
set_option linter.unusedVariables false
/-- planTextAt of a plan where f levels are told. -/
def TpI (f : Nat) : Prop := ∀ (p : P12) (ue us u : Value) (g : List Nat) (D d : Nat) (w : World), p.wf → ListsP w D (PlansIs w D d) p ue us u g → wtP p ≤ 1048576 → f ≤ 21 → Env w →
    Calls Tryd.prog 54 #[(.agg #[.int .i64 p.k, .string p.s, .int .i64 p.e.k, .int .i64 p.e.n, .int .i64 p.e.v.k, .int .i64 p.e.v.n, .string p.e.v.s, .string p.e.p, ue, us, .int .i64 p.n, u]), .int .i64 (21 - (f : Int))] w fun x w' => x = .returned (.string (bs (planT f p))) ∧ Below w.heap.size w w'
set_option maxHeartbeats 4000000 in
set_option maxRecDepth 100000 in
theorem kidsText_any {f : Nat} (ih : TpI f) (p : P12) (ue us u : Value) (g : List Nat) (D d : Nat) (w : World) (hL0 : ListsP w D (PlansIs w D d) p ue us u g) (hn : wtP p ≤ 1048576) (hf : f + 1 ≤ 21) (hE : Env w) :
    Calls Tryd.prog 75 #[(.agg #[.int .i64 p.k, .string p.s, .int .i64 p.e.k, .int .i64 p.e.n, .int .i64 p.e.v.k, .int .i64 p.e.v.n, .string p.e.v.s, .string p.e.p, ue, us, .int .i64 p.n, u]), .int .i64 (21 - ((f + 1 : Nat) : Int))] w fun e w' => e = .returned (.string (bs (ksT f p))) ∧ Below w.heap.size w w' := by
  obtain ⟨i0, hi, hz0, hz1, hz2⟩ := info_parts Tryd.infoT
  obtain ⟨r, HR⟩ := hidE (bs (ksT f p))
  rw [HR.out]
  have hjl := ksT_len' (planT_len f) hL0
  have hwt := wtP_eq p
  obtain ⟨a_e, a_E, a_s, a_S, a_k, a_K, rfl, rfl, rfl, _, _, _, _, _, _⟩ := hL0.shape
  obtain ⟨Fe, Fs, h, rfl, ke, kes, kp⟩ := hL0
  obtain ⟨d, rfl⟩ := succP kp
  obtain ⟨a, c, b, o, G, e0, hl, hc, hG, _, ha⟩ := kp.pick
  injection e0 with e1 e2 e3
  subst e1 e3
  unfold maxLen at hc
  have HE : Hid (Env w) := hE
  obtain ⟨dd, HD⟩ := hidE (21 - ((f + 1 : Nat) : Int))
  rw [HD.out]
  have hd1 : dd + 1 = 21 - (f : Int) := by have := HD.out; omega
  have hd0 : 0 ≤ dd := by have := HD.out; omega
  have hd2 : dd ≤ 20 := by have := HD.out; omega
  have hI := fun x ux1 ux2 ux3 g w2 hw2 hL2 hn2 hE2 => ih x ux1 ux2 ux3 g D d w2 hw2 hL2 hn2 (by omega) hE2
  rw [← hd1] at hI
  clear hd1 ke kes hE
  have hT0 := TxtsAt.new (w := w.alloc (.cells #[.int .i64 p.k, .string p.s, .int .i64 p.e.k, .int .i64 p.e.n, .int .i64 p.e.v.k, .int .i64 p.e.v.n, .string p.e.v.s, .string p.e.p, .slice a_e p.e.ks.length a_E, .slice a_s p.es.length a_S, .int .i64 p.n, .slice a_k p.ks.length a_K] 60)) (N := w.heap.size) (by simp : _ = w.heap.size + 1) (by omega)
  go_enter Tryd.func75, Tryd.ntmps75
  go_wp2
  go_loopw [5, 12] (fun y i wr => ∃ k yb yc : Nat, k ≤ p.ks.length ∧ i = .int .i64 k ∧ y = .slice (some ⟨yb, 0, none⟩) k yc ∧ TxtsAt wr w.heap.size yb yc k ((p.ks.take k).map (planT f)) ∧ Below w.heap.size w wr) (fun _ i _ => p.ks.length - (intOf i).toNat)
  case atStart => exact ⟨0, w.heap.size + 1, 0, Nat.zero_le _, rfl, rfl, hT0, by go_grown⟩
  case round =>
    obtain ⟨k, yb, yc, hk, rfl, rfl, hT, hb⟩ := hrel
    have hzb := hb.size
    by_cases hlt : k < p.ks.length
    · obtain ⟨rfl, hblt, _, hL⟩ := ha k hlt
      obtain ⟨x, g, ue, us, u, hx, hg, hxw, ⟨c0, c1, c2, c3, c4, c5, c6, c7, c8, c9, c10, c11⟩, hLx, hbr⟩ := hL.at hG hblt hb hlt
      obtain ⟨x_e, x_E, x_s, x_S, x_k, x_K, rfl, rfl, rfl, _, _, _, _, _, _⟩ := hLx.shape
      have HX : Hid ((p.ks.take (k + 1)).map (planT f) = (p.ks.take k).map (planT f) ++ [planT f x]) := ks_take hx
      have hxn : wtP x ≤ 1048576 := by have := wtP_mem (List.mem_of_getElem? hx); omega
      have hV := fun w2 (hb2 : Below wr.heap.size wr w2) => hI x _ _ _ g w2 hxw (hLx.below hb2) hxn (HE.out.below (hb.trans (hb2.mono hzb)))
      have hbx : Below wr.heap.size wr (wr.alloc (.cells #[.int .i64 x.k, .string x.s, .int .i64 x.e.k, .int .i64 x.e.n, .int .i64 x.e.v.k, .int .i64 x.e.v.n, .string x.e.v.s, .string x.e.p, .slice x_e x.e.ks.length x_E, .slice x_s x.es.length x_S, .int .i64 x.n, .slice x_k x.ks.length x_K] 60)) := (Below.refl _ _).alloc (Nat.le_refl _) _
      clear ha hL hx hxw hLx hg hI hxn
      go_wp2_with fail
      refine Calls.mono (hV _ hbx) ?_
      rintro e w1 ⟨rfl, hb1⟩
      have bel1 : Below w.heap.size w w1 := hb.trans ((hbx.trans (hb1.mono hbx.size)).mono hzb)
      have hT1 : TxtsAt w1 w.heap.size yb yc k ((p.ks.take k).map (planT f)) := (hT.below hbx).below hb1
      have hz1' := bel1.size
      generalize planT f x = l at *
      generalize (p.ks.take k).map (planT f) = ls at *
      have hnew := txt_new w1 l
      have hO1 := (hT1.alloc (.cells #[.string (bs l)] 9)).1
      clear hV hb1 hbx hT c0 c1 c2 c3 c4 c5 c6 c7 c8 c9 c10 c11
      go_wp2_with (at_builtin; refine wpList_append_own_at _ rfl _ _ 118 rfl w.heap.size 9 i0 _ 1 16 Tryd.underlying118 hi hz0 hz1 hz2 rfl (by decide) (.slice (some ⟨yb, 0, none⟩) k yc) k (strL ls) rfl hO1 ⟨w1.heap.size, 0, none⟩ 1 1 [.string (bs l)] rfl rfl hnew (by simp [Value.oneCell']) ?c3 ?c4 ?c5 ?_)
      case c3 => unfold maxLen; omega
      case c4 => omega
      case c5 => simp; omega
      intro v5 w5 hown5 hgr5 _ _
      obtain ⟨b5, c5, rfl, hT5⟩ := TxtsAt.push (w := w1) hT1.2 hown5
      have hlt1 := hT1.lt
      have bel5 : Below w.heap.size w w5 := (bel1.alloc hz1' _).grown hgr5 (by simp; omega) (fun q hq => by simp [Value.ownBlock] at hq; omega)
      rw [← HX.out] at hT5
      clear hown5 hgr5 hO1 hnew hT1
      go_wp2
      exact ⟨⟨k + 1, b5, c5, hlt, by simp, rfl, hT5, bel5⟩, by simp [intOf]; omega⟩
    · obtain rfl : k = p.ks.length := by omega
      rw [List.take_length] at hT
      have hJ := joinL_any w.heap.size yb yc p.ks.length (p.ks.map (planT f)) ⟨#[44, 32]⟩ wr hT (by show (ksT f p).length ≤ _; omega) (by omega)
      have hJ2 : Calls Tryd.prog 69 #[.slice (some ⟨yb, 0, none⟩) p.ks.length yc, .string ⟨#[44, 32]⟩] wr fun e w' => e = .returned (.string r) ∧ Below wr.heap.size wr w' := by
        rw [← HR.out]
        exact hJ
      clear ha hJ hI
      go_wp2_with fail
      refine Calls.mono hJ2 ?_
      rintro e w1 ⟨rfl, hb1⟩
      have bel1 : Below w.heap.size w w1 := hb.trans (hb1.mono hzb)
      clear hJ2 hb1 hT
      go_wp2
      go_returns
      exact ⟨rfl, bel1⟩
end Go.Proofs.YtajlmgacmhimgaaDoor
