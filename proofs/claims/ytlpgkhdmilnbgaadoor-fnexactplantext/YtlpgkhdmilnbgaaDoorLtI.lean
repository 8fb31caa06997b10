/- Own text. The contract of impl.listText. -/
import Derived.Test.YtlpgkhdmilnbgaaDoorPtP
import Derived.Test.YtlpgkhdmilnbgaaDoorExtI
import Derived.Handy
namespace Go.Proofs.YtlpgkhdmilnbgaaDoor
open Go.RowKit Go.ChangeShapes Go.WideShapes
set_option linter.unusedVariables false
set_option maxHeartbeats 4000000 in
set_option maxRecDepth 100000 in
theorem listText_any (v : Value) (es : List E7) (F : List Nat) (d : Nat) (w : World) (hr : KidsIs w d v es F) (hn : es.length ≤ 1048576) (hE : Env w) :
    Calls Tryd.prog 29 #[v] w fun e w' => e = .returned (.string (bs (lstT es))) ∧ Below w.heap.size w w' := by
  obtain ⟨i0, hi, hz0, hz1, hz2⟩ := info_parts Tryd.infoT
  obtain ⟨r, HR⟩ := hidE (bs (lstT es))
  rw [HR.out]
  have hjl := joinE_len hr es.length
  rw [List.take_length] at hjl
  obtain ⟨d, rfl⟩ := succX hr
  obtain ⟨a, c, b, o, G, rfl, hl, hc, hG, _, ha⟩ := hr.pick
  unfold maxLen at hc
  have HE : Hid (Env w) := hE
  clear hr hE
  have hT0 := TxtsAt.new (w := w) (N := w.heap.size) rfl (Nat.le_refl _)
  go_enter Tryd.func29, Tryd.ntmps29
  go_wp2
  go_loopw [3, 9] (fun y i wr => ∃ k yb yc : Nat, k ≤ es.length ∧ i = .int .i64 k ∧ y = .slice (some ⟨yb, 0, none⟩) k yc ∧ TxtsAt wr w.heap.size yb yc k (esTs (es.take k)) ∧ Below w.heap.size w wr) (fun _ i _ => es.length - (intOf i).toNat)
  case atStart => exact ⟨0, w.heap.size, 0, Nat.zero_le _, rfl, rfl, hT0, by go_grown⟩
  case round =>
    obtain ⟨k, yb, yc, hk, rfl, rfl, hT, hb⟩ := hrel
    have hzb := hb.size
    by_cases hlt : k < es.length
    · obtain ⟨rfl, hblt, _, hL⟩ := ha k hlt
      obtain ⟨x, g, u, hx, hg, hxw, ⟨c0, c1, c2, c3, c4, c5⟩, c6, hK, hbr⟩ := hL.at hG hblt hb hlt
      obtain ⟨ax, cx, rfl, _, _⟩ := hK.shape
      have HX : Hid (esTs (es.take (k + 1)) = esTs (es.take k) ++ [expText x]) := esTs_take hx
      have hV := fun w2 (hb2 : Below wr.heap.size wr w2) => implExpText_any x _ g d w2 hxw (hK.below hb2) (HE.out.below (hb.trans (hb2.mono hzb)))
      have hbx : Below wr.heap.size wr (wr.alloc (.cells #[.int .i64 x.k, .int .i64 x.n, .int .i64 x.v.k, .int .i64 x.v.n, .string x.v.s, .string x.p, .slice ax x.ks.length cx] 35)) := (Below.refl _ _).alloc (Nat.le_refl _) _
      clear ha hL hx hxw hK hg
      go_wp2_with fail
      refine Calls.mono (hV _ hbx) ?_
      rintro e w1 ⟨rfl, hb1⟩
      have bel1 : Below w.heap.size w w1 := hb.trans ((hbx.trans (hb1.mono hbx.size)).mono hzb)
      have hT1 : TxtsAt w1 w.heap.size yb yc k (esTs (es.take k)) := (hT.below hbx).below hb1
      have hz1' := bel1.size
      generalize expText x = l at *
      generalize esTs (es.take k) = ls at *
      have hnew := txt_new w1 l
      have hO1 := (hT1.alloc (.cells #[.string (bs l)] 9)).1
      clear hV hb1 hbx hT c0 c1 c2 c3 c4 c5 c6
      go_wp2_with (at_builtin; refine wpList_append_own_at _ rfl _ _ 71 rfl w.heap.size 9 i0 _ 1 16 Tryd.underlying71 hi hz0 hz1 hz2 rfl (by decide) (.slice (some ⟨yb, 0, none⟩) k yc) k (strL ls) rfl hO1 ⟨w1.heap.size, 0, none⟩ 1 1 [.string (bs l)] rfl rfl hnew (by simp [Value.oneCell']) ?c3 ?c4 ?c5 ?_)
      case c3 => unfold maxLen; omega
      case c4 => omega
      case c5 => simp; omega
      intro v5 w5 hown5 hgr5 _ _
      obtain ⟨b5, c5, rfl, hT5⟩ := TxtsAt.push (w := w1) hT1.2 hown5
      have hlt1 := hT1.lt
      have bel5 : Below w.heap.size w w5 := (bel1.alloc hz1' _).grown hgr5 (by simp; omega) (fun q hq => by simp [Value.ownBlock] at hq; omega)
      rw [← HX.out] at hT5
      clear hown5 hgr5 hO1 hnew hT1
      go_wp2
      exact ⟨⟨k + 1, b5, c5, hlt, by simp, rfl, hT5, bel5⟩, by simp [intOf]; omega⟩
    · obtain rfl : k = es.length := by omega
      rw [List.take_length] at hT
      have hJ := joinL_any w.heap.size yb yc es.length (esTs es) ⟨#[44, 32]⟩ wr hT (by show (Lib.join (esTs es) [44, 32]).length ≤ _; omega) (by omega)
      obtain ⟨t1, H1⟩ := hidE (bs (Lib.join (esTs es) [44, 32]))
      have hJ2 : Calls Tryd.prog 37 #[.slice (some ⟨yb, 0, none⟩) es.length yc, .string ⟨#[44, 32]⟩] wr fun e w' => e = .returned (.string t1) ∧ Below wr.heap.size wr w' := by
        rw [← H1.out]
        exact hJ
      have hs1 : t1.size ≤ 3000000000000 := by rw [← H1.out, bs_size]; omega
      have hs2 : ((⟨#[91]⟩ : ByteArray) ++ t1).size ≤ 3000000000001 := by rw [ByteArray.size_append]; have : (⟨#[91]⟩ : ByteArray).size = 1 := rfl; omega
      have HF : Hid (((⟨#[91]⟩ : ByteArray) ++ t1) ++ (⟨#[93]⟩ : ByteArray) = r) := by
        show _ = _
        rw [← HR.out, ← H1.out, show (⟨#[91]⟩ : ByteArray) = bs [91] from rfl, show (⟨#[93]⟩ : ByteArray) = bs [93] from rfl, bs_app, bs_app]
        rfl
      clear ha hJ H1
      go_wp2_with fail
      refine Calls.mono hJ2 ?_
      rintro e w1 ⟨rfl, hb1⟩
      have bel1 : Below w.heap.size w w1 := hb.trans (hb1.mono hzb)
      clear hJ2 hb1 hT
      go_wp2
      go_returns
      exact ⟨by rw [← HF.out]; rfl, bel1⟩
end Go.Proofs.YtlpgkhdmilnbgaaDoor
