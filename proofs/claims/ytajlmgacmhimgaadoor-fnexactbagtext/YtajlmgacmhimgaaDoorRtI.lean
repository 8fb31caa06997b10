/- Own text. The contract of impl.rowText. -/
import Derived.Test.YtajlmgacmhimgaaDoorBtP
import Derived.Test.YtajlmgacmhimgaaDoorVtI
import Derived.Handy
namespace Go.Proofs.YtajlmgacmhimgaaDoor
open Go.RowKit Go.ChangeShapes Go.WideShapes
set_option linter.unusedVariables false
set_option maxHeartbeats 2000000 in
set_option maxRecDepth 100000 in
theorem rowText_any (v : Value) (vs : List V3) (w : World) (hr : RowIs w v vs) (hw : VsWf vs) (hn : vs.length ≤ 1048576) (hE : Env w) :
    Calls Tryd.prog 40 #[v] w fun e w' => e = .returned (.string (bs (rowT vs))) ∧ Below w.heap.size w w' := by
  obtain ⟨i0, hi, hz0, hz1, hz2⟩ := info_parts Tryd.infoT
  obtain ⟨a, c, b, o, rfl, hl, hc, ha⟩ := hr.pick
  unfold maxLen at hc
  have HE : Hid (Env w) := hE
  clear hr hE
  have hT0 := TxtsAt.new (w := w) (N := w.heap.size) rfl (Nat.le_refl _)
  go_enter Tryd.func40, Tryd.ntmps40
  go_wp2
  go_loopw [3, 9] (fun y i wr => ∃ k yb yc : Nat, k ≤ vs.length ∧ i = .int .i64 k ∧ y = .slice (some ⟨yb, 0, none⟩) k yc ∧ TxtsAt wr w.heap.size yb yc k (rowTs (vs.take k)) ∧ Below w.heap.size w wr) (fun _ i _ => vs.length - (intOf i).toNat)
  case atStart => exact ⟨0, w.heap.size, 0, Nat.zero_le _, rfl, rfl, hT0, by go_grown⟩
  case round =>
    obtain ⟨k, yb, yc, hk, rfl, rfl, hT, hb⟩ := hrel
    have hzb := hb.size
    by_cases hlt : k < vs.length
    · obtain ⟨rfl, hblt, hL⟩ := ha k hlt
      obtain ⟨x, hx, c0, c1, c2, hbr⟩ := hL.at hblt hb hlt
      have hxw := hw x (List.mem_of_getElem? hx)
      obtain ⟨n0, n1⟩ := wf64T x.n hxw.2.1
      have HX : Hid (rowTs (vs.take (k + 1)) = rowTs (vs.take k) ++ [vt x.k x.n x.s]) := rowTs_take hx
      have hV := fun w2 (hb2 : Below w.heap.size w w2) => implVt_any x.k x.n x.s w2 hxw.2.2 n0 n1 (HE.out.below hb2)
      have hbx : Below wr.heap.size wr (wr.alloc (.cells #[.int .i64 x.k, .int .i64 x.n, .string x.s] 26)) := (Below.refl _ _).alloc (Nat.le_refl _) _
      have hbx2 : Below w.heap.size w (wr.alloc (.cells #[.int .i64 x.k, .int .i64 x.n, .string x.s] 26)) := hb.trans (hbx.mono hzb)
      clear ha hL hx hw hxw n0 n1
      go_wp2_with fail
      refine Calls.mono (hV _ hbx2) ?_
      rintro e w1 ⟨rfl, hb1⟩
      have bel1 : Below w.heap.size w w1 := hbx2.trans (hb1.mono hbx2.size)
      have hT1 : TxtsAt w1 w.heap.size yb yc k (rowTs (vs.take k)) := (hT.below hbx).below hb1
      have hz1' := bel1.size
      generalize vt x.k x.n x.s = l at *
      generalize rowTs (vs.take k) = ls at *
      have hnew := txt_new w1 l
      have hO1 := (hT1.alloc (.cells #[.string (bs l)] 9)).1
      clear hV hb1 hbx hbx2 hT c0 c1 c2
      go_wp2_with (at_builtin; refine wpList_append_own_at _ rfl _ _ 118 rfl w.heap.size 9 i0 _ 1 16 Tryd.underlying118 hi hz0 hz1 hz2 rfl (by decide) (.slice (some ⟨yb, 0, none⟩) k yc) k (strL ls) rfl hO1 ⟨w1.heap.size, 0, none⟩ 1 1 [.string (bs l)] rfl rfl hnew (by simp [Value.oneCell']) ?c3 ?c4 ?c5 ?_)
      case c3 => unfold maxLen; omega
      case c4 => omega
      case c5 => simp; omega
      intro v5 w5 hown5 hgr5 _ _
      obtain ⟨b5, c5, rfl, hT5⟩ := TxtsAt.push (w := w1) hT1.2 hown5
      have hlt1 := hT1.lt
      have bel5 : Below w.heap.size w w5 := (bel1.alloc hz1' _).grown hgr5 (by simp; omega) (fun q hq => by simp [Value.ownBlock] at hq; omega)
      rw [← HX.out] at hT5
      clear hown5 hgr5 hO1 hnew hT1
      go_wp2
      exact ⟨⟨k + 1, b5, c5, hlt, by simp, rfl, hT5, bel5⟩, by simp [intOf]; omega⟩
    · obtain rfl : k = vs.length := by omega
      rw [List.take_length] at hT
      have hJ := joinT_any w.heap.size yb yc vs.length (rowTs vs) ⟨#[44]⟩ wr 202 hT (rowTs_le vs hw) (by show (202 + 1) * vs.length ≤ _; omega) (by omega)
      clear ha hw
      go_wp2_with fail
      refine Calls.mono hJ ?_
      rintro e w1 ⟨rfl, hb1⟩
      have bel1 : Below w.heap.size w w1 := hb.trans (hb1.mono hzb)
      clear hJ hb1 hT
      go_wp2
      go_returns
      exact ⟨rfl, bel1⟩
end Go.Proofs.YtajlmgacmhimgaaDoor
