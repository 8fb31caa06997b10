/- Own text. The contract of spec.l04Exps. -/
import Derived.Test.YtlpgkhdmilnbgaaDoorPtP
import Derived.Test.YtlpgkhdmilnbgaaDoorExtS
import Derived.Handy
namespace Go.Proofs.YtlpgkhdmilnbgaaDoor
open Go.RowKit
set_option linter.unusedVariables false
/-- what is told of expressions, the first k of them. -/
def lstP (es : List E7) (k : Nat) : List UInt8 := 91 :: Lib.join (esTs (es.take k)) [44, 32]
theorem lstP_next {es : List E7} {k : Nat} {x : E7} (h : es[k]? = some x) : lstP es (k + 1) = if k = 0 then lstP es k ++ expText x else lstP es k ++ ([44, 32] ++ expText x) := by
  unfold lstP
  rw [esTs_take h, join_push]
  have hk := (List.getElem?_eq_some_iff.1 h).1
  by_cases h0 : k = 0
  · subst h0
    rw [if_pos (by simp [esTs]), if_pos rfl]
    simp [esTs, Lib.join_nil]
  · have hne : esTs (es.take k) ≠ [] := by
      intro e
      have := congrArg List.length e
      simp [esTs] at this
      rcases this with h | h
      · omega
      · rw [h] at hk; simp at hk
    rw [if_neg hne, if_neg h0]
    rfl
set_option maxHeartbeats 4000000 in
set_option maxRecDepth 100000 in
theorem l04Exps_any (v : Value) (es : List E7) (F : List Nat) (d : Nat) (w : World) (hr : KidsIs w d v es F) (hn : es.length ≤ 1048576) (hE : Env w) :
    Calls Tryd.prog 23 #[v] w fun e w' => e = .returned (.string (bs (lstT es))) ∧ Below w.heap.size w w' := by
  obtain ⟨r, HR⟩ := hidE (bs (lstT es))
  rw [HR.out]
  have hjl := joinE_len hr
  have hxl := esT_len hr
  obtain ⟨d, rfl⟩ := succX hr
  obtain ⟨a, c, b, o, G, rfl, hl, hc, hG, _, ha⟩ := hr.pick
  unfold maxLen at hc
  have HE : Hid (Env w) := hE
  clear hr hE
  go_enter Tryd.func23, Tryd.ntmps23
  go_wp2
  go_loopw [3, 4] (fun y i wr => ∃ (k : Nat) (x : ByteArray), k ≤ es.length ∧ i = .int .i64 k ∧ y = .string x ∧ x = bs (lstP es k) ∧ Below w.heap.size w wr) (fun _ i _ => es.length - (intOf i).toNat)
  case atStart => exact ⟨0, _, Nat.zero_le _, rfl, rfl, rfl, by go_grown⟩
  case round =>
    obtain ⟨k, z, hk, rfl, rfl, hz, hb⟩ := hrel
    have hzb := hb.size
    have HZ : Hid (z = bs (lstP es k)) := hz
    have hj := hjl k
    have hzs : z.size ≤ 5000000000000 := by rw [HZ.out, bs_size]; unfold lstP; rw [List.length_cons]; omega
    clear hz hj
    by_cases hlt : k < es.length
    · obtain ⟨rfl, hblt, _, hL⟩ := ha k hlt
      obtain ⟨x, g, u, hx, hg, hxw, ⟨c0, c1, c2, c3, c4, c5⟩, c6, hK, hbr⟩ := hL.at hG hblt hb hlt
      obtain ⟨ax, cx, rfl, _, _⟩ := hK.shape
      have HX := lstP_next hx
      have hxt := hxl x (List.mem_of_getElem? hx)
      have hV := fun w2 (hb2 : Below wr.heap.size wr w2) => specExpText_any x _ g d w2 hxw (hK.below hb2) (HE.out.below (hb.trans (hb2.mono hzb)))
      obtain ⟨t1, H1⟩ := hidE (bs (expText x))
      rw [H1.out] at hV
      have hs1 : t1.size ≤ 2539520 := by rw [← H1.out, bs_size]; exact hxt
      by_cases hk0 : k = 0
      · subst hk0
        rw [if_pos rfl] at HX
        have HF : Hid (z ++ t1 = bs (lstP es (0 + 1))) := by
          show _ = _
          rw [HX, HZ.out, ← H1.out, bs_app]
        simp only [Nat.zero_mul, Nat.add_zero] at c0 c1 c2 c3 c4 c5 c6
        clear ha hL hx hxw hK hg HX H1 hjl hxl hxt
        go_wp2_with fail
        refine Calls.mono (hV _ (Below.refl _ _)) ?_
        rintro e w1 ⟨rfl, hb1⟩
        have bel1 : Below w.heap.size w w1 := hb.trans (hb1.mono hzb)
        clear hV hb1 c0 c1 c2 c3 c4 c5 c6
        go_wp2_with fail
        exact ⟨⟨0 + 1, _, hlt, by simp, rfl, HF.out, bel1⟩, by simp [intOf]; omega⟩
      · rw [if_neg hk0] at HX
        have hkp : (0 : Int) < (k : Int) := by omega
        have hzc : (z ++ (⟨#[44, 32]⟩ : ByteArray)).size ≤ 5000000000002 := by rw [ByteArray.size_append]; have : (⟨#[44, 32]⟩ : ByteArray).size = 2 := rfl; omega
        have HF : Hid ((z ++ (⟨#[44, 32]⟩ : ByteArray)) ++ t1 = bs (lstP es (k + 1))) := by
          show _ = _
          rw [HX, HZ.out, ← H1.out, show (⟨#[44, 32]⟩ : ByteArray) = bs [44, 32] from rfl, bs_app, bs_app, List.append_assoc]
        clear ha hL hx hxw hK hg HX H1 hjl hxl hxt
        go_wp2_with fail
        refine Calls.mono (hV _ (Below.refl _ _)) ?_
        rintro e w1 ⟨rfl, hb1⟩
        have bel1 : Below w.heap.size w w1 := hb.trans (hb1.mono hzb)
        clear hV hb1 c0 c1 c2 c3 c4 c5 c6
        go_wp2_with fail
        exact ⟨⟨k + 1, _, hlt, by simp, rfl, HF.out, bel1⟩, by simp [intOf]; omega⟩
    · obtain rfl : k = es.length := by omega
      have HF : Hid (z ++ (⟨#[93]⟩ : ByteArray) = r) := by
        show _ = _
        rw [← HR.out, HZ.out, show (⟨#[93]⟩ : ByteArray) = bs [93] from rfl, bs_app]
        unfold lstP lstT
        rw [List.take_length]
        rfl
      clear ha hjl hxl
      go_wp2
      go_returns
      exact ⟨by rw [← HF.out]; rfl, hb⟩
end Go.Proofs.YtlpgkhdmilnbgaaDoor
