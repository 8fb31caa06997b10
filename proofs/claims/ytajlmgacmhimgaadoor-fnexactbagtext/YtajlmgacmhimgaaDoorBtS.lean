/- Own text. The contract of spec.BagText. -/
import Derived.Test.YtajlmgacmhimgaaDoorBtP
import Derived.Test.YtajlmgacmhimgaaDoorVtS
import Derived.Test.YtajlmgacmhimgaaDoorBagC
import Derived.Test.YtajlmgacmhimgaaDoorBagOkS
import Derived.Handy
namespace Go.Proofs.YtajlmgacmhimgaaDoor
open Go.RowKit
set_option linter.unusedVariables false
theorem rowT_one (x : V3) : rowT [x] = vt x.k x.n x.s := by simp [rowT, rowTs, Lib.join_one]
theorem rowT_step {vs : List V3} {m : Nat} {x : V3} (h : vs[m]? = some x) (h0 : 0 < m) : rowT (vs.take (m + 1)) = rowT (vs.take m) ++ ([44] ++ vt x.k x.n x.s) := by
  unfold rowT
  rw [rowTs_take h, join_snoc]
  intro e
  have h1 := congrArg List.length e
  have h2 := (List.getElem?_eq_some_iff.1 h).1
  simp [rowTs] at h1
  rcases h1 with h1 | h1
  · omega
  · rw [h1] at h2; simp at h2
set_option maxHeartbeats 4000000 in
set_option maxRecDepth 100000 in
theorem specBagText_any (W : Int) (v : Value) (cs : List C2) (w : World) (hw : CsWf cs) (hr : RowsIs w v cs) :
    Calls Tryd.prog 15 #[.agg #[.int .i64 W, v]] w fun e w' => e = .returned (.string (bs (bagText W cs))) ∧ Below w.heap.size w w' := by
  obtain ⟨r, hr0⟩ : ∃ r, Hid (bagText W cs = r) := ⟨_, rfl⟩
  rw [hr0.out]
  obtain ⟨ok, hok⟩ : ∃ ok, Hid (okBag W cs = ok) := ⟨_, rfl⟩
  have hok' := hok.out
  obtain ⟨a, c, b, o, rfl, hl, hc, ha⟩ := hr.pick
  have hB0 := fun w2 (hb : Below w.heap.size w w2) => specBagOk_any W _ cs w2 hw (hr.below hb)
  rw [hok'] at hB0
  unfold maxLen at hc
  clear hok'
  go_enter Tryd.func15, Tryd.ntmps15
  go_wp2
  go_loopw [3, 4] (fun ou i wr => ∃ (k : Nat) (x : ByteArray), k ≤ cs.length ∧ i = .int .i64 k ∧ ou = .string x ∧ x = bs (bagT (cs.take k)) ∧ (0 < k → okBag W cs = true) ∧ wr.cell? ⟨w.heap.size, 0, none⟩ = some (.int .i64 W) ∧ wr.cell? ⟨w.heap.size, 1, none⟩ = some (.slice a cs.length c) ∧ Below w.heap.size w wr) (fun _ i _ => cs.length - (intOf i).toNat)
  case atStart => exact ⟨0, _, Nat.zero_le _, rfl, rfl, rfl, fun h => absurd h (by omega), by go_simp, by go_simp, by go_grown⟩
  case round =>
    obtain ⟨k, x, hk, rfl, rfl, hx, hkok, b0, b1, hb⟩ := hrel
    have HX : Hid (x = bs (bagT (cs.take k))) := hx
    have HK : Hid (0 < k → okBag W cs = true) := hkok
    clear hx hkok
    by_cases hlt : k < cs.length
    · have hlw : w.heap.size < wr.heap.size := World.block_lt_of_cell? wr ⟨w.heap.size, 0, none⟩ b0
      go_wp2_with fail
      refine Calls.mono (hB0 _ ?hb) ?_
      case hb => exact hb
      rintro e w1 ⟨rfl, hb1⟩
      have d0 : w1.cell? ⟨w.heap.size, 0, none⟩ = some (.int .i64 W) := cell_later hb1 b0
      have d1 : w1.cell? ⟨w.heap.size, 1, none⟩ = some (.slice a cs.length c) := cell_later hb1 b1
      have bel1 : Below w.heap.size w w1 := hb.trans (hb1.mono hb.size)
      have hl1 := hb1.size
      clear hb1 b0 b1
      cases ok with
      | false =>
        have hk0 : k = 0 := by
          rcases Nat.eq_zero_or_pos k with h | h
          · exact h
          · have := HK.out h; rw [hok.out] at this; cases this
        subst hk0
        have hp : Hid (bs r = x) := by show _ = _; rw [HX.out, ← hr0.out]; unfold bagText; rw [hok.out]; rfl
        go_wp2_with fail
        go_returns
        exact ⟨by rw [hp.out]; rfl, bel1⟩
      | true =>
        obtain ⟨hl400, hl12⟩ := okBag_parts hok.out
        obtain ⟨rfl, hblt, hL⟩ := ha k hlt
        obtain ⟨y, u, hy, c0, hR, c1, hbr⟩ := hL.at hblt bel1 hlt
        have hyw := hw y (List.mem_of_getElem? hy)
        have hy12 := hl12 y (List.mem_of_getElem? hy)
        obtain ⟨n0, n1⟩ := wf64T y.n hyw.2
        have HY : Hid (bagT (cs.take (k + 1)) = bagT (cs.take k) ++ cntT y) := bagT_take hy
        have hbl := bagT_len (cs.take k) (fun z hz => hw z (List.mem_of_mem_take hz)) (fun z hz => hl12 z (List.mem_of_mem_take hz))
        have htk : (cs.take k).length ≤ 400 := by simp; omega
        have hxs : x.size ≤ 1000000 := by rw [HX.out, bs_size]; omega
        have hil := Lib.itoa_length_le y.n n0 n1
        have hD := fun w2 => specDec_any y.n w2 n0 n1
        obtain ⟨t1, H1⟩ : ∃ t1, Hid (bs (Lib.itoa y.n) = t1) := ⟨bs (Lib.itoa y.n), show bs (Lib.itoa y.n) = bs (Lib.itoa y.n) from rfl⟩
        have hD : ∀ w2, Calls Tryd.prog 12 #[.int .i64 y.n] w2 fun e w' => e = .returned (.string t1) ∧ w' = w2 := by
          intro w2
          have := hD w2
          rw [← H1.out]
          exact this
        have hs1 : t1.size ≤ 40 := by rw [← H1.out, bs_size]; omega
        have hs3 : (x ++ t1).size ≤ 1000040 := by rw [ByteArray.size_append]; omega
        obtain ⟨pr, HP⟩ : ∃ pr, Hid (x ++ t1 ++ (⟨#[120, 32]⟩ : ByteArray) = pr) := ⟨x ++ t1 ++ (⟨#[120, 32]⟩ : ByteArray), show x ++ t1 ++ (⟨#[120, 32]⟩ : ByteArray) = x ++ t1 ++ (⟨#[120, 32]⟩ : ByteArray) from rfl⟩
        have hps : pr.size ≤ 1000042 := by rw [← HP.out, ByteArray.size_append]; have : (⟨#[120, 32]⟩ : ByteArray).size = 2 := rfl; omega
        have HQ : Hid (pr = bs (bagT (cs.take k) ++ (Lib.itoa y.n ++ [120, 32]))) := by
          show _ = _
          rw [← HP.out, HX.out, ← H1.out, show (⟨#[120, 32]⟩ : ByteArray) = bs [120, 32] from rfl, bs_app, bs_app]
          simp
        obtain ⟨ua, uc, ub, uo, rfl, ul, hul, hua⟩ := hR.pick
        unfold maxLen at hul
        have hpr := HP.out
        have hwv := hyw.1
        clear ha hL hy hyw n0 n1 hbl htk H1 hil hB0 hr hR
        go_wp2_with fail
        refine Calls.mono (hD _) ?_
        rintro e w2 ⟨rfl, rfl⟩
        clear hD
        go_wp2_with fail
        try rw [hpr]
        clear hpr HP hs1 hs3 hxs
        obtain ⟨wi, hwi⟩ : ∃ wi, wi = w2 := ⟨_, rfl⟩
        subst hwi
        go_loopw [3, 5] (fun ou j wr2 => ∃ (m : Nat) (z : ByteArray), m ≤ y.r.length ∧ j = .int .i64 m ∧ ou = .string z ∧ z = pr ++ bs (rowT (y.r.take m)) ∧ Below wi.heap.size wi wr2) (fun _ j _ => y.r.length - (intOf j).toNat)
        case atStart => exact ⟨0, pr, Nat.zero_le _, rfl, rfl, by simp [rowT, rowTs, Lib.join_nil]; exact (ByteArray.append_empty).symm, Below.refl _ _⟩
        case round =>
          obtain ⟨m, z, hm, rfl, rfl, hz, hb2⟩ := hrel
          have HZ : Hid (z = pr ++ bs (rowT (y.r.take m))) := hz
          have hrl := rowT_len (y.r.take m) (fun q hq => hwv q (List.mem_of_mem_take hq))
          have htl : (y.r.take m).length ≤ 12 := by simp; omega
          have hzs : z.size ≤ 1003000 := by rw [HZ.out, ByteArray.size_append, bs_size]; omega
          have hz2 := hb2.size
          have e0 : wr.cell? ⟨w.heap.size, 1, none⟩ = some (.slice (some ⟨b, o, none⟩) cs.length c) := ((bcell hb2).1 _ _ (by omega)).trans d1
          have e1 : wr.cell? ⟨b, o + k * 2, none⟩ = some (.slice ua y.r.length uc) := ((bcell hb2).1 _ _ hbr).trans c0
          clear hz hrl htl
          by_cases hlt2 : m < y.r.length
          · obtain ⟨rfl, hublt, huL⟩ := hua m hlt2
            obtain ⟨q, hq, q0, q1, q2, hqbr⟩ := huL.at hublt hb2 hlt2
            have hqw := hwv q (List.mem_of_getElem? hq)
            obtain ⟨m0, m1⟩ := wf64T q.n hqw.2.1
            have hV := fun w3 => specVt_any q.k q.n q.s w3 hqw.2.2 m0 m1
            have hvl := vt_len q.k q.n q.s m0 m1
            have HT : Hid (0 < m → rowT (y.r.take (m + 1)) = rowT (y.r.take m) ++ ([44] ++ vt q.k q.n q.s)) := fun h => rowT_step hq h
            have HT0 : Hid (m = 0 → rowT (y.r.take (m + 1)) = vt q.k q.n q.s) := by
              rintro rfl
              have e : y.r.take (0 + 1) = [q] := by
                obtain ⟨h1, h2⟩ := List.getElem?_eq_some_iff.1 hq
                rw [List.take_succ_eq_append_getElem h1, h2]
                rfl
              rw [e, rowT_one]
            obtain ⟨t3, H3⟩ : ∃ t3, Hid (bs (vt q.k q.n q.s) = t3) := ⟨bs (vt q.k q.n q.s), show bs (vt q.k q.n q.s) = bs (vt q.k q.n q.s) from rfl⟩
            rw [H3.out] at hV
            have hs3 : t3.size ≤ 202 := by rw [← H3.out, bs_size]; omega
            clear huL hq hqw m0 m1 hvl hwv
            by_cases hm0 : m = 0
            · subst hm0
              simp only [Nat.zero_mul, Nat.add_zero] at q0 q1 q2
              have HF : Hid (z ++ t3 = pr ++ bs (rowT (y.r.take (0 + 1)))) := by
                show _ = _
                rw [HT0.out rfl, HZ.out, ← H3.out]
                simp [rowT, rowTs, Lib.join_nil]
                rw [show bs [] = ByteArray.empty from rfl, ByteArray.append_empty]
              go_wp2_with fail
              refine Calls.mono (hV _) ?_
              rintro e w4 ⟨rfl, hb4⟩
              have bel4 : Below wi.heap.size wi w4 := hb2.trans (hb4.mono hz2)
              clear hV hb4 e0 e1 q0 q1 q2
              go_wp2_with fail
              exact ⟨⟨0 + 1, _, hlt2, by simp, rfl, HF.out, bel4⟩, by simp [intOf]; omega⟩
            · have hmp : (0 : Int) < (m : Int) := by omega
              have hzc : (z ++ (⟨#[44]⟩ : ByteArray)).size ≤ 1003001 := by rw [ByteArray.size_append]; have : (⟨#[44]⟩ : ByteArray).size = 1 := rfl; omega
              have HF : Hid ((z ++ (⟨#[44]⟩ : ByteArray)) ++ t3 = pr ++ bs (rowT (y.r.take (m + 1)))) := by
                show _ = _
                rw [HT.out (by omega), HZ.out, ← H3.out, show (⟨#[44]⟩ : ByteArray) = bs [44] from rfl, ← bs_app, ← bs_app, ByteArray.append_assoc, ByteArray.append_assoc]
              go_wp2_with fail
              refine Calls.mono (hV _) ?_
              rintro e w4 ⟨rfl, hb4⟩
              have bel4 : Below wi.heap.size wi w4 := hb2.trans (hb4.mono hz2)
              clear hV hb4 e0 e1 q0 q1 q2
              go_wp2_with fail
              exact ⟨⟨m + 1, _, hlt2, by simp, rfl, HF.out, bel4⟩, by simp [intOf]; omega⟩
          · obtain rfl : m = y.r.length := by omega
            have HF : Hid (z ++ (⟨#[10]⟩ : ByteArray) = bs (bagT (cs.take (k + 1)))) := by
              show _ = _
              rw [HY.out, HZ.out, HQ.out, List.take_length, show (⟨#[10]⟩ : ByteArray) = bs [10] from rfl, bs_app, bs_app]
              simp [cntT]
            have f0 : wr.cell? ⟨w.heap.size, 0, none⟩ = some (.int .i64 W) := ((bcell hb2).1 _ _ (by omega)).trans d0
            have belE : Below w.heap.size w wr := bel1.trans (hb2.mono bel1.size)
            clear hua hb2 hwv
            go_wp2_with fail
            exact ⟨⟨k + 1, _, hlt, by simp, rfl, HF.out, fun _ => hok.out, f0, e0, belE⟩, by simp [intOf]; omega⟩
    · obtain rfl : k = cs.length := by omega
      have hp : Hid (bs r = x) := by
        show _ = _
        rw [HX.out, ← hr0.out, List.take_length]
        unfold bagText
        by_cases h : okBag W cs = true
        · rw [if_pos h]
        · rw [if_neg h]
          have h0 : cs.length = 0 := by
            rcases Nat.eq_zero_or_pos cs.length with h' | h'
            · exact h'
            · exact absurd (HK.out h') h
          rw [List.length_eq_zero_iff.1 h0]
          rfl
      clear ha hB0 hr hw
      go_wp2_with fail
      go_returns
      exact ⟨by rw [hp.out]; rfl, hb⟩
end Go.Proofs.YtajlmgacmhimgaaDoor
