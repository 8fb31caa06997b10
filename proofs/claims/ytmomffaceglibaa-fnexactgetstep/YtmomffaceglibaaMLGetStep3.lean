/- Own texts, joined: contracts that the law's proof goes by. -/
import Derived.Test.YtmomffaceglibaaPstP
import Derived.Test.YtmomffaceglibaaMLGetStep2
import Derived.Test.YtmomffaceglibaaPutBSB
import Derived.Handy
import Derived.Deep.RegionHeld3
import Derived.Test.YtmomffaceglibaaMLGetStep1
import Derived.Test.YtmomffaceglibaaKit
import Derived.Test.YtmomffaceglibaaStrK
import Derived.Test.YtmomffaceglibaaBagC
import Derived.Test.YtmomffaceglibaaRelK
/- Own text. The contract of spec.PutStep. -/
namespace Go.Proofs.Ytmomffaceglibaa
open Go.RowKit Go.Deep
set_option linter.unusedVariables false
/-- l10Size's answer as a text of so many bytes, whatever they are. -/
theorem l10Size_o (x : Int) (n : Nat) (h0 : 0 ≤ x) (hx : x ≤ 9223372036854775807) (hn : n ≤ 8) : ∃ r : ByteArray, Hid (r = strOfNums (szN x n)) ∧ r.size = n ∧
    Hid (∀ w, Calls Try.prog 40 #[.int .i64 x, .int .i64 n] w fun e w' => e = .returned (.string r) ∧ Below w.heap.size w w') :=
  ⟨_, rfl, by rw [nums_size, szN_len], fun w => l10Size_any x n w h0 hx hn⟩
theorem l10Text_o (s : ByteArray) (n : Nat) (hs : s.size ≤ 281474976710656) (hn : n ≤ 8) : ∃ r : ByteArray, Hid (r = strOfNums (tN s n)) ∧ r.size = n + s.size ∧
    Hid (∀ w, Calls Try.prog 41 #[.string s, .int .i64 n] w fun e w' => e = .returned (.string r) ∧ Below w.heap.size w w') :=
  ⟨_, rfl, by rw [nums_size, tN_len], fun w => l10Text_any s n w hs hn⟩
/-- the five cells of a step. -/
structure Bx5 (w : World) (B : Nat) (x : T5) (uc ur : Value) : Prop where
  c0 : w.cell? ⟨B, 0, none⟩ = some (.int .i64 x.k)
  c1 : w.cell? ⟨B, 1, none⟩ = some (.string x.s)
  c2 : w.cell? ⟨B, 2, none⟩ = some uc
  c3 : w.cell? ⟨B, 3, none⟩ = some (.string x.q)
  c4 : w.cell? ⟨B, 4, none⟩ = some ur
theorem Bx5.keep {w w' : World} {B : Nat} {x : T5} {uc ur : Value} (h : Bx5 w B x uc ur) (hlt : B < w.heap.size) (hb : Below w.heap.size w w') : Bx5 w' B x uc ur :=
  ⟨(hb.cell (p := ⟨B, _, none⟩) hlt).trans h.c0, (hb.cell (p := ⟨B, _, none⟩) hlt).trans h.c1, (hb.cell (p := ⟨B, _, none⟩) hlt).trans h.c2, (hb.cell (p := ⟨B, _, none⟩) hlt).trans h.c3, (hb.cell (p := ⟨B, _, none⟩) hlt).trans h.c4⟩
/-- the change's cell of a step, and a relation's three cells. -/
structure Bxr (w : World) (B : Nat) (ur : Value) (b q : Nat) (s : ByteArray) (W : Int) (v : Value) : Prop where
  c4 : w.cell? ⟨B, 4, none⟩ = some ur
  d0 : w.cell? ⟨b, q, none⟩ = some (.string s)
  d1 : w.cell? ⟨b, q + 1, none⟩ = some (.int .i64 W)
  d2 : w.cell? ⟨b, q + 2, none⟩ = some v
theorem Bxr.keep {w w' : World} {B b q : Nat} {ur v : Value} {s : ByteArray} {W : Int} (h : Bxr w B ur b q s W v) (hlt : B < w.heap.size) (hl2 : b < w.heap.size) (hb : Below w.heap.size w w') : Bxr w' B ur b q s W v :=
  ⟨(hb.cell (p := ⟨B, _, none⟩) hlt).trans h.c4, (hb.cell (p := ⟨b, _, none⟩) hl2).trans h.d0, (hb.cell (p := ⟨b, _, none⟩) hl2).trans h.d1, (hb.cell (p := ⟨b, _, none⟩) hl2).trans h.d2⟩
theorem spT_no {x : T5} (h : okStep x = false) : putT x = ⟨#[]⟩ := by simp [putT, h]
theorem spT_yes {x : T5} (h : okStep x = true) : putT x = strOfNums (stepL x) := by simp [putT, h]
set_option maxHeartbeats 4000000 in
set_option maxRecDepth 100000 in
theorem specPutStep_any (x : T5) (uc ur : Value) (w : World) (hw : x.wf) (hr : StpIs w uc ur x) :
    Calls Try.prog 16 #[(.agg #[.int .i64 x.k, .string x.s, uc, .string x.q, ur])] w fun e w' => e = .returned (.string (putT x)) ∧ Below w.heap.size w w' := by
  obtain ⟨⟨ac, cc, rfl, _, hcm⟩, ar, cr, rfl, _, hrm⟩ := hr.shape
  obtain ⟨bo, HO⟩ : ∃ b, Hid (okStep x = b) := ⟨_, rfl⟩
  unfold maxLen at hcm hrm
  go_enter Try.func16, Try.ntmps16
  go_wp2_with fail
  refine Calls.mono (specStepOk_any x (.slice ac x.cs.length cc) (.slice ar x.rs.length cr) _ hw (hr.below ?hb)) ?_
  case hb => repeat (first | (with_reducible exact Below.refl _ _) | (with_reducible refine Below.drew ?_) | (with_reducible refine Below.alloc ?_ ?hh _; case hh => first | (simp; done) | (simp; omega) | omega) | (with_reducible refine Below.setCell ?_ ?hh _; case hh => first | (simp; done) | (simp; omega) | omega) | refine bstep (by assumption) (by first | (simp; done) | (simp; omega) | omega) ?_)
  rw [HO.out]
  rintro e w1 ⟨rfl, hb1⟩
  have hz1 := hb1.size
  simp only [World.size_alloc] at hz1
  have b0 : w1.cell? ⟨w.heap.size, 0, none⟩ = some (.int .i64 x.k) := cell_later hb1 (by go_simp)
  have b1 : w1.cell? ⟨w.heap.size, 1, none⟩ = some (.string x.s) := cell_later hb1 (by go_simp)
  have b2 : w1.cell? ⟨w.heap.size, 2, none⟩ = some (.slice ac x.cs.length cc) := cell_later hb1 (by go_simp)
  have b3 : w1.cell? ⟨w.heap.size, 3, none⟩ = some (.string x.q) := cell_later hb1 (by go_simp)
  have b4 : w1.cell? ⟨w.heap.size, 4, none⟩ = some (.slice ar x.rs.length cr) := cell_later hb1 (by go_simp)
  have bel1 : Below w.heap.size w w1 := by repeat (first | (with_reducible exact Below.refl _ _) | (with_reducible refine Below.drew ?_) | (with_reducible refine Below.alloc ?_ ?hh _; case hh => first | (simp; done) | (simp; omega) | omega) | (with_reducible refine Below.setCell ?_ ?hh _; case hh => first | (simp; done) | (simp; omega) | omega) | refine bstep (by assumption) (by first | (simp; done) | (simp; omega) | omega) ?_)
  clear hb1
  have hN : w.heap.size < w1.heap.size := by omega
  cases bo with
  | false =>
    have HT : Hid (putT x = ⟨#[]⟩) := spT_no HO.out
    go_wp2_with fail
    go_returns
    exact ⟨by rw [HT.out]; rfl, bel1⟩
  | true =>
  have HT : Hid (putT x = strOfNums (stepL x)) := spT_yes HO.out
  have hB := okStep_bnd HO.out
  have hbs := hB.s
  have hbq := hB.q
  have hcl := hB.cl
  have hrl := hB.rl
  obtain ⟨⟨gs, hS⟩, hR⟩ := hr
  obtain ⟨r1, E1, z1, C1⟩ := l10Size_o x.k 1 hB.k0 (by have := hB.k3; omega) (by omega)
  obtain ⟨r2, E2, z2, C2⟩ := l10Text_o x.s 2 (by omega) (by omega)
  obtain ⟨r3, E3, z3, C3⟩ := l10Size_o x.cs.length 1 (by omega) (by omega) (by omega)
  have HD : Hid (r1 ++ r2 ++ r3 = strOfNums (hdL x)) := by
    show r1 ++ r2 ++ r3 = _
    rw [E1.out, E2.out, E3.out, ← nums_app, ← nums_app]; rfl
  have hs1 : (r1.size : Int) ≤ 10 := by omega
  have hs2 : (r2.size : Int) ≤ 20 := by omega
  have hs3 : (r3.size : Int) ≤ 10 := by omega
  clear z1 z2 z3 E1 E2 E3
  have hB5 : Bx5 w1 w.heap.size x (.slice ac x.cs.length cc) (.slice ar x.rs.length cr) := ⟨b0, b1, b2, b3, b4⟩
  go_wp2_with fail
  refine wp_region_held_drew (S := (fun w' => Bx5 w' w.heap.size x (.slice ac x.cs.length cc) (.slice ar x.rs.length cr))) (by kernel_rfl) ?_ (fun hHeld => ?_)
  · exact hB5.keep hN (by repeat (first | (with_reducible exact Below.refl _ _) | (with_reducible refine Below.drew ?_) | (with_reducible refine Below.alloc ?_ ?hh _; case hh => first | (simp; done) | (simp; omega) | omega) | (with_reducible refine Below.setCell ?_ ?hh _; case hh => first | (simp; done) | (simp; omega) | omega) | refine bstep (by assumption) (by first | (simp; done) | (simp; omega) | omega) ?_))
  refine takeYes (i := 0) (d := 9) (v := ?_) rfl rfl (by kernel_rfl) (by kernel_rfl) (by kernel_rfl) (fun _ _ _ h => h) (by rfl) (by assumption) ?_ ?_
  rotate_left
  · intro w' hSw; obtain ⟨x0, x1, x2, x3, x4⟩ := hSw; go_simp; (try rw [if_neg (by omega)]); try exact rfl
  try simp only [List.setIfInBounds_toArray, List.set_cons_zero, List.set_cons_succ]
  refine takeYes (i := 1) (d := 10) (v := ?_) rfl rfl (by kernel_rfl) (by kernel_rfl) (by kernel_rfl) (fun _ _ _ h => h) (by rfl) (by assumption) ?_ ?_
  rotate_left
  · intro w' hSw; obtain ⟨x0, x1, x2, x3, x4⟩ := hSw; go_simp; (try rw [if_neg (by omega)]); try exact rfl
  try simp only [List.setIfInBounds_toArray, List.set_cons_zero, List.set_cons_succ]
  refine takeYes (i := 3) (d := 12) (v := ?_) rfl rfl (by kernel_rfl) (by kernel_rfl) (by kernel_rfl) (fun _ _ _ h => h) (by rfl) (by assumption) ?_ ?_
  rotate_left
  · intro w' hSw; obtain ⟨x0, x1, x2, x3, x4⟩ := hSw; go_simp; (try rw [if_neg (by omega)]); try exact rfl
  try simp only [List.setIfInBounds_toArray, List.set_cons_zero, List.set_cons_succ]
  refine takeYes (i := 4) (d := 13) (v := ?_) rfl rfl (by kernel_rfl) (by kernel_rfl) (by kernel_rfl) (fun _ _ _ h => h) (by rfl) (by assumption) ?_ ?_
  rotate_left
  · intro w' hSw; obtain ⟨x0, x1, x2, x3, x4⟩ := hSw; go_simp; (try rw [if_neg (by omega)]); try exact rfl
  try simp only [List.setIfInBounds_toArray, List.set_cons_zero, List.set_cons_succ]
  refine takeYes (i := 7) (d := 16) (v := ?_) rfl rfl (by kernel_rfl) (by kernel_rfl) (by kernel_rfl) (fun _ _ _ h => h) (by rfl) (by assumption) ?_ ?_
  rotate_left
  · intro w' hSw; obtain ⟨x0, x1, x2, x3, x4⟩ := hSw; go_simp; (try rw [if_neg (by omega)]); try exact rfl
  try simp only [List.setIfInBounds_toArray, List.set_cons_zero, List.set_cons_succ]
  refine takeYes (i := 8) (d := 17) (v := ?_) rfl rfl (by kernel_rfl) (by kernel_rfl) (by kernel_rfl) (fun _ _ _ h => h) (by rfl) (by assumption) ?_ ?_
  rotate_left
  · intro w' hSw; obtain ⟨x0, x1, x2, x3, x4⟩ := hSw; go_simp; (try rw [if_neg (by omega)]); try exact rfl
  try simp only [List.setIfInBounds_toArray, List.set_cons_zero, List.set_cons_succ]
  refine takeYes (i := 9) (d := 18) (v := ?_) rfl rfl (by kernel_rfl) (by kernel_rfl) (by kernel_rfl) (fun _ _ _ h => h) (by rfl) (by assumption) ?_ ?_
  rotate_left
  · intro w' hSw; obtain ⟨x0, x1, x2, x3, x4⟩ := hSw; go_simp; (try rw [if_neg (by omega)]); try exact rfl
  try simp only [List.setIfInBounds_toArray, List.set_cons_zero, List.set_cons_succ]
  refine wpAnyH_ready (rs := [2]) (by kernel_rfl) (by simp) ?_
  refine AllReadyH.cons rfl (fun K hK => ?_) AllReadyH.nil
  go_simp
  go_at_call 40
  refine Calls.mono (C1.out _) ?_
  rintro e w2 ⟨rfl, hbw2⟩
  have hzw2 := hbw2.size
  (try simp at hzw2)
  try go_wp2_with fail
  refine hK.out _ _ ?_ (fun hHeld2 => ?_)
  · exact hB5.keep hN (by repeat (first | (with_reducible exact Below.refl _ _) | (with_reducible refine Below.drew ?_) | (with_reducible refine Below.alloc ?_ ?hh _; case hh => first | (simp; done) | (simp; omega) | omega) | (with_reducible refine Below.setCell ?_ ?hh _; case hh => first | (simp; done) | (simp; omega) | omega) | refine bstep (by assumption) (by first | (simp; done) | (simp; omega) | omega) ?_))
  clear hK
  refine wpAnyH_ready (rs := [5]) (by kernel_rfl) (by simp) ?_
  refine AllReadyH.cons rfl (fun K hK => ?_) AllReadyH.nil
  go_simp
  go_at_call 41
  refine Calls.mono (C2.out _) ?_
  rintro e w3 ⟨rfl, hbw3⟩
  have hzw3 := hbw3.size
  (try simp at hzw3)
  try go_wp2_with fail
  refine hK.out _ _ ?_ (fun hHeld5 => ?_)
  · exact hB5.keep hN (by repeat (first | (with_reducible exact Below.refl _ _) | (with_reducible refine Below.drew ?_) | (with_reducible refine Below.alloc ?_ ?hh _; case hh => first | (simp; done) | (simp; omega) | omega) | (with_reducible refine Below.setCell ?_ ?hh _; case hh => first | (simp; done) | (simp; omega) | omega) | refine bstep (by assumption) (by first | (simp; done) | (simp; omega) | omega) ?_))
  clear hK
  refine takeYes (i := 6) (d := 15) (v := ?_) rfl rfl (by kernel_rfl) (by kernel_rfl) (by kernel_rfl) (fun _ _ _ h => h) (by rfl) (by assumption) ?_ ?_
  rotate_left
  · intro w' hSw; obtain ⟨x0, x1, x2, x3, x4⟩ := hSw; go_simp; (try rw [if_neg (by omega)]); try exact rfl
  try simp only [List.setIfInBounds_toArray, List.set_cons_zero, List.set_cons_succ]
  refine wpAnyH_ready (rs := [10]) (by kernel_rfl) (by simp) ?_
  refine AllReadyH.cons rfl (fun K hK => ?_) AllReadyH.nil
  go_simp
  go_at_call 40
  refine Calls.mono (C3.out _) ?_
  rintro e w4 ⟨rfl, hbw4⟩
  have hzw4 := hbw4.size
  (try simp at hzw4)
  try go_wp2_with fail
  refine hK.out _ _ ?_ (fun hHeld10 => ?_)
  · exact hB5.keep hN (by repeat (first | (with_reducible exact Below.refl _ _) | (with_reducible refine Below.drew ?_) | (with_reducible refine Below.alloc ?_ ?hh _; case hh => first | (simp; done) | (simp; omega) | omega) | (with_reducible refine Below.setCell ?_ ?hh _; case hh => first | (simp; done) | (simp; omega) | omega) | refine bstep (by assumption) (by first | (simp; done) | (simp; omega) | omega) ?_))
  clear hK
  refine takeYes (i := 11) (d := 20) (v := ?_) rfl rfl (by kernel_rfl) (by kernel_rfl) (by kernel_rfl) (fun _ _ _ h => h) (by rfl) (by assumption) ?_ ?_
  rotate_left
  · intro w' hSw; obtain ⟨x0, x1, x2, x3, x4⟩ := hSw; go_simp; (try rw [if_neg (by omega)]); try exact rfl
  try simp only [List.setIfInBounds_toArray, List.set_cons_zero, List.set_cons_succ]
  refine takeYes (i := 12) (d := 3) (v := ?_) rfl rfl (by kernel_rfl) (by kernel_rfl) (by kernel_rfl) (fun _ _ _ h => h) (by rfl) (by assumption) ?_ ?_
  rotate_left
  · intro w' hSw; obtain ⟨x0, x1, x2, x3, x4⟩ := hSw; go_simp; (try rw [if_neg (by omega)]); try exact rfl
  try simp only [List.setIfInBounds_toArray, List.set_cons_zero, List.set_cons_succ]
  refine wpAnyH_done (by kernel_rfl) ?_ _
  have belW : Below w1.heap.size w1 w4 := by repeat (first | (with_reducible exact Below.refl _ _) | (with_reducible refine Below.drew ?_) | (with_reducible refine Below.alloc ?_ ?hh _; case hh => first | (simp; done) | (simp; omega) | omega) | (with_reducible refine Below.setCell ?_ ?hh _; case hh => first | (simp; done) | (simp; omega) | omega) | refine bstep (by assumption) (by first | (simp; done) | (simp; omega) | omega) ?_)
  have hsd : ((r1 ++ r2 ++ r3).size : Int) ≤ 40 := by rw [ByteArray.size_append, ByteArray.size_append]; omega
  generalize r1 ++ r2 ++ r3 = rd at HD hsd ⊢
  have HD2 : Hid (rd = strOfNums (hdL x)) := HD.out
  clear HD hbw2 hbw3 hbw4 hHeld hHeld2 hHeld5 hHeld10 C1 C2 C3 b0 b1 b2 b3 b4
  go_wp2_with fail
  go_loopw [3, 4] (fun a i wr => ∃ (k : Nat) (r : ByteArray), k ≤ x.cs.length ∧ i = .int .i64 k ∧ a = .string r ∧ Hid (r = strOfNums (hdL x ++ csL (x.cs.take k))) ∧ Below w1.heap.size w1 wr) (fun _ i _ => x.cs.length - (intOf i).toNat)
  case atStart => exact ⟨0, rd, Nat.zero_le _, rfl, rfl, by simpa [Hid, csL] using HD2.out, belW⟩
  case round =>
    clear belW HD2 hsd
    obtain ⟨k, r, hk, rfl, rfl, HR, hbN⟩ := hrel
    have hbw := bel1.trans (hbN.mono bel1.size)
    have hNr : w.heap.size < wr.heap.size := Nat.lt_of_lt_of_le hN hbN.size
    have hln := hc_len hB k
    have hrs : (r.size : Int) ≤ 158 := by rw [HR.out, nums_size]; omega
    have hB5r := hB5.keep hN hbN
    obtain ⟨c0, c1, c2, c3, c4⟩ := hB5.keep hN hbN
    by_cases hlt : k < x.cs.length
    · obtain ⟨a0, e0', b, o, e0, hl, hc, _, ha⟩ := hS.pick
      obtain ⟨rfl, rfl⟩ : ac = a0 ∧ cc = e0' := by simpa using e0
      obtain ⟨rfl, hblt, _, hcell⟩ := ha k hlt
      have hx : x.cs[k]? = some x.cs[k] := by simp
      have d0 := (hbw.cell (p := ⟨b, o + k, none⟩) hblt).trans (hcell k _ hx)
      have hms := hB.c _ (List.getElem_mem hlt)
      have HX : Hid (csL (x.cs.take (k + 1)) = csL (x.cs.take k) ++ tN x.cs[k] 2) := csL_take hx
      generalize x.cs[k] = m at d0 hms HX
      obtain ⟨r4, E4, z4, C4⟩ := l10Text_o m 2 (by omega) (by omega)
      have hs4 : (r4.size : Int) ≤ 20 := by omega
      have hbr : b < wr.heap.size := by have := hbw.size; omega
      clear hcell hx ha e0 z4 hB5r
      go_wp2_with fail
      refine Calls.mono (C4.out _) ?_
      rintro e w5 ⟨rfl, hb5⟩
      go_wp2_with fail
      refine ⟨⟨k + 1, r ++ r4, hlt, by simp, rfl, ?_, hbN.trans (hb5.mono hbN.size)⟩, by simp [intOf]; omega⟩
      show r ++ r4 = _
      rw [HX.out, HR.out, E4.out, ← List.append_assoc, ← nums_app]
    · obtain rfl : k = x.cs.length := by omega
      rw [List.take_length] at HR
      obtain ⟨r5, E5, z5, C5⟩ := l10Text_o x.q 2 (by omega) (by omega)
      obtain ⟨r6, E6, z6, C6⟩ := l10Size_o x.rs.length 1 (by omega) (by omega) (by omega)
      have HM : Hid (r ++ r5 ++ r6 = strOfNums (mdL x)) := by
        show r ++ r5 ++ r6 = _
        rw [HR.out, E5.out, E6.out, ← nums_app, ← nums_app]; rfl
      have hs5 : (r5.size : Int) ≤ 1010 := by omega
      have hs6 : (r6.size : Int) ≤ 10 := by omega
      clear z5 z6 E5 E6 HR c0 c1 c3 c4
      go_wp2_with fail
      clear c2
      refine wp_region_held_drew (S := (fun w' => Bx5 w' w.heap.size x (.slice ac x.cs.length cc) (.slice ar x.rs.length cr))) (by kernel_rfl) ?_ (fun hHeld => ?_)
      · exact hB5r.keep hNr (by repeat (first | (with_reducible exact Below.refl _ _) | (with_reducible refine Below.drew ?_) | (with_reducible refine Below.alloc ?_ ?hh _; case hh => first | (simp; done) | (simp; omega) | omega) | (with_reducible refine Below.setCell ?_ ?hh _; case hh => first | (simp; done) | (simp; omega) | omega) | refine bstep (by assumption) (by first | (simp; done) | (simp; omega) | omega) ?_))
      refine takeYes (i := 0) (d := 36) (v := ?_) rfl rfl (by kernel_rfl) (by kernel_rfl) (by kernel_rfl) (fun _ _ _ h => h) (by rfl) (by assumption) ?_ ?_
      rotate_left
      · intro w' hSw; obtain ⟨x0, x1, x2, x3, x4⟩ := hSw; go_simp; (try rw [if_neg (by omega)]); try exact rfl
      try simp only [List.setIfInBounds_toArray, List.set_cons_zero, List.set_cons_succ]
      refine takeYes (i := 1) (d := 37) (v := ?_) rfl rfl (by kernel_rfl) (by kernel_rfl) (by kernel_rfl) (fun _ _ _ h => h) (by rfl) (by assumption) ?_ ?_
      rotate_left
      · intro w' hSw; obtain ⟨x0, x1, x2, x3, x4⟩ := hSw; go_simp; (try rw [if_neg (by omega)]); try exact rfl
      try simp only [List.setIfInBounds_toArray, List.set_cons_zero, List.set_cons_succ]
      refine takeYes (i := 2) (d := 38) (v := ?_) rfl rfl (by kernel_rfl) (by kernel_rfl) (by kernel_rfl) (fun _ _ _ h => h) (by rfl) (by assumption) ?_ ?_
      rotate_left
      · intro w' hSw; obtain ⟨x0, x1, x2, x3, x4⟩ := hSw; go_simp; (try rw [if_neg (by omega)]); try exact rfl
      try simp only [List.setIfInBounds_toArray, List.set_cons_zero, List.set_cons_succ]
      refine takeYes (i := 5) (d := 41) (v := ?_) rfl rfl (by kernel_rfl) (by kernel_rfl) (by kernel_rfl) (fun _ _ _ h => h) (by rfl) (by assumption) ?_ ?_
      rotate_left
      · intro w' hSw; obtain ⟨x0, x1, x2, x3, x4⟩ := hSw; go_simp; (try rw [if_neg (by omega)]); try exact rfl
      try simp only [List.setIfInBounds_toArray, List.set_cons_zero, List.set_cons_succ]
      refine takeYes (i := 6) (d := 42) (v := ?_) rfl rfl (by kernel_rfl) (by kernel_rfl) (by kernel_rfl) (fun _ _ _ h => h) (by rfl) (by assumption) ?_ ?_
      rotate_left
      · intro w' hSw; obtain ⟨x0, x1, x2, x3, x4⟩ := hSw; go_simp; (try rw [if_neg (by omega)]); try exact rfl
      try simp only [List.setIfInBounds_toArray, List.set_cons_zero, List.set_cons_succ]
      refine takeYes (i := 7) (d := 43) (v := ?_) rfl rfl (by kernel_rfl) (by kernel_rfl) (by kernel_rfl) (fun _ _ _ h => h) (by rfl) (by assumption) ?_ ?_
      rotate_left
      · intro w' hSw; obtain ⟨x0, x1, x2, x3, x4⟩ := hSw; go_simp; (try rw [if_neg (by omega)]); try exact rfl
      try simp only [List.setIfInBounds_toArray, List.set_cons_zero, List.set_cons_succ]
      refine wpAnyH_ready (rs := [3]) (by kernel_rfl) (by simp) ?_
      refine AllReadyH.cons rfl (fun K hK => ?_) AllReadyH.nil
      go_simp
      go_at_call 41
      refine Calls.mono (C5.out _) ?_
      rintro e w5 ⟨rfl, hbw5⟩
      have hzw5 := hbw5.size
      (try simp at hzw5)
      try go_wp2_with fail
      refine hK.out _ _ ?_ (fun hHeld3 => ?_)
      · exact hB5r.keep hNr (by repeat (first | (with_reducible exact Below.refl _ _) | (with_reducible refine Below.drew ?_) | (with_reducible refine Below.alloc ?_ ?hh _; case hh => first | (simp; done) | (simp; omega) | omega) | (with_reducible refine Below.setCell ?_ ?hh _; case hh => first | (simp; done) | (simp; omega) | omega) | refine bstep (by assumption) (by first | (simp; done) | (simp; omega) | omega) ?_))
      clear hK
      refine takeYes (i := 4) (d := 40) (v := ?_) rfl rfl (by kernel_rfl) (by kernel_rfl) (by kernel_rfl) (fun _ _ _ h => h) (by rfl) (by assumption) ?_ ?_
      rotate_left
      · intro w' hSw; obtain ⟨x0, x1, x2, x3, x4⟩ := hSw; go_simp; (try rw [if_neg (by omega)]); try exact rfl
      try simp only [List.setIfInBounds_toArray, List.set_cons_zero, List.set_cons_succ]
      refine wpAnyH_ready (rs := [8]) (by kernel_rfl) (by simp) ?_
      refine AllReadyH.cons rfl (fun K hK => ?_) AllReadyH.nil
      go_simp
      go_at_call 40
      refine Calls.mono (C6.out _) ?_
      rintro e w6 ⟨rfl, hbw6⟩
      have hzw6 := hbw6.size
      (try simp at hzw6)
      try go_wp2_with fail
      refine hK.out _ _ ?_ (fun hHeld8 => ?_)
      · exact hB5r.keep hNr (by repeat (first | (with_reducible exact Below.refl _ _) | (with_reducible refine Below.drew ?_) | (with_reducible refine Below.alloc ?_ ?hh _; case hh => first | (simp; done) | (simp; omega) | omega) | (with_reducible refine Below.setCell ?_ ?hh _; case hh => first | (simp; done) | (simp; omega) | omega) | refine bstep (by assumption) (by first | (simp; done) | (simp; omega) | omega) ?_))
      clear hK
      refine takeYes (i := 9) (d := 45) (v := ?_) rfl rfl (by kernel_rfl) (by kernel_rfl) (by kernel_rfl) (fun _ _ _ h => h) (by rfl) (by assumption) ?_ ?_
      rotate_left
      · intro w' hSw; obtain ⟨x0, x1, x2, x3, x4⟩ := hSw; go_simp; (try rw [if_neg (by omega)]); try exact rfl
      try simp only [List.setIfInBounds_toArray, List.set_cons_zero, List.set_cons_succ]
      refine takeYes (i := 10) (d := 3) (v := ?_) rfl rfl (by kernel_rfl) (by kernel_rfl) (by kernel_rfl) (fun _ _ _ h => h) (by rfl) (by assumption) ?_ ?_
      rotate_left
      · intro w' hSw; obtain ⟨x0, x1, x2, x3, x4⟩ := hSw; go_simp; (try rw [if_neg (by omega)]); try exact rfl
      try simp only [List.setIfInBounds_toArray, List.set_cons_zero, List.set_cons_succ]
      refine wpAnyH_done (by kernel_rfl) ?_ _
      have belW : Below wr.heap.size wr w6 := by repeat (first | (with_reducible exact Below.refl _ _) | (with_reducible refine Below.drew ?_) | (with_reducible refine Below.alloc ?_ ?hh _; case hh => first | (simp; done) | (simp; omega) | omega) | (with_reducible refine Below.setCell ?_ ?hh _; case hh => first | (simp; done) | (simp; omega) | omega) | refine bstep (by assumption) (by first | (simp; done) | (simp; omega) | omega) ?_)
      have belV : Below w1.heap.size w1 w6 := hbN.trans (belW.mono hbN.size)
      generalize r ++ r5 ++ r6 = rm at HM ⊢
      have HM2 : Hid (rm = strOfNums (mdL x)) := HM.out
      clear HM hbw5 hbw6 hHeld hHeld3 hHeld8 C5 C6 belW hbN hB5r hNr
      go_wp2_with fail
      go_loopw [3, 5] (fun a i wr => ∃ (k : Nat) (r : ByteArray), k ≤ x.rs.length ∧ i = .int .i64 k ∧ a = .string r ∧ Hid (r = strOfNums (mdL x ++ rlsL (x.rs.take k))) ∧ Below w1.heap.size w1 wr) (fun _ i _ => x.rs.length - (intOf i).toNat)
      case atStart => exact ⟨0, rm, Nat.zero_le _, rfl, rfl, by simpa [Hid, rlsL] using HM2.out, belV⟩
      case round =>
        clear belV HM2 hbw hrs hln
        obtain ⟨k, r, hk, rfl, rfl, HR, hbN⟩ := hrel
        have hbw := bel1.trans (hbN.mono bel1.size)
        have hNr : w.heap.size < wr.heap.size := Nat.lt_of_lt_of_le hN hbN.size
        have hln := md_len hB k
        have hrs : (r.size : Int) ≤ 10000000 := by rw [HR.out, nums_size]; omega
        obtain ⟨c0, c1, c2, c3, c4⟩ := hB5.keep hN hbN
        by_cases hlt : k < x.rs.length
        · obtain ⟨a0, e0', b, o, e0, hl, hc, ha⟩ := hR.pick
          obtain ⟨rfl, rfl⟩ : ar = a0 ∧ cr = e0' := by simpa using e0
          obtain ⟨rfl, hblt, hL⟩ := ha k hlt
          have hx : x.rs[k]? = some x.rs[k] := by simp
          obtain ⟨v, q0, q1, q2, hRw⟩ := hL k x.rs[k] hx
          obtain ⟨av, lv, cv, rfl⟩ := hRw.shape
          have hBr : Bxr wr w.heap.size (.slice (some ⟨b, o, none⟩) x.rs.length cr) b (o + k * 3) x.rs[k].s x.rs[k].W (.slice av lv cv) := ⟨c4, (hbw.cell (p := ⟨b, _, none⟩) hblt).trans q0, (hbw.cell (p := ⟨b, _, none⟩) hblt).trans q1, (hbw.cell (p := ⟨b, _, none⟩) hblt).trans q2⟩
          have hms := hB.r _ (List.getElem_mem hlt)
          obtain ⟨_, _, hmw⟩ := hw.2.2.2.2 _ (List.getElem_mem hlt)
          have HX : Hid (rlsL (x.rs.take (k + 1)) = rlsL (x.rs.take k) ++ rlL x.rs[k]) := rlsL_take hx
          generalize x.rs[k] = m at hBr hms HX hRw hmw
          have hps := putB_size m.W m.cs
          have hRr := hRw.below hbw
          obtain ⟨r7, E7, z7, C7⟩ := l10Text_o m.s 2 (by omega) (by omega)
          obtain ⟨r8, E8, z8, C8⟩ := l10Text_o (putB m.W m.cs) 4 (by omega) (by omega)
          have hs7 : (r7.size : Int) ≤ 20 := by omega
          have hs8 : (r8.size : Int) ≤ 493210 := by omega
          have hbr : b < wr.heap.size := by have := hbw.size; omega
          have hk0 : (0 : Int) ≤ k := by omega
          have hk1 : (k : Int) < x.rs.length := by omega
          have HRr : Hid (r ++ r7 ++ r8 = strOfNums (mdL x ++ rlsL (x.rs.take (k + 1)))) := by
            show r ++ r7 ++ r8 = _
            rw [HX.out, HR.out, E7.out, E8.out, ← nums_app, ← nums_app]; congr 1; simp [rlL]
          clear hx ha e0 z7 z8 q0 q1 q2 hL c0 c1 c2 c3 HR HX E7 E8 hRw
          go_wp2_with fail
          clear c4
          refine wp_region_held_drew (S := (fun w' => Bxr w' w.heap.size (.slice (some ⟨b, o, none⟩) x.rs.length cr) b (o + k * 3) m.s m.W (.slice av lv cv))) (by kernel_rfl) ?_ (fun hHeld => ?_)
          · exact hBr.keep hNr hbr (by repeat (first | (with_reducible exact Below.refl _ _) | (with_reducible refine Below.drew ?_) | (with_reducible refine Below.alloc ?_ ?hh _; case hh => first | (simp; done) | (simp; omega) | omega) | (with_reducible refine Below.setCell ?_ ?hh _; case hh => first | (simp; done) | (simp; omega) | omega) | refine bstep (by assumption) (by first | (simp; done) | (simp; omega) | omega) ?_))
          refine takeYes (i := 0) (d := 53) (v := ?_) rfl rfl (by kernel_rfl) (by kernel_rfl) (by kernel_rfl) (fun _ _ _ h => h) (by rfl) (by assumption) ?_ ?_
          rotate_left
          · intro w' hSw; obtain ⟨x0, x1, x2, x3⟩ := hSw; go_simp; (try rw [if_neg (by omega)]); try exact rfl
          try simp only [List.setIfInBounds_toArray, List.set_cons_zero, List.set_cons_succ]
          refine takeYes (i := 1) (d := 54) (v := ?_) rfl rfl (by kernel_rfl) (by kernel_rfl) (by kernel_rfl) (fun _ _ _ h => h) (by rfl) (by assumption) ?_ ?_
          rotate_left
          · intro w' hSw; obtain ⟨x0, x1, x2, x3⟩ := hSw; go_simp; (try rw [if_neg (by omega)]); try exact rfl
          try simp only [List.setIfInBounds_toArray, List.set_cons_zero, List.set_cons_succ]
          refine takeYes (i := 2) (d := 55) (v := ?_) rfl rfl (by kernel_rfl) (by kernel_rfl) (by kernel_rfl) (fun _ _ _ h => h) (by rfl) (by assumption) ?_ ?_
          rotate_left
          · intro w' hSw; obtain ⟨x0, x1, x2, x3⟩ := hSw; go_simp; (try rw [if_neg (by omega)]); try exact rfl
          try simp only [List.setIfInBounds_toArray, List.set_cons_zero, List.set_cons_succ]
          refine takeYes (i := 3) (d := 56) (v := ?_) rfl rfl (by kernel_rfl) (by kernel_rfl) (by kernel_rfl) (fun _ _ _ h => h) (by rfl) (by assumption) ?_ ?_
          rotate_left
          · intro w' hSw; obtain ⟨x0, x1, x2, x3⟩ := hSw; go_simp; (try rw [if_neg (by omega)]); try exact rfl
          try simp only [List.setIfInBounds_toArray, List.set_cons_zero, List.set_cons_succ]
          refine takeYes (i := 4) (d := 57) (v := ?_) rfl rfl (by kernel_rfl) (by kernel_rfl) (by kernel_rfl) (fun _ _ _ h => h) (by rfl) (by assumption) ?_ ?_
          rotate_left
          · intro w' hSw; obtain ⟨x0, x1, x2, x3⟩ := hSw; go_simp; (try rw [if_neg (by omega)]); try exact rfl
          try simp only [List.setIfInBounds_toArray, List.set_cons_zero, List.set_cons_succ]
          refine takeYes (i := 5) (d := 58) (v := ?_) rfl rfl (by kernel_rfl) (by kernel_rfl) (by kernel_rfl) (fun _ _ _ h => h) (by rfl) (by assumption) ?_ ?_
          rotate_left
          · intro w' hSw; obtain ⟨x0, x1, x2, x3⟩ := hSw; go_simp; (try rw [if_neg (by omega)]); try exact rfl
          try simp only [List.setIfInBounds_toArray, List.set_cons_zero, List.set_cons_succ]
          refine takeYes (i := 6) (d := 59) (v := ?_) rfl rfl (by kernel_rfl) (by kernel_rfl) (by kernel_rfl) (fun _ _ _ h => h) (by rfl) (by assumption) ?_ ?_
          rotate_left
          · intro w' hSw; obtain ⟨x0, x1, x2, x3⟩ := hSw; go_simp; (try rw [if_neg (by omega)]); try exact rfl
          try simp only [List.setIfInBounds_toArray, List.set_cons_zero, List.set_cons_succ]
          refine takeYes (i := 9) (d := 62) (v := ?_) rfl rfl (by kernel_rfl) (by kernel_rfl) (by kernel_rfl) (fun _ _ _ h => h) (by rfl) (by assumption) ?_ ?_
          rotate_left
          · intro w' hSw; obtain ⟨x0, x1, x2, x3⟩ := hSw; go_simp; (try rw [if_neg (by omega)]); try exact rfl
          try simp only [List.setIfInBounds_toArray, List.set_cons_zero, List.set_cons_succ]
          refine takeYes (i := 10) (d := 63) (v := ?_) rfl rfl (by kernel_rfl) (by kernel_rfl) (by kernel_rfl) (fun _ _ _ h => h) (by rfl) (by assumption) ?_ ?_
          rotate_left
          · intro w' hSw; obtain ⟨x0, x1, x2, x3⟩ := hSw; go_simp; (try rw [if_neg (by omega)]); try exact rfl
          try simp only [List.setIfInBounds_toArray, List.set_cons_zero, List.set_cons_succ]
          refine takeYes (i := 11) (d := 64) (v := ?_) rfl rfl (by kernel_rfl) (by kernel_rfl) (by kernel_rfl) (fun _ _ _ h => h) (by rfl) (by assumption) ?_ ?_
          rotate_left
          · intro w' hSw; obtain ⟨x0, x1, x2, x3⟩ := hSw; go_simp; (try rw [if_neg (by omega)]); try exact rfl
          try simp only [List.setIfInBounds_toArray, List.set_cons_zero, List.set_cons_succ]
          refine takeYes (i := 12) (d := 65) (v := ?_) rfl rfl (by kernel_rfl) (by kernel_rfl) (by kernel_rfl) (fun _ _ _ h => h) (by rfl) (by assumption) ?_ ?_
          rotate_left
          · intro w' hSw; obtain ⟨x0, x1, x2, x3⟩ := hSw; go_simp; (try rw [if_neg (by omega)]); try exact rfl
          try simp only [List.setIfInBounds_toArray, List.set_cons_zero, List.set_cons_succ]
          refine takeYes (i := 13) (d := 66) (v := ?_) rfl rfl (by kernel_rfl) (by kernel_rfl) (by kernel_rfl) (fun _ _ _ h => h) (by rfl) (by assumption) ?_ ?_
          rotate_left
          · intro w' hSw; obtain ⟨x0, x1, x2, x3⟩ := hSw; go_simp; (try rw [if_neg (by omega)]); try exact rfl
          try simp only [List.setIfInBounds_toArray, List.set_cons_zero, List.set_cons_succ]
          refine takeYes (i := 14) (d := 67) (v := ?_) rfl rfl (by kernel_rfl) (by kernel_rfl) (by kernel_rfl) (fun _ _ _ h => h) (by rfl) (by assumption) ?_ ?_
          rotate_left
          · intro w' hSw; obtain ⟨x0, x1, x2, x3⟩ := hSw; go_simp; (try rw [if_neg (by omega)]); try exact rfl
          try simp only [List.setIfInBounds_toArray, List.set_cons_zero, List.set_cons_succ]
          refine wpAnyH_ready (rs := [7]) (by kernel_rfl) (by simp) ?_
          refine AllReadyH.cons rfl (fun K hK => ?_) AllReadyH.nil
          go_simp
          go_at_call 41
          refine Calls.mono (C7.out _) ?_
          rintro e w5 ⟨rfl, hbw5⟩
          have hzw5 := hbw5.size
          (try simp at hzw5)
          try go_wp2_with fail
          refine hK.out _ _ ?_ (fun hHeld7 => ?_)
          · exact hBr.keep hNr hbr (by repeat (first | (with_reducible exact Below.refl _ _) | (with_reducible refine Below.drew ?_) | (with_reducible refine Below.alloc ?_ ?hh _; case hh => first | (simp; done) | (simp; omega) | omega) | (with_reducible refine Below.setCell ?_ ?hh _; case hh => first | (simp; done) | (simp; omega) | omega) | refine bstep (by assumption) (by first | (simp; done) | (simp; omega) | omega) ?_))
          clear hK
          refine takeYes (i := 8) (d := 61) (v := ?_) rfl rfl (by kernel_rfl) (by kernel_rfl) (by kernel_rfl) (fun _ _ _ h => h) (by rfl) (by assumption) ?_ ?_
          rotate_left
          · intro w' hSw; obtain ⟨x0, x1, x2, x3⟩ := hSw; go_simp; (try rw [if_neg (by omega)]); try exact rfl
          try simp only [List.setIfInBounds_toArray, List.set_cons_zero, List.set_cons_succ]
          refine wpAnyH_ready (rs := [15]) (by kernel_rfl) (by simp) ?_
          refine AllReadyH.cons rfl (fun K hK => ?_) AllReadyH.nil
          go_simp
          go_at_call 42
          refine Calls.mono (specPutBag_any m.W (.slice av lv cv) m.cs _ hmw (hRr.below (by repeat (first | (with_reducible exact Below.refl _ _) | (with_reducible refine Below.drew ?_) | (with_reducible refine Below.alloc ?_ ?hh _; case hh => first | (simp; done) | (simp; omega) | omega) | (with_reducible refine Below.setCell ?_ ?hh _; case hh => first | (simp; done) | (simp; omega) | omega) | refine bstep (by assumption) (by first | (simp; done) | (simp; omega) | omega) ?_)))) ?_
          rintro e w6 ⟨rfl, hbw6⟩
          have hzw6 := hbw6.size
          (try simp at hzw6)
          try go_wp2_with fail
          refine hK.out _ _ ?_ (fun hHeld15 => ?_)
          · exact hBr.keep hNr hbr (by repeat (first | (with_reducible exact Below.refl _ _) | (with_reducible refine Below.drew ?_) | (with_reducible refine Below.alloc ?_ ?hh _; case hh => first | (simp; done) | (simp; omega) | omega) | (with_reducible refine Below.setCell ?_ ?hh _; case hh => first | (simp; done) | (simp; omega) | omega) | refine bstep (by assumption) (by first | (simp; done) | (simp; omega) | omega) ?_))
          clear hK
          refine wpAnyH_ready (rs := [16]) (by kernel_rfl) (by simp) ?_
          refine AllReadyH.cons rfl (fun K hK => ?_) AllReadyH.nil
          go_simp
          go_at_call 41
          refine Calls.mono (C8.out _) ?_
          rintro e w7 ⟨rfl, hbw7⟩
          have hzw7 := hbw7.size
          (try simp at hzw7)
          try go_wp2_with fail
          refine hK.out _ _ ?_ (fun hHeld16 => ?_)
          · exact hBr.keep hNr hbr (by repeat (first | (with_reducible exact Below.refl _ _) | (with_reducible refine Below.drew ?_) | (with_reducible refine Below.alloc ?_ ?hh _; case hh => first | (simp; done) | (simp; omega) | omega) | (with_reducible refine Below.setCell ?_ ?hh _; case hh => first | (simp; done) | (simp; omega) | omega) | refine bstep (by assumption) (by first | (simp; done) | (simp; omega) | omega) ?_))
          clear hK
          refine takeYes (i := 17) (d := 70) (v := ?_) rfl rfl (by kernel_rfl) (by kernel_rfl) (by kernel_rfl) (fun _ _ _ h => h) (by rfl) (by assumption) ?_ ?_
          rotate_left
          · intro w' hSw; obtain ⟨x0, x1, x2, x3⟩ := hSw; go_simp; (try rw [if_neg (by omega)]); try exact rfl
          try simp only [List.setIfInBounds_toArray, List.set_cons_zero, List.set_cons_succ]
          refine takeYes (i := 18) (d := 3) (v := ?_) rfl rfl (by kernel_rfl) (by kernel_rfl) (by kernel_rfl) (fun _ _ _ h => h) (by rfl) (by assumption) ?_ ?_
          rotate_left
          · intro w' hSw; obtain ⟨x0, x1, x2, x3⟩ := hSw; go_simp; (try rw [if_neg (by omega)]); try exact rfl
          try simp only [List.setIfInBounds_toArray, List.set_cons_zero, List.set_cons_succ]
          refine wpAnyH_done (by kernel_rfl) ?_ _
          have belW : Below wr.heap.size wr w7 := by repeat (first | (with_reducible exact Below.refl _ _) | (with_reducible refine Below.drew ?_) | (with_reducible refine Below.alloc ?_ ?hh _; case hh => first | (simp; done) | (simp; omega) | omega) | (with_reducible refine Below.setCell ?_ ?hh _; case hh => first | (simp; done) | (simp; omega) | omega) | refine bstep (by assumption) (by first | (simp; done) | (simp; omega) | omega) ?_)
          go_wp2_with fail
          exact ⟨⟨k + 1, r ++ r7 ++ r8, hlt, by simp, rfl, HRr, hbN.trans (belW.mono hbN.size)⟩, by simp [intOf]; omega⟩
        · obtain rfl : k = x.rs.length := by omega
          rw [List.take_length] at HR
          go_wp2_with fail
          go_returns
          exact ⟨by rw [HT.out, show stepL x = mdL x ++ rlsL x.rs from rfl, ← HR.out]; rfl, hbw⟩
end Go.Proofs.Ytmomffaceglibaa
/- Own text. The model's GetStep: it answers gT and gO. -/
namespace Go.Proofs.Ytmomffaceglibaa
open Go.RowKit Go.Deep
set_option linter.unusedVariables false
section
variable {s : ByteArray} {e : Nat} {q : Nat × Bool}
theorem csn_late : ∀ {k d : Nat}, (csn s e q k).2.2 = true → (csn s e q (k + d)).2.2 = true
  | k, 0, h => h
  | k, d + 1, h => tx_torn' (q := (csn s e q (k + d)).2) (csn_late (d := d) h)
theorem rl_torn' (h : q.2 = true) : (rl s e q).2.2 = true := by
  cases hx : (rl s e q).2.2 with
  | true => rfl
  | false => have := (rl_torn hx).2.2.1; rw [h] at this; cases this
theorem rln_late : ∀ {k d : Nat}, (rln s e q k).2.2 = true → (rln s e q (k + d)).2.2 = true
  | k, 0, h => h
  | k, d + 1, h => rl_torn' (q := (rln s e q (k + d)).2) (rln_late (d := d) h)
/-- the next place of the model's loop. -/
theorem ps_rl (hb : aB (gtV s 4 (tx s s.size 2 q).2) = true) : ps (rlB s s.size q).2 = ps (rl s s.size q).2 := by
  cases ht : (rlB s s.size q).2.2 with
  | true =>
    have : (rl s s.size q).2.2 = true := by unfold rl; simp [ht]
    rw [ps_lt ht, ps_lt this]
  | false =>
    have e1 : gtV s 4 (tx s s.size 2 q).2 = (rlB s s.size q).1 := by unfold gtV; rw [if_neg]; rfl; intro h; rw [show (tx s s.size 4 (tx s s.size 2 q).2).2.2 = (rlB s s.size q).2.2 from rfl, ht] at h; cases h
    rw [e1] at hb
    have : (rl s s.size q).2 = ((rlB s s.size q).2.1, false) := by unfold rl; simp [ht, hb]
    rw [ps_ge ht, this]; rfl
theorem rl_eq (ht : (rl s s.size q).2.2 = false) : (⟨gtV s 2 q, aW (gtV s 4 (tx s s.size 2 q).2), aC (gtV s 4 (tx s s.size 2 q).2)⟩ : R3) = (rl s s.size q).1 := by
  obtain ⟨h1, h2, h3, h4⟩ := rl_torn ht
  have e1 : gtV s 4 (tx s s.size 2 q).2 = (rlB s s.size q).1 := by unfold gtV; rw [if_neg]; rfl; intro h; rw [show (tx s s.size 4 (tx s s.size 2 q).2).2.2 = (rlB s s.size q).2.2 from rfl, h1] at h; cases h
  have e2 : gtV s 2 q = (tx s s.size 2 q).1 := by unfold gtV; rw [if_neg (by rw [h2]; decide)]
  rw [e1, e2]; rfl
theorem rl_bad (hb : aB (gtV s 4 (tx s s.size 2 q).2) = false) : (rl s s.size q).2.2 = true := by
  cases ht : (rl s s.size q).2.2 with
  | true => rfl
  | false =>
    obtain ⟨h1, h2, h3, h4⟩ := rl_torn ht
    have e1 : gtV s 4 (tx s s.size 2 q).2 = (rlB s s.size q).1 := by unfold gtV; rw [if_neg]; rfl; intro h; rw [show (tx s s.size 4 (tx s s.size 2 q).2).2.2 = (rlB s s.size q).2.2 from rfl, h1] at h; cases h
    rw [e1, h4] at hb; cases hb
end
end Go.Proofs.Ytmomffaceglibaa
/- Own text. The contract of the cutter's method step. -/
namespace Go.Proofs.Ytmomffaceglibaa
open Go.RowKit Go.Deep
set_option linter.unusedVariables false
theorem Stepped.drew {w w' : World} {C E : Nat} {s : ByteArray} {e : Nat} {q : Nat × Bool} {xs : List Int} {uc ur : Value} (h : Stepped w w' C E s e q xs uc ur) : Stepped w w'.drew C E s e q xs uc ur := by
  obtain ⟨us, G, M, h1, h2, h3, h4, ⟨E', cap', h5, h6⟩, h7⟩ := h
  exact ⟨us, G, M, ownsRow_keep h1 fun _ _ => rfl, h2.keep (Nat.le_refl _) fun _ _ _ => rfl, h3, h4, ⟨E', cap', h5.keep rfl rfl, h6⟩, ⟨h7.os, h7.tape, h7.output, h7.size, h7.block⟩⟩
set_option maxHeartbeats 4000000 in
set_option maxRecDepth 100000 in
theorem step_any (C E cap : Nat) (s : ByteArray) (q : Nat × Bool) (xs : List Int) (e : Nat) (w : World) (h : Ct w C E cap s q (xs ++ [(e : Int)])) (hq : q.1 ≤ e) (he : e ≤ s.size) (hs : s.size ≤ 1048576) (hl : xs.length ≤ 10000) :
    Calls Try.prog 56 #[.pointer (some ⟨C, 0, none⟩)] w fun r w' => ∃ uc ur, r = .returned (.tuple #[.agg #[.int .i64 (sX s e q).k, .string (sX s e q).s, uc, .string (sX s e q).q, ur], .bool (sO s e q)]) ∧ Stepped w w' C E s e q xs uc ur := by
  have hCl := h.ltC
  have hEl := h.ltE
  have q1 := nm_at (s := s) (k := 1) hq
  have q2 := tx_at (s := s) (k := 2) q1
  have q3 := nm_at (s := s) (k := 1) q2
  have q4 : (sC' s e q).2.1 ≤ e := csn_at (s := s) q3 _
  have q5 := tx_at (s := s) (k := 2) q4
  have hwf := sX_wf he hs hq
  go_enter Try.func56, Try.ntmps56
  go_wp2_with (first | (go_at_call 92; with_reducible refine Calls.mono (cnum_any C E cap s q xs e 1 _ (h.below (by repeat (first | (with_reducible exact Below.refl _ _) | (with_reducible refine Below.drew ?_) | (with_reducible refine Below.alloc ?_ ?hh _; case hh => first | (simp; done) | (simp; omega) | omega) | (with_reducible refine Below.setCell ?_ ?hh _; case hh => first | (simp; done) | (simp; omega) | omega) | refine bstep (by assumption) (by first | (simp; done) | (simp; omega) | omega) ?_))) hq he (by omega) hs hl) ?_) | fail)
  rintro r w1 ⟨rfl, E1, cap1, hC1, hK1, _, hE1, hr1⟩
  have hln : (xs ++ [(e : Int)]).length = xs.length + 1 := by simp
  rw [hln] at hr1
  have hz1 := hK1.size
  have hR1 : w1.heap[w.heap.size]? = some (.cells #[.int .i64 0, .string ⟨#[]⟩, .slice none 0 0, .string ⟨#[]⟩, .slice none 0 0] 43 (0, 0)) := (hK1.block _ (by simp) (by omega) (by omega)).trans (heap_alloc_new w _)
  simp only [World.size_alloc] at hz1 hE1
  have hKw1 : Kc C E w w1 := (Kc.of_below (by repeat (first | (with_reducible exact Below.refl _ _) | (with_reducible refine Below.drew ?_) | (with_reducible refine Below.alloc ?_ ?hh _; case hh => first | (simp; done) | (simp; omega) | omega) | (with_reducible refine Below.setCell ?_ ?hh _; case hh => first | (simp; done) | (simp; omega) | omega) | refine bstep (by assumption) (by first | (simp; done) | (simp; omega) | omega) ?_))).trans hK1 (.inl rfl)
  have hE1w : E1 = E ∨ w.heap.size + 1 ≤ E1 := hE1
  have hC1l := hC1.ltC
  have hE1l := hC1.ltE
  clear hK1 h
  have T2 : ∀ wz : World, Ct wz C E1 cap1 s (sA s e q).2 (xs ++ [(e : Int)]) → Calls Try.prog 93 #[.pointer (some ⟨C, 0, none⟩)] wz fun r w' => r = .returned (.string (sB s e q).1) ∧ Ct w' C E1 cap1 s (sB s e q).2 (xs ++ [(e : Int)]) ∧ Kc C E1 wz w' := fun wz hz => ctext_any C E1 cap1 s (sA s e q).2 xs e wz hz (by omega) q1 he hs hl
  have T3 : ∀ wz : World, Ct wz C E1 cap1 s (sB s e q).2 (xs ++ [(e : Int)]) → Calls Try.prog 94 #[.pointer (some ⟨C, 0, none⟩), .func (.func 93) #[.pointer (some ⟨C, 0, none⟩)] #[]] wz fun r w' => ∃ u, r = .returned u ∧ w'.ownsRow wz.heap.size 9 1 u (sX s e q).cs.length ((sX s e q).cs.map Value.string) ∧ Ct w' C E1 cap1 s (sC' s e q).2 (xs ++ [(e : Int)]) ∧ Kc C E1 wz w' := by
    intro wz hz
    refine Calls.mono (sev_any C E1 cap1 s (sB s e q).2 xs e wz hz (by omega) q2 he hs hl) ?_
    rintro r w' ⟨u, rfl, h1, h2, h3⟩
    refine ⟨u, rfl, ?_, h2, h3⟩
    show w'.ownsRow wz.heap.size 9 1 u (sC' s e q).1.length ((sC' s e q).1.map Value.string)
    have hcl : (sC' s e q).1.length = (nm s e 1 (sB s e q).2).1.toNat := csn_len _
    rw [hcl]; exact h1
  have T4 : ∀ wz : World, Ct wz C E1 cap1 s (sC' s e q).2 (xs ++ [(e : Int)]) → Calls Try.prog 93 #[.pointer (some ⟨C, 0, none⟩)] wz fun r w' => r = .returned (.string (sD s e q).1) ∧ Ct w' C E1 cap1 s (sD s e q).2 (xs ++ [(e : Int)]) ∧ Kc C E1 wz w' := fun wz hz => ctext_any C E1 cap1 s (sC' s e q).2 xs e wz hz (by omega) q4 he hs hl
  have T5' : ∀ wz : World, Ct wz C E1 cap1 s (sD s e q).2 (xs ++ [(e : Int)]) → Calls Try.prog 95 #[.pointer (some ⟨C, 0, none⟩), .func (.func 96) #[.pointer (some ⟨C, 0, none⟩)] #[]] wz fun r w' => ∃ u us G, r = .returned u ∧ RelOwn w' wz.heap.size u (sX s e q).rs us G ∧ Ct w' C E1 cap1 s (sE s e q).2 (xs ++ [(e : Int)]) ∧ Kc C E1 wz w' := fun wz hz => sevR_any C E1 cap1 s (sD s e q).2 xs e wz hz (by omega) q5 he hs hl
  have T6 : ∀ wz : World, Ct wz C E1 cap1 s (sE s e q).2 (xs ++ [(e : Int)]) → Calls Try.prog 97 #[.pointer (some ⟨C, 0, none⟩)] wz fun r w' => r = .returned (.tuple #[]) ∧ Ct w' C E1 cap1 s ((sE s e q).2.1, sT s e q) xs ∧ Kc C E1 wz w' := fun wz hz => leave_any C E1 cap1 s (sE s e q).2 xs e wz hz
  have hRC : w.heap.size ≠ C := by omega
  have hRE : w.heap.size ≠ E1 := by omega
  have hSC : w1.heap.size ≠ C := by omega
  have hSE : w1.heap.size ≠ E1 := by omega
  rw [show (nm s e 1 q).1 = (sA s e q).1 from rfl]
  replace hC1 : Ct w1 C E1 cap1 s (sA s e q).2 (xs ++ [(e : Int)]) := hC1
  go_wp2_with (first | (go_at_call 93; with_reducible refine Calls.mono (T2 _ (hC1.below (by repeat (first | (with_reducible exact Below.refl _ _) | (with_reducible refine Below.drew ?_) | (with_reducible refine Below.alloc ?_ ?hh _; case hh => first | (simp; done) | (simp; omega) | omega) | (with_reducible refine Below.setCell ?_ ?hh _; case hh => first | (simp; done) | (simp; omega) | omega) | refine bstep (by assumption) (by first | (simp; done) | (simp; omega) | omega) ?_)))) ?_) | fail)
  rintro r w2 ⟨rfl, hC2, hK2⟩
  have hS2 : w2.heap[w1.heap.size]? = some (.cells #[.int .i64 (sA s e q).1, .string ⟨#[]⟩, .slice none 0 0, .string ⟨#[]⟩, .slice none 0 0] 43 (0, 0)) := (hK2.block _ (by simp) hSC hSE).trans (heap_alloc_new w1 _)
  have hR2 : w2.heap[w.heap.size]? = some (.cells #[.int .i64 0, .string ⟨#[]⟩, .slice none 0 0, .string ⟨#[]⟩, .slice none 0 0] 43 (0, 0)) := (hK2.block _ (by simp; omega) hRC hRE).trans ((heap_alloc_old w1 _ (by omega)).trans hR1)
  have hz2 := hK2.size
  simp only [World.size_alloc] at hz2
  have hKa2 : Kc C E1 w1 w2 := (Kc.of_below (by repeat (first | (with_reducible exact Below.refl _ _) | (with_reducible refine Below.drew ?_) | (with_reducible refine Below.alloc ?_ ?hh _; case hh => first | (simp; done) | (simp; omega) | omega) | (with_reducible refine Below.setCell ?_ ?hh _; case hh => first | (simp; done) | (simp; omega) | omega) | refine bstep (by assumption) (by first | (simp; done) | (simp; omega) | omega) ?_))).trans hK2 (.inl rfl)
  have hS2l := heap_lt hS2
  have s21 : w2.cell? ⟨w1.heap.size, 1, none⟩ = some (.string ⟨#[]⟩) := by rw [Lib.cell_of_heap hS2]; rfl
  have s2f : w2.frozen? ⟨w1.heap.size, 1, none⟩ = false := Lib.frozen_of_heap hS2 1
  clear hC1 hK2
  go_wp2_with (first | (go_at_call 94; with_reducible refine Calls.mono (T3 _ (hC2.far hSC hSE 1 _)) ?_) | fail)
  rintro r w3 ⟨uc, rfl, hO3, hC3, hK3⟩
  have hs3 : ∃ ac nc cc, uc = .slice ac nc cc := by
    rcases hO3.2 with ⟨hv, _⟩ | ⟨g, cap, cur, hv, _⟩ <;> exact ⟨_, _, _, hv⟩
  obtain ⟨ac, nc, cc, rfl⟩ := hs3
  have hS3 : w3.heap[w1.heap.size]? = some (.cells #[.int .i64 (sA s e q).1, .string (sB s e q).1, .slice none 0 0, .string ⟨#[]⟩, .slice none 0 0] 43 (0, 0)) := (hK3.block _ (by simpa using hS2l) hSC hSE).trans (by rw [set_blk hS2]; rfl)
  have hR3 : w3.heap[w.heap.size]? = some (.cells #[.int .i64 0, .string ⟨#[]⟩, .slice none 0 0, .string ⟨#[]⟩, .slice none 0 0] 43 (0, 0)) := (hK3.block _ (by simp; omega) hRC hRE).trans ((Below.heap_setCell _ _ _ _ (by intro e; dsimp only at e; omega)).trans hR2)
  have hz3 := hK3.size
  simp only [World.size_setCell] at hz3 hO3
  have hKa3 : Kc C E1 w1 w3 := (hKa2.far (Nat.le_refl _) 1 _).trans hK3 (.inl rfl)
  have hS3l := heap_lt hS3
  have s31 : w3.cell? ⟨w1.heap.size, 2, none⟩ = some (.slice none 0 0) := by rw [Lib.cell_of_heap hS3]; rfl
  have s3f : w3.frozen? ⟨w1.heap.size, 2, none⟩ = false := Lib.frozen_of_heap hS3 2
  have hOb := ownsRow_lt hO3
  clear hC2 hK3 hKa2 hS2 hR2 s21 s2f
  go_wp2_with (first | (go_at_call 93; with_reducible refine Calls.mono (T4 _ (hC3.far hSC hSE 2 _)) ?_) | fail)
  rintro r w4 ⟨rfl, hC4, hK4⟩
  have hS4 : w4.heap[w1.heap.size]? = some (.cells #[.int .i64 (sA s e q).1, .string (sB s e q).1, .slice ac nc cc, .string ⟨#[]⟩, .slice none 0 0] 43 (0, 0)) := (hK4.block _ (by simpa using hS3l) hSC hSE).trans (by rw [set_blk hS3]; rfl)
  have hR4 : w4.heap[w.heap.size]? = some (.cells #[.int .i64 0, .string ⟨#[]⟩, .slice none 0 0, .string ⟨#[]⟩, .slice none 0 0] 43 (0, 0)) := (hK4.block _ (by simp; omega) hRC hRE).trans ((Below.heap_setCell _ _ _ _ (by intro e; dsimp only at e; omega)).trans hR3)
  have hO4 : w4.ownsRow w2.heap.size 9 1 (.slice ac nc cc) (sX s e q).cs.length ((sX s e q).cs.map Value.string) := ownsRow_keep hO3 fun b hb => (hK4.block b (by simp; exact (hOb b hb).2) (by have := (hOb b hb).1; omega) (by have := (hOb b hb).1; omega)).trans (Below.heap_setCell _ _ _ _ (by intro e; dsimp only at e; have := (hOb b hb).1; omega))
  have hz4 := hK4.size
  simp only [World.size_setCell] at hz4
  have hKa4 : Kc C E1 w1 w4 := (hKa3.far (Nat.le_refl _) 2 _).trans hK4 (.inl rfl)
  have hS4l := heap_lt hS4
  have s41 : w4.cell? ⟨w1.heap.size, 3, none⟩ = some (.string ⟨#[]⟩) := by rw [Lib.cell_of_heap hS4]; rfl
  have s4f : w4.frozen? ⟨w1.heap.size, 3, none⟩ = false := Lib.frozen_of_heap hS4 3
  clear hC3 hK4 hKa3 hS3 hR3 s31 s3f
  go_wp2_with (first | (go_at_call 95; with_reducible refine Calls.mono (T5' _ (hC4.far hSC hSE 3 _)) ?_) | fail)
  rintro r w5 ⟨ur, us, G, rfl, hO5, hC5, hK5⟩
  obtain ⟨ar, cr, rfl⟩ := hO5.shape
  generalize (sX s e q).rs.length = nr at *
  have hS5 : w5.heap[w1.heap.size]? = some (.cells #[.int .i64 (sA s e q).1, .string (sB s e q).1, .slice ac nc cc, .string (sD s e q).1, .slice none 0 0] 43 (0, 0)) := (hK5.block _ (by simpa using hS4l) hSC hSE).trans (by rw [set_blk hS4]; rfl)
  have hR5 : w5.heap[w.heap.size]? = some (.cells #[.int .i64 0, .string ⟨#[]⟩, .slice none 0 0, .string ⟨#[]⟩, .slice none 0 0] 43 (0, 0)) := (hK5.block _ (by simp; omega) hRC hRE).trans ((Below.heap_setCell _ _ _ _ (by intro e; dsimp only at e; omega)).trans hR4)
  have hz5 := hK5.size
  simp only [World.size_setCell] at hz5 hO5
  have hKa5 : Kc C E1 w1 w5 := (hKa4.far (Nat.le_refl _) 3 _).trans hK5 (.inl rfl)
  have hOb4 := ownsRow_lt hO4
  have hO5s : w5.ownsRow w2.heap.size 9 1 (.slice ac nc cc) (sX s e q).cs.length ((sX s e q).cs.map Value.string) := ownsRow_keep hO4 fun b hb => (hK5.block b (by simp; exact (hOb4 b hb).2) (by have := (hOb4 b hb).1; omega) (by have := (hOb4 b hb).1; omega)).trans (Below.heap_setCell _ _ _ _ (by intro e; dsimp only at e; have := (hOb4 b hb).1; omega))
  have hS5l := heap_lt hS5
  have s51 : w5.cell? ⟨w1.heap.size, 4, none⟩ = some (.slice none 0 0) := by rw [Lib.cell_of_heap hS5]; rfl
  have s5f : w5.frozen? ⟨w1.heap.size, 4, none⟩ = false := Lib.frozen_of_heap hS5 4
  clear hC4 hK5 hKa4 hS4 hR4 s41 s4f hO4
  go_wp2_with (first | (go_at_call 97; with_reducible refine Calls.mono (T6 _ (hC5.far hSC hSE 4 _)) ?_) | fail)
  rintro r w6 ⟨rfl, hC6, hK6⟩
  have hS6 : w6.heap[w1.heap.size]? = some (.cells #[.int .i64 (sA s e q).1, .string (sB s e q).1, .slice ac nc cc, .string (sD s e q).1, .slice ar nr cr] 43 (0, 0)) := (hK6.block _ (by simpa using hS5l) hSC hSE).trans (by rw [set_blk hS5]; rfl)
  have hR6 : w6.heap[w.heap.size]? = some (.cells #[.int .i64 0, .string ⟨#[]⟩, .slice none 0 0, .string ⟨#[]⟩, .slice none 0 0] 43 (0, 0)) := (hK6.block _ (by simp; omega) hRC hRE).trans ((Below.heap_setCell _ _ _ _ (by intro e; dsimp only at e; omega)).trans hR5)
  have hz6 := hK6.size
  simp only [World.size_setCell] at hz6
  have hKa6 : Kc C E1 w1 w6 := (hKa5.far (Nat.le_refl _) 4 _).trans hK6 (.inl rfl)
  have hOb5 := ownsRow_lt hO5s
  have hO6 : w6.ownsRow w2.heap.size 9 1 (.slice ac nc cc) (sX s e q).cs.length ((sX s e q).cs.map Value.string) := ownsRow_keep hO5s fun b hb => (hK6.block b (by simp; exact (hOb5 b hb).2) (by have := (hOb5 b hb).1; omega) (by have := (hOb5 b hb).1; omega)).trans (Below.heap_setCell _ _ _ _ (by intro e; dsimp only at e; have := (hOb5 b hb).1; omega))
  have hQ6 : RelOwn w6 w4.heap.size (.slice ar nr cr) (sX s e q).rs us G := hO5.keep (by omega) fun b h1 h2 => (hK6.block b (by simpa using h2) (by omega) (by omega)).trans (Below.heap_setCell _ _ _ _ (by intro e; dsimp only at e; omega))
  have hbc : ∀ b, (Value.slice ac nc cc).ownBlock = some b → b < w4.heap.size := fun b hb => (hOb4 b hb).2
  clear hO5 hO5s hK6 hKa5 hS5 hR5 s51 s5f hC5 hOb hOb4 hOb5
  obtain ⟨g6, hg6, _, _⟩ := strs_own hO6
  obtain ⟨F6, hF6, _⟩ := hQ6.relsF
  have hIs : StpIs w6 (.slice ac nc cc) (.slice ar nr cr) (sX s e q) := ⟨⟨g6, hg6⟩, hF6.is⟩
  have HSt : Hid (∀ wz : World, Below w6.heap.size w6 wz → Calls Try.prog 45 #[.agg #[.int .i64 (sA s e q).1, .string (sB s e q).1, .slice ac nc cc, .string (sD s e q).1, .slice ar nr cr]] wz fun r w' => r = .returned (.bool (okStep (sX s e q))) ∧ Below wz.heap.size wz w') := fun wz hz => implStepOk_any (sX s e q) (.slice ac nc cc) (.slice ar nr cr) wz hwf (hIs.below hz)
  have hR6l := heap_lt hR6
  have hS6l := heap_lt hS6
  have hC6l := hC6.ltC
  have HF : Hid (∀ wz : World, Below w6.heap.size w6 wz → Stepped w (((((wz.setCell ⟨w.heap.size, 0, none⟩ (.int .i64 (sA s e q).1)).setCell ⟨w.heap.size, 1, none⟩ (.string (sB s e q).1)).setCell ⟨w.heap.size, 2, none⟩ (.slice ac nc cc)).setCell ⟨w.heap.size, 3, none⟩ (.string (sD s e q).1)).setCell ⟨w.heap.size, 4, none⟩ (.slice ar nr cr)) C E s e q xs (.slice ac nc cc) (.slice ar nr cr)) := by
    intro wz hz
    have hfar : ∀ b, b ≠ w.heap.size → (((((wz.setCell ⟨w.heap.size, 0, none⟩ (.int .i64 (sA s e q).1)).setCell ⟨w.heap.size, 1, none⟩ (.string (sB s e q).1)).setCell ⟨w.heap.size, 2, none⟩ (.slice ac nc cc)).setCell ⟨w.heap.size, 3, none⟩ (.string (sD s e q).1)).setCell ⟨w.heap.size, 4, none⟩ (.slice ar nr cr)).heap[b]? = wz.heap[b]? := by
      intro b hb
      iterate 5 rw [Below.heap_setCell _ _ _ _ (by intro e; dsimp only at e; omega)]
    have hszW : (((((wz.setCell ⟨w.heap.size, 0, none⟩ (.int .i64 (sA s e q).1)).setCell ⟨w.heap.size, 1, none⟩ (.string (sB s e q).1)).setCell ⟨w.heap.size, 2, none⟩ (.slice ac nc cc)).setCell ⟨w.heap.size, 3, none⟩ (.string (sD s e q).1)).setCell ⟨w.heap.size, 4, none⟩ (.slice ar nr cr)).heap.size = wz.heap.size := by simp
    refine ⟨us, G, w4.heap.size, ?_, ?_, by omega, hbc, ⟨E1, cap1, ?_, by omega⟩, ?_⟩
    · have o1 : wz.ownsRow w2.heap.size 9 1 (.slice ac nc cc) (sX s e q).cs.length ((sX s e q).cs.map Value.string) := ownsRow_keep hO6 fun b hb => hz.block b (ownsRow_lt hO6 b hb).2
      have o2 := ownsRow_keep (w' := ((((wz.setCell ⟨w.heap.size, 0, none⟩ (.int .i64 (sA s e q).1)).setCell ⟨w.heap.size, 1, none⟩ (.string (sB s e q).1)).setCell ⟨w.heap.size, 2, none⟩ (.slice ac nc cc)).setCell ⟨w.heap.size, 3, none⟩ (.string (sD s e q).1)).setCell ⟨w.heap.size, 4, none⟩ (.slice ar nr cr)) o1 fun b hb => hfar b (by have := (ownsRow_lt o1 b hb).1; omega)
      refine ⟨o2.1, ?_⟩
      rcases o2.2 with o3 | ⟨g, cap, cur, h1, h2, h3⟩
      · exact .inl o3
      · exact .inr ⟨g, cap, cur, h1, by omega, h3⟩
    · exact (hQ6.below hz).keep (by rw [hszW]; exact Nat.le_refl _) fun b h1 h2 => hfar b (by omega)
    · exact (hC6.below hz).keep (hfar C (by omega)) (hfar E1 (by omega))
    · have k1 : Kc C E1 w1 wz := hKa6.trans (Kc.of_below hz) (.inl rfl)
      have k2 : Kc C E w wz := hKw1.trans k1 (by omega)
      exact ⟨k2.os, k2.tape, k2.output, by rw [hszW]; exact k2.size, fun b hb h1 h2 => (hfar b (by omega)).trans (k2.block b hb h1 h2)⟩
  obtain ⟨_, _, _, c3, _⟩ := hC6.cells
  dsimp only at c3
  have a0 : w6.cell? ⟨w1.heap.size, 0, none⟩ = some (.int .i64 (sA s e q).1) := by rw [Lib.cell_of_heap hS6]; rfl
  have a1 : w6.cell? ⟨w1.heap.size, 1, none⟩ = some (.string (sB s e q).1) := by rw [Lib.cell_of_heap hS6]; rfl
  have a2 : w6.cell? ⟨w1.heap.size, 2, none⟩ = some (.slice ac nc cc) := by rw [Lib.cell_of_heap hS6]; rfl
  have a3 : w6.cell? ⟨w1.heap.size, 3, none⟩ = some (.string (sD s e q).1) := by rw [Lib.cell_of_heap hS6]; rfl
  have a4 : w6.cell? ⟨w1.heap.size, 4, none⟩ = some (.slice ar nr cr) := by rw [Lib.cell_of_heap hS6]; rfl
  have b0 : w6.cell? ⟨w.heap.size, 0, none⟩ = some (.int .i64 0) := by rw [Lib.cell_of_heap hR6]; rfl
  have b1 : w6.cell? ⟨w.heap.size, 1, none⟩ = some (.string ⟨#[]⟩) := by rw [Lib.cell_of_heap hR6]; rfl
  have b2 : w6.cell? ⟨w.heap.size, 2, none⟩ = some (.slice none 0 0) := by rw [Lib.cell_of_heap hR6]; rfl
  have b3 : w6.cell? ⟨w.heap.size, 3, none⟩ = some (.string ⟨#[]⟩) := by rw [Lib.cell_of_heap hR6]; rfl
  have b4 : w6.cell? ⟨w.heap.size, 4, none⟩ = some (.slice none 0 0) := by rw [Lib.cell_of_heap hR6]; rfl
  have bf : ∀ i, w6.frozen? ⟨w.heap.size, i, none⟩ = false := fun i => Lib.frozen_of_heap hR6 i
  have hRS : w.heap.size ≠ w1.heap.size := by omega
  have HO : Hid (sO s e q = (!sT s e q && okStep (sX s e q))) := rfl
  clear hC6 hKa6 hS6 hR6 hO6 hQ6 hbc hg6 hF6 hIs hKw1 T2 T3 T4 T5' T6 hwf
  cases ht : sT s e q
  · rw [ht] at c3
    go_wp2_with fail
    go_region_held3 (fun w' => w'.cell? ⟨w1.heap.size, 0, none⟩ = some (.int .i64 (sA s e q).1) ∧ w'.cell? ⟨w1.heap.size, 1, none⟩ = some (.string (sB s e q).1) ∧ w'.cell? ⟨w1.heap.size, 2, none⟩ = some (.slice ac nc cc) ∧ w'.cell? ⟨w1.heap.size, 3, none⟩ = some (.string (sD s e q).1) ∧ w'.cell? ⟨w1.heap.size, 4, none⟩ = some (.slice ar nr cr) ∧ w'.cell? ⟨C, 3, none⟩ = some (.bool false)) (first | (with_reducible exact ⟨a0, a1, a2, a3, a4, c3⟩) | (with_reducible exact ⟨y0, y1, y2, y3, y4, y5⟩) | (refine ⟨?_, ?_, ?_, ?_, ?_, ?_⟩ <;> first | (with_reducible assumption) | (go_simp; done))) (first | (go_at_call 45; with_reducible refine Calls.mono (HSt.out _ (by repeat (first | (with_reducible exact Below.refl _ _) | (with_reducible refine Below.drew ?_) | (with_reducible refine belowN ?_ _) | (with_reducible refine Below.alloc ?_ ?hh _; case hh => first | (simp; done) | (simp; omega) | omega) | (with_reducible refine Below.setCell ?_ ?hh _; case hh => first | (simp; done) | (simp; omega) | omega) | refine bstep (by assumption) (by first | (simp; done) | (simp; omega) | omega) ?_))) ?_; rintro r w7 ⟨rfl, hb7⟩; have bel7 : Below w6.heap.size w6 w7 := (by repeat (first | (with_reducible exact Below.refl _ _) | (with_reducible refine Below.drew ?_) | (with_reducible refine belowN ?_ _) | (with_reducible refine Below.alloc ?_ ?hh _; case hh => first | (simp; done) | (simp; omega) | omega) | (with_reducible refine Below.setCell ?_ ?hh _; case hh => first | (simp; done) | (simp; omega) | omega) | refine bstep (by assumption) (by first | (simp; done) | (simp; omega) | omega) ?_)); have hzz := bel7.size; have y0 := ((bcell bel7).1 w1.heap.size 0 hS6l).trans a0; have y1 := ((bcell bel7).1 w1.heap.size 1 hS6l).trans a1; have y2 := ((bcell bel7).1 w1.heap.size 2 hS6l).trans a2; have y3 := ((bcell bel7).1 w1.heap.size 3 hS6l).trans a3; have y4 := ((bcell bel7).1 w1.heap.size 4 hS6l).trans a4; have r0 := ((bcell bel7).1 w.heap.size 0 hR6l).trans b0; have r1 := ((bcell bel7).1 w.heap.size 1 hR6l).trans b1; have r2 := ((bcell bel7).1 w.heap.size 2 hR6l).trans b2; have r3 := ((bcell bel7).1 w.heap.size 3 hR6l).trans b3; have r4 := ((bcell bel7).1 w.heap.size 4 hR6l).trans b4; have y5 := ((bcell bel7).1 C 3 hC6l).trans c3; have rf : ∀ i, w7.frozen? ⟨w.heap.size, i, none⟩ = false := (fun i => ((bcell bel7).2 w.heap.size i hR6l).trans (bf i))) | fail)
    all_goals go_wp2
    all_goals refine bodyPost_ret (v := .tuple #[.agg #[.int .i64 (sA s e q).1, .string (sB s e q).1, .slice ac nc cc, .string (sD s e q).1, .slice ar nr cr], .bool (okStep (sX s e q))]) (by simp [results, Try.results56, go_sem, *]) rfl ⟨.slice ac nc cc, .slice ar nr cr, by rw [HO.out, ht]; rfl, HF.out _ (by repeat (first | (with_reducible exact Below.refl _ _) | (with_reducible refine Below.drew ?_) | (with_reducible refine belowN ?_ _) | (with_reducible refine Below.alloc ?_ ?hh _; case hh => first | (simp; done) | (simp; omega) | omega) | (with_reducible refine Below.setCell ?_ ?hh _; case hh => first | (simp; done) | (simp; omega) | omega) | refine bstep (by assumption) (by first | (simp; done) | (simp; omega) | omega) ?_))⟩
  · rw [ht] at c3
    go_wp2_with fail
    first | go_region | fail
    all_goals go_wp2
    all_goals refine bodyPost_ret (v := .tuple #[.agg #[.int .i64 (sA s e q).1, .string (sB s e q).1, .slice ac nc cc, .string (sD s e q).1, .slice ar nr cr], .bool false]) (by simp [results, Try.results56, go_sem, *]) rfl ⟨.slice ac nc cc, .slice ar nr cr, by rw [HO.out, ht]; rfl, (HF.out w6 (Below.refl _ _)).drew⟩
end Go.Proofs.Ytmomffaceglibaa
/- Own text. The contract of the program's GetStep. -/
namespace Go.Proofs.Ytmomffaceglibaa
open Go.RowKit Go.Deep
set_option linter.unusedVariables false
/-- a step's two lists in memory of the call's own from N on. -/
def StpOwn (w : World) (N : Nat) (uc ur : Value) (x : T5) (g F : List Nat) : Prop := StrsF w uc x.cs g ∧ RelsF w ur x.rs F ∧ Own w N g ∧ Own w N F ∧ ∀ b ∈ g, b ∉ F
theorem StpOwn.is {w : World} {N : Nat} {uc ur : Value} {x : T5} {g F : List Nat} (h : StpOwn w N uc ur x g F) : StpIs w uc ur x := ⟨⟨g, h.1⟩, h.2.1.is⟩
theorem StpOwn.below {w w' : World} {N : Nat} {uc ur : Value} {x : T5} {g F : List Nat} (h : StpOwn w N uc ur x g F) (hb : Below w.heap.size w w') : StpOwn w' N uc ur x g F :=
  ⟨h.1.below hb, h.2.1.below hb, h.2.2.1.below h.1.lt hb, h.2.2.2.1.below h.2.1.lt hb, h.2.2.2.2⟩
theorem StpOwn.keep {w w' : World} {N : Nat} {uc ur : Value} {x : T5} {g F : List Nat} (h : StpOwn w N uc ur x g F) (hs : w.heap.size ≤ w'.heap.size) (hb : ∀ b, N ≤ b → b < w.heap.size → w'.heap[b]? = w.heap[b]?) : StpOwn w' N uc ur x g F :=
  have k1 : ∀ b ∈ g, w'.heap[b]? = w.heap[b]? := fun b hg => hb b (h.2.2.1.2.1 b hg) (h.1.lt b hg)
  have k2 : ∀ b ∈ F, w'.heap[b]? = w.heap[b]? := fun b hg => hb b (h.2.2.2.1.2.1 b hg) (h.2.1.lt b hg)
  ⟨h.1.keep hs k1, h.2.1.keep hs k2, h.2.2.1.keep k1, h.2.2.2.1.keep k2, h.2.2.2.2⟩
theorem StpOwn.weak {w : World} {N M : Nat} {uc ur : Value} {x : T5} {g F : List Nat} (h : StpOwn w N uc ur x g F) (hM : M ≤ N) : StpOwn w M uc ur x g F :=
  ⟨h.1, h.2.1, ⟨h.2.2.1.1, fun b hb => Nat.le_trans hM (h.2.2.1.2.1 b hb), h.2.2.1.2.2⟩, ⟨h.2.2.2.1.1, fun b hb => Nat.le_trans hM (h.2.2.2.1.2.1 b hb), h.2.2.2.1.2.2⟩, h.2.2.2.2⟩
theorem five_far {w2 : World} {R : Nat} (a b c d e : Value) (L : Array Value) {k : Nat} (hk : k ≠ R) (hl : k < w2.heap.size) : ((((((w2.setCell ⟨R, 0, none⟩ a).setCell ⟨R, 1, none⟩ b).setCell ⟨R, 2, none⟩ c).setCell ⟨R, 3, none⟩ d).setCell ⟨R, 4, none⟩ e).alloc (.cells L 43)).heap[k]? = w2.heap[k]? := by
  rw [heap_alloc_old _ _ (by simpa using hl)]
  iterate 5 rw [Below.heap_setCell _ _ _ _ (by simpa using hk)]
theorem StpOwn.nil (w : World) (N : Nat) : StpOwn w N (.slice none 0 0) (.slice none 0 0) zT [] [] := by
  refine ⟨⟨none, 0, rfl, Nat.le_refl _, by simp [maxLen], fun _ => rfl, fun x => absurd rfl x⟩, ⟨none, 0, [], rfl, Nat.le_refl _, by simp [maxLen], fun _ => rfl, rfl, fun _ => rfl, fun x => absurd rfl x⟩, by simp [Own, Free], by simp [Own, Free], fun b hb => by cases hb⟩
theorem Stepped.own {w w' : World} {C E : Nat} {s : ByteArray} {e : Nat} {q : Nat × Bool} {xs : List Int} {uc ur : Value} (h : Stepped w w' C E s e q xs uc ur) : ∃ g F, StpOwn w' w.heap.size uc ur (sX s e q) g F := by
  obtain ⟨us, G, M, h1, h2, h3, h4, _, _⟩ := h
  obtain ⟨g, hg, hOg, hub⟩ := strs_own h1
  obtain ⟨F, hF, hOF⟩ := h2.relsF
  exact ⟨g, F, hg, hF, hOg, ⟨hOF.1, fun b hb => Nat.le_trans h3 (hOF.2.1 b hb), hOF.2.2⟩, fun b hb hb2 => by have := h4 b (hub b hb); have := hOF.2.1 b hb2; omega⟩
set_option maxHeartbeats 4000000 in
set_option maxRecDepth 100000 in
theorem implGetStep_any (s : ByteArray) (w : World) (hs : s.size ≤ 1048576) :
    Calls Try.prog 21 #[.string s] w fun r w' => (∃ uc ur g F, r = .returned (.tuple #[.agg #[.int .i64 (gT s).k, .string (gT s).s, uc, .string (gT s).q, ur], .bool (gO s)]) ∧ StpOwn w' w.heap.size uc ur (gT s) g F) ∧ Below w.heap.size w w' := by
  have T2 : ∀ (C E cap : Nat) (wz : World), Ct wz C E cap s (0, false) [(s.size : Int)] → Calls Try.prog 56 #[.pointer (some ⟨C, 0, none⟩)] wz fun r w' => ∃ uc ur, r = .returned (.tuple #[.agg #[.int .i64 (sX s s.size (0, false)).k, .string (sX s s.size (0, false)).s, uc, .string (sX s s.size (0, false)).q, ur], .bool (gO s)]) ∧ Stepped wz w' C E s s.size (0, false) [] uc ur :=
    fun C E cap wz hz => step_any C E cap s (0, false) [] s.size wz hz (Nat.zero_le _) (Nat.le_refl _) hs (Nat.zero_le _)
  go_enter Try.func21, Try.ntmps21
  go_wp2_with (first | (go_at_call 55; with_reducible refine Calls.mono (cutterOf_any s _ hs) ?_) | fail)
  rintro r w1 ⟨rfl, E, cap, hC, hb1, hE⟩
  simp only [World.size_alloc] at hE hC hb1
  have hz1 := hb1.size
  simp only [World.size_alloc] at hz1
  have hCl := hC.ltC
  have hEl := hC.ltE
  rw [World.size_alloc]
  go_wp2_with (first | (go_at_call 56; with_reducible refine Calls.mono (T2 _ E cap _ hC) ?_) | fail)
  rintro r w2 ⟨uc, ur, rfl, hSt⟩
  obtain ⟨g, F, hO⟩ := hSt.own
  obtain ⟨_, _, _, _, _, _, _, _, hK⟩ := hSt
  have hz2 := hK.size
  have hR2 : w2.heap[w.heap.size]? = some (.cells #[.int .i64 0, .string ⟨#[]⟩, .slice none 0 0, .string ⟨#[]⟩, .slice none 0 0] 43 (0, 0)) := (hK.block _ (by omega) (by omega) (by omega)).trans ((hb1.block _ (by simp)).trans (heap_alloc_new w _))
  have hbw : Below w.heap.size w w2 := ⟨hK.os.trans hb1.os, hK.tape.trans hb1.tape, hK.output.trans hb1.output, by omega, fun k hk => (hK.block k (by omega) (by omega) (by omega)).trans ((hb1.block k (by omega)).trans (heap_alloc_old w _ hk))⟩
  have hs1 := hO.1.shape
  have hs2 : ∃ a c, ur = .slice a (sX s s.size (0, false)).rs.length c := by
    obtain ⟨a, c, _, h, _⟩ := hO.2.1
    exact ⟨a, c, h⟩
  obtain ⟨ac, cc, rfl, _, _⟩ := hs1
  obtain ⟨ar, cr, rfl⟩ := hs2
  have hR2l := heap_lt hR2
  have b0 : w2.cell? ⟨w.heap.size, 0, none⟩ = some (.int .i64 0) := by rw [Lib.cell_of_heap hR2]; rfl
  have b1 : w2.cell? ⟨w.heap.size, 1, none⟩ = some (.string ⟨#[]⟩) := by rw [Lib.cell_of_heap hR2]; rfl
  have b2 : w2.cell? ⟨w.heap.size, 2, none⟩ = some (.slice none 0 0) := by rw [Lib.cell_of_heap hR2]; rfl
  have b3 : w2.cell? ⟨w.heap.size, 3, none⟩ = some (.string ⟨#[]⟩) := by rw [Lib.cell_of_heap hR2]; rfl
  have b4 : w2.cell? ⟨w.heap.size, 4, none⟩ = some (.slice none 0 0) := by rw [Lib.cell_of_heap hR2]; rfl
  have bf : ∀ i, w2.frozen? ⟨w.heap.size, i, none⟩ = false := fun i => Lib.frozen_of_heap hR2 i
  have HO : Hid (StpOwn w2 (w.heap.size + 1) (.slice ac (sX s s.size (0, false)).cs.length cc) (.slice ar (sX s s.size (0, false)).rs.length cr) (sX s s.size (0, false)) g F) := ⟨hO.1, hO.2.1, ⟨hO.2.2.1.1, fun b hb => by have := hO.2.2.1.2.1 b hb; omega, hO.2.2.1.2.2⟩, ⟨hO.2.2.2.1.1, fun b hb => by have := hO.2.2.2.1.2.1 b hb; omega, hO.2.2.2.1.2.2⟩, hO.2.2.2.2⟩
  have HB : Hid (Below w.heap.size w w2) := hbw
  clear hO hbw hK hR2 hb1 T2 hC
  have HG : Hid (gT s = if gO s = true then sX s s.size (0, false) else zT) := rfl
  generalize (sX s s.size (0, false)).cs.length = nc at *
  generalize (sX s s.size (0, false)).rs.length = nr at *
  have HF : Hid (∀ (a b c d e : Value) (L : Array Value), Below w.heap.size w ((((((w2.setCell ⟨w.heap.size, 0, none⟩ a).setCell ⟨w.heap.size, 1, none⟩ b).setCell ⟨w.heap.size, 2, none⟩ c).setCell ⟨w.heap.size, 3, none⟩ d).setCell ⟨w.heap.size, 4, none⟩ e).alloc (.cells L 43)) ∧ StpOwn ((((((w2.setCell ⟨w.heap.size, 0, none⟩ a).setCell ⟨w.heap.size, 1, none⟩ b).setCell ⟨w.heap.size, 2, none⟩ c).setCell ⟨w.heap.size, 3, none⟩ d).setCell ⟨w.heap.size, 4, none⟩ e).alloc (.cells L 43)) w.heap.size (.slice ac nc cc) (.slice ar nr cr) (sX s s.size (0, false)) g F) := by
    intro a b c d e L
    have hB := HB.out
    have hz := hB.size
    have hsz : ((((((w2.setCell ⟨w.heap.size, 0, none⟩ a).setCell ⟨w.heap.size, 1, none⟩ b).setCell ⟨w.heap.size, 2, none⟩ c).setCell ⟨w.heap.size, 3, none⟩ d).setCell ⟨w.heap.size, 4, none⟩ e).alloc (.cells L 43)).heap.size = w2.heap.size + 1 := by simp
    refine ⟨⟨hB.os, hB.tape, hB.output, by omega, fun k hk => (five_far a b c d e L (by omega) (by omega)).trans (hB.block k hk)⟩, ?_⟩
    exact (HO.out.keep (by omega) fun k h1 h2 => five_far a b c d e L (by omega) h2).weak (by omega)
  clear HO HB
  cases hg : gO s
  · have HZ : Hid (gT s = zT) := by rw [hg] at HG; exact HG
    go_wp2
    refine bodyPost_ret (v := .tuple #[.agg #[.int .i64 0, .string ⟨#[]⟩, .slice none 0 0, .string ⟨#[]⟩, .slice none 0 0], .bool false]) (by simp [results, Try.results21, go_sem, *]) rfl ⟨⟨.slice none 0 0, .slice none 0 0, [], [], (by rw [HZ.out, hg]; try rfl), by rw [HZ.out]; exact StpOwn.nil _ _⟩, (HF.out _ _ _ _ _ _).1⟩
  · have HZ : Hid (gT s = sX s s.size (0, false)) := by rw [hg] at HG; exact HG
    go_wp2
    refine bodyPost_ret (v := .tuple #[.agg #[.int .i64 (sX s s.size (0, false)).k, .string (sX s s.size (0, false)).s, .slice ac nc cc, .string (sX s s.size (0, false)).q, .slice ar nr cr], .bool true]) (by simp [results, Try.results21, go_sem, *]) rfl ⟨⟨.slice ac nc cc, .slice ar nr cr, g, F, (by rw [HZ.out, hg]; try rfl), by rw [HZ.out]; exact (HF.out _ _ _ _ _ _).2⟩, (HF.out _ _ _ _ _ _).1⟩
end Go.Proofs.Ytmomffaceglibaa
/- Own text. The contract of the model's GetStep. -/
namespace Go.Proofs.Ytmomffaceglibaa
open Go.RowKit Go.Deep
set_option linter.unusedVariables false
theorem mem_lt {w : World} {b : Nat} {o : Obj} (h : w.heap[b]? = some o) : b < w.heap.size := heap_lt h
theorem alloc2_new (w : World) (A B : Obj) : ((w.alloc A).alloc B).heap[w.heap.size + 1]? = some B := by
  have h := heap_alloc_new (w.alloc A) B
  rwa [World.size_alloc] at h
theorem results_ct {fn : Func} {a u : Tmp} {t : TypeId} (h : fn.results = #[.cell a t, .tmp u]) (tmps : Array Value) (P : Program) (w : World) (v : Value) (p : Addr) (hp : tmps.getD a undef = .pointer (some p)) (hl : (loadVar t p).run P w = .ok v w) : (results fn tmps).run P w = .ok (.tuple #[v, tmps.getD u undef]) w := by
  have hp2 : tmps[a]?.getD undef = .pointer (some p) := by rw [← hp]; simp
  simp [results, h, hp2, hl, asAddr]
theorem load5 {w : World} {R : Nat} {a0 a1 a2 a3 a4 : Value} (c0 : w.cell? ⟨R, 0, none⟩ = some a0) (c1 : w.cell? ⟨R, 1, none⟩ = some a1) (c2 : w.cell? ⟨R, 2, none⟩ = some a2) (c3 : w.cell? ⟨R, 3, none⟩ = some a3) (c4 : w.cell? ⟨R, 4, none⟩ = some a4) : (loadVar 43 ⟨R, 0, none⟩).run Try.prog w = .ok (.agg #[a0, a1, a2, a3, a4]) w := by
  simp [go_sem, c0, c1, c2, c3, c4]
def five (w : World) (R : Nat) (b0 b1 b2 b3 b4 : Value) : World := ((((w.setCell ⟨R, 0, none⟩ b0).setCell ⟨R, 1, none⟩ b1).setCell ⟨R, 2, none⟩ b2).setCell ⟨R, 3, none⟩ b3).setCell ⟨R, 4, none⟩ b4
theorem five_read {w : World} {R : Nat} {a0 a1 a2 a3 a4 : Value} {t : TypeId} (h : w.heap[R]? = some (.cells #[a0, a1, a2, a3, a4] t (0, 0))) (b0 b1 b2 b3 b4 : Value) : (five w R b0 b1 b2 b3 b4).heap[R]? = some (.cells #[b0, b1, b2, b3, b4] t (0, 0)) :=
  set_blk (i := 4) (v := b4) (set_blk (i := 3) (v := b3) (set_blk (i := 2) (v := b2) (set_blk (i := 1) (v := b1) (set_blk (i := 0) (v := b0) h))))
theorem five_out {w wb : World} {R : Nat} {a0 a1 a2 a3 a4 : Value} {t : TypeId} (hb : Below w.heap.size w wb) (hR : w.heap.size ≤ R) (h : wb.heap[R]? = some (.cells #[a0, a1, a2, a3, a4] t (0, 0))) (b0 b1 b2 b3 b4 : Value) :
    (five wb R b0 b1 b2 b3 b4).cell? ⟨R, 0, none⟩ = some b0 ∧ (five wb R b0 b1 b2 b3 b4).cell? ⟨R, 1, none⟩ = some b1 ∧ (five wb R b0 b1 b2 b3 b4).cell? ⟨R, 2, none⟩ = some b2 ∧ (five wb R b0 b1 b2 b3 b4).cell? ⟨R, 3, none⟩ = some b3 ∧ (five wb R b0 b1 b2 b3 b4).cell? ⟨R, 4, none⟩ = some b4 ∧ Below w.heap.size w (five wb R b0 b1 b2 b3 b4) ∧ (∀ b, b ≠ R → (five wb R b0 b1 b2 b3 b4).heap[b]? = wb.heap[b]?) ∧ (five wb R b0 b1 b2 b3 b4).heap.size = wb.heap.size := by
  have h5 := five_read h b0 b1 b2 b3 b4
  refine ⟨by rw [Lib.cell_of_heap h5]; rfl, by rw [Lib.cell_of_heap h5]; rfl, by rw [Lib.cell_of_heap h5]; rfl, by rw [Lib.cell_of_heap h5]; rfl, by rw [Lib.cell_of_heap h5]; rfl, ?_, ?_, by simp [five]⟩
  · exact ((((hb.setCell (p := ⟨R, 0, none⟩) hR _).setCell (p := ⟨R, 1, none⟩) hR _).setCell (p := ⟨R, 2, none⟩) hR _).setCell (p := ⟨R, 3, none⟩) hR _).setCell (p := ⟨R, 4, none⟩) hR _
  · intro b hne
    unfold five
    iterate 5 rw [Below.heap_setCell _ _ _ _ (by simpa using hne)]
theorem alloc2_old (w : World) (A B : Obj) : ((w.alloc A).alloc B).heap[w.heap.size]? = some A := (heap_alloc_old _ _ (by simp)).trans (heap_alloc_new w A)
set_option maxHeartbeats 40000000 in
set_option maxRecDepth 100000 in
theorem specGetStep_any (s : ByteArray) (w : World) (hs : s.size ≤ 1048576) :
    Calls Try.prog 20 #[.string s] w fun r w' => (∃ uc ur, r = .returned (.tuple #[.agg #[.int .i64 (gT s).k, .string (gT s).s, uc, .string (gT s).q, ur], .bool (gO s)]) ∧ StpIs w' uc ur (gT s)) ∧ Below w.heap.size w w' := by
  obtain ⟨i0, hi, hz0, hz1, hz2⟩ := info_parts infoS5
  obtain ⟨j0, hj0, hy0, hy1, hy2⟩ := info_parts infoR5
  have q1 : (sA s s.size (0, false)).2.1 ≤ s.size := nm_at (by simp)
  have q2 : (sB s s.size (0, false)).2.1 ≤ s.size := tx_at q1
  have q3 : (sN s s.size (0, false)).2.1 ≤ s.size := nm_at q2
  have q4 : (sC' s s.size (0, false)).2.1 ≤ s.size := csn_at q3 _
  have q5 : (sD s s.size (0, false)).2.1 ≤ s.size := tx_at q4
  have q6 : (sM s s.size (0, false)).2.1 ≤ s.size := nm_at q5
  have bn := gnV_bd s (sB s s.size (0, false)).2 1 q2 (by omega)
  have bm := gnV_bd s (sD s s.size (0, false)).2 1 q5 (by omega)
  have en : gnV s 1 (sB s s.size (0, false)).2 = ((gnV s 1 (sB s s.size (0, false)).2).toNat : Int) := by omega
  have em : gnV s 1 (sD s s.size (0, false)).2 = ((gnV s 1 (sD s s.size (0, false)).2).toNat : Int) := by omega
  have P1 : ∀ wz : World, Calls Try.prog 52 #[.string s, .int .i64 0, .int .i64 1] wz fun r w' => r = .returned (.tuple #[.int .i64 (gnV s 1 (0, false)), .int .i64 (ps (sA s s.size (0, false)).2)]) ∧ w' = wz := fun wz => l10Num_any s (0, false) 1 wz (Nat.zero_le _) hs (by omega)
  have P2 : ∀ wz : World, Calls Try.prog 53 #[.string s, .int .i64 (ps (sA s s.size (0, false)).2), .int .i64 2] wz fun r w' => r = .returned (.tuple #[.string (gtV s 2 (sA s s.size (0, false)).2), .int .i64 (ps (sB s s.size (0, false)).2)]) ∧ w' = wz := fun wz => l10Get_any s (sA s s.size (0, false)).2 2 wz q1 hs (by omega)
  have P3 : ∀ wz : World, Calls Try.prog 52 #[.string s, .int .i64 (ps (sB s s.size (0, false)).2), .int .i64 1] wz fun r w' => r = .returned (.tuple #[.int .i64 ((gnV s 1 (sB s s.size (0, false)).2).toNat : Int), .int .i64 (ps (sN s s.size (0, false)).2)]) ∧ w' = wz := fun wz => by rw [← en]; exact l10Num_any s (sB s s.size (0, false)).2 1 wz q2 hs (by omega)
  have P4 : ∀ (k : Nat) (wz : World), Calls Try.prog 53 #[.string s, .int .i64 (ps (csn s s.size (sN s s.size (0, false)).2 k).2), .int .i64 2] wz fun r w' => r = .returned (.tuple #[.string (gtV s 2 (csn s s.size (sN s s.size (0, false)).2 k).2), .int .i64 (ps (csn s s.size (sN s s.size (0, false)).2 (k + 1)).2)]) ∧ w' = wz := fun k wz => l10Get_any s (csn s s.size (sN s s.size (0, false)).2 k).2 2 wz (csn_at q3 k) hs (by omega)
  have P5 : ∀ wz : World, Calls Try.prog 53 #[.string s, .int .i64 (ps (sC' s s.size (0, false)).2), .int .i64 2] wz fun r w' => r = .returned (.tuple #[.string (gtV s 2 (sC' s s.size (0, false)).2), .int .i64 (ps (sD s s.size (0, false)).2)]) ∧ w' = wz := fun wz => l10Get_any s (sC' s s.size (0, false)).2 2 wz q4 hs (by omega)
  have P6 : ∀ wz : World, Calls Try.prog 52 #[.string s, .int .i64 (ps (sD s s.size (0, false)).2), .int .i64 1] wz fun r w' => r = .returned (.tuple #[.int .i64 ((gnV s 1 (sD s s.size (0, false)).2).toNat : Int), .int .i64 (ps (sM s s.size (0, false)).2)]) ∧ w' = wz := fun wz => by rw [← em]; exact l10Num_any s (sD s s.size (0, false)).2 1 wz q5 hs (by omega)
  have HnT : Hid ((sN s s.size (0, false)).2.2 = false → (gnV s 1 (sB s s.size (0, false)).2).toNat = (sN s s.size (0, false)).1.toNat) := by
    intro h
    have : gnV s 1 (sB s s.size (0, false)).2 = (sN s s.size (0, false)).1 := by unfold gnV; rw [if_neg]; rfl; intro h2; rw [show (nm s s.size 1 (sB s s.size (0, false)).2).2.2 = (sN s s.size (0, false)).2.2 from rfl, h] at h2; cases h2
    rw [this]
  have HmT : Hid ((sM s s.size (0, false)).2.2 = false → (gnV s 1 (sD s s.size (0, false)).2).toNat = (sM s s.size (0, false)).1.toNat) := by
    intro h
    have : gnV s 1 (sD s s.size (0, false)).2 = (sM s s.size (0, false)).1 := by unfold gnV; rw [if_neg]; rfl; intro h2; rw [show (nm s s.size 1 (sD s s.size (0, false)).2).2.2 = (sM s s.size (0, false)).2.2 from rfl, h] at h2; cases h2
    rw [this]
  have hn255 : (gnV s 1 (sB s s.size (0, false)).2).toNat ≤ 255 := by
    unfold gnV; split
    · simp
    · have := nm_bd1 (s := s) (e := s.size) (q := (sB s s.size (0, false)).2) (Nat.le_refl _) q2; omega
  have hm255 : (gnV s 1 (sD s s.size (0, false)).2).toNat ≤ 255 := by
    unfold gnV; split
    · simp
    · have := nm_bd1 (s := s) (e := s.size) (q := (sD s s.size (0, false)).2) (Nat.le_refl _) q5; omega
  clear bn bm en em
  generalize hN : (gnV s 1 (sB s s.size (0, false)).2).toNat = n at *
  generalize hM : (gnV s 1 (sD s s.size (0, false)).2).toNat = m at *
  go_enter Try.func20, Try.ntmps20
  go_wp2_with (first | (go_at_call 52; with_reducible refine Calls.mono (P1 _) ?_) | fail)
  rintro r w1 ⟨rfl, hw1⟩
  obtain rfl := hw1
  go_wp2_with (first | (go_at_call 53; with_reducible refine Calls.mono (P2 _) ?_) | fail)
  rintro r w1 ⟨rfl, hw1⟩
  obtain rfl := hw1
  go_wp2_with (first | (go_at_call 52; with_reducible refine Calls.mono (P3 _) ?_) | fail)
  rintro r w1 ⟨rfl, hw1⟩
  obtain rfl := hw1
  go_wp2_with fail
  go_loopw [10, 11] (fun nx i wr => ∃ (k : Nat) (cs : List ByteArray) (u : Value), k ≤ n ∧ i = .int .i64 k ∧ nx = .int .i64 (ps (csn s s.size (sN s s.size (0, false)).2 k).2) ∧ Hid (cs.length = k) ∧ Hid ((csn s s.size (sN s s.size (0, false)).2 k).2.2 = false → cs = (csn s s.size (sN s s.size (0, false)).2 k).1) ∧ wr.heap[w.heap.size + 1]? = some (.cells #[.int .i64 (gnV s 1 (0, false)), .string (gtV s 2 (sA s s.size (0, false)).2), u, .string ⟨#[]⟩, .slice none 0 0] 43 (0, 0)) ∧ wr.heap[w.heap.size]? = some (.cells #[.int .i64 0, .string ⟨#[]⟩, .slice none 0 0, .string ⟨#[]⟩, .slice none 0 0] 43 (0, 0)) ∧ wr.ownsRow (w.heap.size + 2) 9 1 u k (cs.map Value.string) ∧ Below w.heap.size w wr) (fun _ i _ => n - (intOf i).toNat)
  case atStart => exact ⟨0, [], .slice none 0 0, Nat.zero_le _, rfl, rfl, rfl, fun _ => rfl, alloc2_new _ _ _, alloc2_old _ _ _, World.ownsRow_nil _ _ _ _, by repeat (first | (with_reducible exact Below.refl _ _) | (with_reducible refine Below.drew ?_) | (with_reducible refine Below.alloc ?_ ?hh _; case hh => first | (simp; done) | (simp; omega) | omega) | (with_reducible refine Below.setCell ?_ ?hh _; case hh => first | (simp; done) | (simp; omega) | omega) | refine bstep (by assumption) (by first | (simp; done) | (simp; omega) | omega) ?_)⟩
  case round =>
    obtain ⟨k, cs, u, hk, rfl, rfl, HL, HC, hS, hR, hO, hb⟩ := hrel
    have hSl := heap_lt hS
    by_cases hgo : k < n ∧ (csn s s.size (sN s s.size (0, false)).2 k).2.2 = false
    · obtain ⟨hlt, ht⟩ := hgo
      have hp0 : 0 ≤ ps (csn s s.size (sN s s.size (0, false)).2 k).2 := by rw [ps_ge ht]; omega
      have hp1 : ¬ (ps (csn s s.size (sN s s.size (0, false)).2 k).2 < 0) := by omega
      have HX : Hid ((csn s s.size (sN s s.size (0, false)).2 (k + 1)).2.2 = false → cs ++ [gtV s 2 (csn s s.size (sN s s.size (0, false)).2 k).2] = (csn s s.size (sN s s.size (0, false)).2 (k + 1)).1) := by
        intro h
        have e1 : gtV s 2 (csn s s.size (sN s s.size (0, false)).2 k).2 = (tx s s.size 2 (csn s s.size (sN s s.size (0, false)).2 k).2).1 := by unfold gtV; rw [if_neg]; intro h2; rw [show (tx s s.size 2 (csn s s.size (sN s s.size (0, false)).2 k).2).2.2 = (csn s s.size (sN s s.size (0, false)).2 (k + 1)).2.2 from rfl, h] at h2; cases h2
        rw [e1, HC.out ht]; rfl
      have hne := own_typ hO hS (by decide)
      have t2 : wr.cell? ⟨w.heap.size + 1, 2, none⟩ = some u := by rw [Lib.cell_of_heap hS]; rfl
      have hkI : (k : Int) < (n : Int) := by omega
      have hP4 := P4 k wr
      generalize gtV s 2 (csn s s.size (sN s s.size (0, false)).2 k).2 = T at *
      generalize hnp : ps (csn s s.size (sN s s.size (0, false)).2 (k + 1)).2 = np at *
      go_wp2_with (first | (go_at_call 53; with_reducible refine Calls.mono hP4 ?_; rintro r w1 ⟨rfl, hw1⟩; obtain rfl : wr = w1 := hw1.symm) | (at_builtin; refine wpList_append_own _ rfl _ _ 35 rfl (w.heap.size + 2) 9 i0 (.string ⟨#[]⟩) 1 16 Try.underlying35 hi hz0 hz1 hz2 rfl (by decide) u k (cs.map Value.string) rfl ?hown ⟨wr.heap.size, 0, none⟩ 1 1 [.string T] rfl rfl ?c1 ?c2 ?c3 ?c4 ?c5 ?_))
      case hown => exact hO.alloc _
      case c1 => exact cell_one_new _ _ _
      case c2 => intro y hy; rcases List.mem_singleton.1 hy with rfl; rfl
      case c3 => unfold maxLen; omega
      case c4 => omega
      case c5 => simp; omega
      intro v' w2 hO2 hgrow _
      have hS2 : w2.heap[w.heap.size + 1]? = some (.cells #[.int .i64 (gnV s 1 (0, false)), .string (gtV s 2 (sA s s.size (0, false)).2), u, .string ⟨#[]⟩, .slice none 0 0] 43 (0, 0)) := (hgrow.block _ (by simp; omega) (fun e => hne e.symm)).trans ((heap_alloc_old wr _ hSl).trans hS)
      have hneR := own_typ hO hR (by decide)
      have hR2 : w2.heap[w.heap.size]? = some (.cells #[.int .i64 0, .string ⟨#[]⟩, .slice none 0 0, .string ⟨#[]⟩, .slice none 0 0] 43 (0, 0)) := (hgrow.block _ (by simp; omega) (fun e => hneR e.symm)).trans ((heap_alloc_old wr _ (by omega)).trans hR)
      have hne2 := own_typ hO2 hS2 (by decide)
      have t3 : w2.cell? ⟨w.heap.size + 1, 2, none⟩ = some u := by rw [Lib.cell_of_heap hS2]; rfl
      have t4 : w2.frozen? ⟨w.heap.size + 1, 2, none⟩ = false := Lib.frozen_of_heap hS2 2
      have hsh2 : ∃ ac nc cc, v' = .slice ac nc cc := by
        rcases hO2.2 with ⟨hv, _⟩ | ⟨g, cap, cur, hv, _⟩ <;> exact ⟨_, _, _, hv⟩
      obtain ⟨ac, nc, cc, rfl⟩ := hsh2
      have hb2 : Below w.heap.size w w2 := Below.grown (by repeat (first | (with_reducible exact Below.refl _ _) | (with_reducible refine Below.drew ?_) | (with_reducible refine Below.alloc ?_ ?hh _; case hh => first | (simp; done) | (simp; omega) | omega) | (with_reducible refine Below.setCell ?_ ?hh _; case hh => first | (simp; done) | (simp; omega) | omega) | refine bstep (by assumption) (by first | (simp; done) | (simp; omega) | omega) ?_)) hgrow (by simp; omega) (fun b hb => by have := (ownsRow_lt hO b hb).1; omega)
      have hS3 : (w2.setCell ⟨w.heap.size + 1, 2, none⟩ (.slice ac nc cc)).heap[w.heap.size + 1]? = some (.cells #[.int .i64 (gnV s 1 (0, false)), .string (gtV s 2 (sA s s.size (0, false)).2), .slice ac nc cc, .string ⟨#[]⟩, .slice none 0 0] 43 (0, 0)) := by rw [set_blk hS2]; rfl
      have hR3 : (w2.setCell ⟨w.heap.size + 1, 2, none⟩ (.slice ac nc cc)).heap[w.heap.size]? = some (.cells #[.int .i64 0, .string ⟨#[]⟩, .slice none 0 0, .string ⟨#[]⟩, .slice none 0 0] 43 (0, 0)) := (Below.heap_setCell _ _ _ _ (by intro e; dsimp only at e; omega)).trans hR2
      have hO3 : (w2.setCell ⟨w.heap.size + 1, 2, none⟩ (.slice ac nc cc)).ownsRow (w.heap.size + 2) 9 1 (.slice ac nc cc) (k + 1) ((cs ++ [T]).map Value.string) := by
        rw [List.map_append]
        exact ownsRow_keep hO2 fun b hv => Below.heap_setCell _ _ _ _ (by rintro rfl; exact hne2 hv)
      have hb3 : Below w.heap.size w (w2.setCell ⟨w.heap.size + 1, 2, none⟩ (.slice ac nc cc)) := hb2.setCell (p := ⟨w.heap.size + 1, 2, none⟩) (by simp) _
      have HL2 : Hid ((cs ++ [T]).length = k + 1) := by simp [Hid, HL.out]
      clear hO hO2 hgrow hS hR hS2 hR2 hb hb2 HC HL t2 hne hneR hne2 hP4 hp0 hp1 P1 P2 P3 P4 P5 P6
      go_wp2
      exact ⟨⟨k + 1, cs ++ [T], _, hlt, by simp, by rw [hnp], HL2, HX, hS3, hR3, hO3, hb3⟩, by simp [intOf]; omega⟩
    · have hexit : (k : Int) < (n : Int) → ps (csn s s.size (sN s s.size (0, false)).2 k).2 < 0 := by
        intro h1
        cases ht : (csn s s.size (sN s s.size (0, false)).2 k).2.2
        · exact absurd ⟨by omega, ht⟩ hgo
        · rw [ps_lt ht]; decide
      have hstop : (decide ((k : Int) < (n : Int)) && decide (0 ≤ ps (csn s s.size (sN s s.size (0, false)).2 k).2)) = false := by
        by_cases h1 : (k : Int) < (n : Int)
        · have := hexit h1; simp; omega
        · simp [h1]
      have HP : Hid (ps (csn s s.size (sN s s.size (0, false)).2 k).2 = ps (sC' s s.size (0, false)).2) := by
        show _ = _
        cases ht : (sN s s.size (0, false)).2.2 with
        | true =>
          have h1 : (csn s s.size (sN s s.size (0, false)).2 k).2.2 = true := by have := csn_late (s := s) (e := s.size) (q := (sN s s.size (0, false)).2) (k := 0) (d := k) ht; rwa [Nat.zero_add] at this
          have h2 : (sC' s s.size (0, false)).2.2 = true := by have := csn_late (s := s) (e := s.size) (q := (sN s s.size (0, false)).2) (k := 0) (d := (sN s s.size (0, false)).1.toNat) ht; rwa [Nat.zero_add] at this
          rw [ps_lt h1, ps_lt h2]
        | false =>
          have hnn := HnT.out ht
          by_cases h1 : k < n
          · have h2 := hexit (by omega)
            have h3 : (csn s s.size (sN s s.size (0, false)).2 k).2.2 = true := by
              cases h4 : (csn s s.size (sN s s.size (0, false)).2 k).2.2 with
              | true => rfl
              | false => rw [ps_ge h4] at h2; omega
            have h5 : (sC' s s.size (0, false)).2.2 = true := by
              have := csn_late (s := s) (e := s.size) (q := (sN s s.size (0, false)).2) (k := k) (d := n - k) h3
              rw [show k + (n - k) = (sN s s.size (0, false)).1.toNat by omega] at this
              exact this
            rw [ps_lt h3, ps_lt h5]
          · have : k = (sN s s.size (0, false)).1.toNat := by omega
            rw [this]; rfl
      have HC2 : Hid ((sC' s s.size (0, false)).2.2 = false → cs = (sC' s s.size (0, false)).1) := by
        intro h
        have h0 := csn_torn (q := (sN s s.size (0, false)).2) _ h
        have hnn := HnT.out h0
        have h1 : ¬ k < n := by
          intro h1
          have h2 := hexit (by omega)
          have h3 := HP.out
          rw [ps_ge h] at h3
          omega
        have : k = (sN s s.size (0, false)).1.toNat := by omega
        have h4 := HC.out (by rw [this]; exact h)
        rw [h4, this]; rfl
      have hsh : ∃ ac nc cc, u = .slice ac nc cc := by
        rcases hO.2 with ⟨hv, _⟩ | ⟨g, cap, cur, hv, _⟩ <;> exact ⟨_, _, _, hv⟩
      obtain ⟨ac, nc, cc, rfl⟩ := hsh
      have t2 : wr.cell? ⟨w.heap.size + 1, 3, none⟩ = some (.string ⟨#[]⟩) := by rw [Lib.cell_of_heap hS]; rfl
      have t3 : wr.frozen? ⟨w.heap.size + 1, 3, none⟩ = false := Lib.frozen_of_heap hS 3
      have hP5 := P5 wr
      have HPe := HP.out
      rw [← HPe] at hP5
      have hexit0 : Hid ((k : Int) < (n : Int) → ps (csn s s.size (sN s s.size (0, false)).2 k).2 < 0) := hexit
      clear hexit hgo P1 P2 P3 P4 P5 HC HPe
      have hcase : (¬ ((k : Int) < (n : Int))) ∨ ((k : Int) < (n : Int) ∧ ps (csn s s.size (sN s s.size (0, false)).2 k).2 < 0) := by
        by_cases h1 : (k : Int) < (n : Int)
        · exact .inr ⟨h1, hexit0.out h1⟩
        · exact .inl h1
      generalize hpv : ps (csn s s.size (sN s s.size (0, false)).2 k).2 = pv at *
      have hcase2 : (decide ((k : Int) < (n : Int)) = false) ∨ (decide ((k : Int) < (n : Int)) = true ∧ decide (0 ≤ pv) = false) := by
        rcases hcase with h | ⟨h1, h2⟩
        · exact .inl (decide_eq_false h)
        · exact .inr ⟨decide_eq_true h1, decide_eq_false (by omega)⟩
      clear hstop
      rcases hcase with hA | ⟨hA, hB⟩
      · go_wp2_with (first | (go_at_call 53; with_reducible refine Calls.mono hP5 ?_; rintro r w1 ⟨rfl, hw1⟩; obtain rfl : wr = w1 := hw1.symm) | (go_at_call 52; with_reducible refine Calls.mono (P6 _) ?_; rintro r w1 ⟨rfl, hw1⟩; obtain rfl := hw1) | fail)
        have hS2 : (wr.setCell ⟨w.heap.size + 1, 3, none⟩ (.string (gtV s 2 (sC' s s.size (0, false)).2))).heap[w.heap.size + 1]? = some (.cells #[.int .i64 (gnV s 1 (0, false)), .string (gtV s 2 (sA s s.size (0, false)).2), .slice ac nc cc, .string (gtV s 2 (sC' s s.size (0, false)).2), .slice none 0 0] 43 (0, 0)) := by rw [set_blk hS]; rfl
        have hR2 : (wr.setCell ⟨w.heap.size + 1, 3, none⟩ (.string (gtV s 2 (sC' s s.size (0, false)).2))).heap[w.heap.size]? = some (.cells #[.int .i64 0, .string ⟨#[]⟩, .slice none 0 0, .string ⟨#[]⟩, .slice none 0 0] 43 (0, 0)) := (Below.heap_setCell _ _ _ _ (by intro e; dsimp only at e; omega)).trans hR
        have hneS := own_typ hO hS (by decide)
        have hO2 : (wr.setCell ⟨w.heap.size + 1, 3, none⟩ (.string (gtV s 2 (sC' s s.size (0, false)).2))).ownsRow (w.heap.size + 2) 9 1 (.slice ac nc cc) k (cs.map Value.string) := ownsRow_keep hO fun b hv => Below.heap_setCell _ _ _ _ (by rintro rfl; exact hneS hv)
        have hb2 : Below w.heap.size w (wr.setCell ⟨w.heap.size + 1, 3, none⟩ (.string (gtV s 2 (sC' s s.size (0, false)).2))) := hb.setCell (p := ⟨w.heap.size + 1, 3, none⟩) (by simp) _
        clear hS hR hO hb t2 t3 hneS hP5 P6
        generalize wr.setCell ⟨w.heap.size + 1, 3, none⟩ (.string (gtV s 2 (sC' s s.size (0, false)).2)) = wS at *
        have hSl2 := heap_lt hS2
        have hbO := fun b hb => (ownsRow_lt hO2 b hb).2
        have HE1 : Hid ((sA s s.size (0, false)).2.2 = false → gnV s 1 (0, false) = (sX s s.size (0, false)).k) := by
          intro h1; show _ = _; unfold gnV; rw [if_neg (by rw [show (nm s s.size 1 (0, false)).2.2 = (sA s s.size (0, false)).2.2 from rfl, h1]; decide)]; rfl
        have HE2 : Hid ((sB s s.size (0, false)).2.2 = false → gtV s 2 (sA s s.size (0, false)).2 = (sX s s.size (0, false)).s) := by
          intro h2; show _ = _; unfold gtV; rw [if_neg (by rw [show (tx s s.size 2 (sA s s.size (0, false)).2).2.2 = (sB s s.size (0, false)).2.2 from rfl, h2]; decide)]; rfl
        have HE4 : Hid ((sD s s.size (0, false)).2.2 = false → (gtV s 2 (sC' s s.size (0, false)).2) = (sX s s.size (0, false)).q) := by
          intro h5; show _ = _; unfold gtV; rw [if_neg (by rw [show (tx s s.size 2 (sC' s s.size (0, false)).2).2.2 = (sD s s.size (0, false)).2.2 from rfl, h5]; decide)]; rfl
        obtain ⟨fR, HfR⟩ : ∃ f : Nat → Int, Hid (∀ j, ps (rln s s.size (sM s s.size (0, false)).2 j).2 = f j) := ⟨fun j => ps (rln s s.size (sM s s.size (0, false)).2 j).2, fun _ => rfl⟩
        rw [show ps (sM s s.size (0, false)).2 = fR 0 from HfR.out 0]
        generalize gnV s 1 (0, false) = kA at *
        generalize gtV s 2 (sA s s.size (0, false)).2 = tA at *
        generalize (gtV s 2 (sC' s s.size (0, false)).2) = tD at *
        generalize ps (sA s s.size (0, false)).2 = pA
        generalize ps (sB s s.size (0, false)).2 = pB
        generalize ps (sN s s.size (0, false)).2 = pN
        generalize ps (sD s s.size (0, false)).2 = pD
        go_loopw [17, 18] (fun fr i wq => ∃ (j : Nat) (rs : List R3) (v : Value) (us : List Value) (G : List (List Nat)), j ≤ m ∧ i = .int .i64 j ∧ fr = .int .i64 (fR j) ∧ Hid (rs.length = j) ∧ Hid ((rln s s.size (sM s s.size (0, false)).2 j).2.2 = false → rs = (rln s s.size (sM s s.size (0, false)).2 j).1) ∧ wq.heap[w.heap.size + 1]? = some (.cells #[.int .i64 (kA), .string tA, .slice ac nc cc, .string tD, v] 43 (0, 0)) ∧ wq.heap[w.heap.size]? = some (.cells #[.int .i64 0, .string ⟨#[]⟩, .slice none 0 0, .string ⟨#[]⟩, .slice none 0 0] 43 (0, 0)) ∧ wq.ownsRow (w.heap.size + 2) 9 1 (.slice ac nc cc) k (cs.map Value.string) ∧ RelOwn wq wS.heap.size v rs us G ∧ Below w.heap.size w wq ∧ wS.heap.size ≤ wq.heap.size) (fun _ i _ => m - (intOf i).toNat)
        case atStart => exact ⟨0, [], .slice none 0 0, [], [], Nat.zero_le _, rfl, rfl, rfl, fun _ => rfl, hS2, hR2, hO2, ⟨⟨rfl, .inl ⟨rfl, rfl⟩⟩, rfl, rfl, fun i x u g hx => by simp at hx, by simp [Own, Free], fun b _ => by simp⟩, hb2, Nat.le_refl _⟩
        case round =>
          clear hS2 hR2 hO2 hb2
          obtain ⟨j, rs, v, us, G, hj, rfl, rfl, HLr, HCr, hS, hR, hO, hQ, hb, hzS⟩ := hrel
          by_cases hgo2 : j < m ∧ (rln s s.size (sM s s.size (0, false)).2 j).2.2 = false
          · obtain ⟨hlt, ht⟩ := hgo2
            have hp0 : 0 ≤ fR j := by rw [← HfR.out j, ps_ge ht]; omega
            have hjI : (j : Int) < (m : Int) := by omega
            have hqj : (rln s s.size (sM s s.size (0, false)).2 j).2.1 ≤ s.size := rln_at q6 j
            have hqt : (tx s s.size 2 (rln s s.size (sM s s.size (0, false)).2 j).2).2.1 ≤ s.size := tx_at hqj
            have hP7 := l10Get_any s (rln s s.size (sM s s.size (0, false)).2 j).2 2 wr hqj hs (by omega)
            rw [HfR.out j] at hP7
            have hP8 := l10Get_any s (tx s s.size 2 (rln s s.size (sM s s.size (0, false)).2 j).2).2 4 wr hqt hs (by omega)
            have hsz2 : (gtV s 4 (tx s s.size 2 (rln s s.size (sM s s.size (0, false)).2 j).2).2).size ≤ 1048576 := by
              unfold gtV
              split
              · exact Nat.zero_le _
              · exact Nat.le_trans (tk_size (Nat.le_refl _) (nm_at hqt)) hs
            have hGB := specGetBag_any (gtV s 4 (tx s s.size 2 (rln s s.size (sM s s.size (0, false)).2 j).2).2) wr hsz2
            have HBad : Hid (aB (gtV s 4 (tx s s.size 2 (rln s s.size (sM s s.size (0, false)).2 j).2).2) = false → gO s = false) := by
              intro hab
              have h1 : (rln s s.size (sM s s.size (0, false)).2 (j + 1)).2.2 = true := rl_bad hab
              have h2 := rln_torn (q := (sM s s.size (0, false)).2) _ ht
              have h3 := HmT.out h2
              have h4 : (sE s s.size (0, false)).2.2 = true := by
                have := rln_late (s := s) (e := s.size) (q := (sM s s.size (0, false)).2) (k := j + 1) (d := m - (j + 1)) h1
                rw [show j + 1 + (m - (j + 1)) = (sM s s.size (0, false)).1.toNat by omega] at this
                exact this
              unfold gO sO sT
              rw [h4]; rfl
            have HNx : Hid (aB (gtV s 4 (tx s s.size 2 (rln s s.size (sM s s.size (0, false)).2 j).2).2) = true → ps (tx s s.size 4 (tx s s.size 2 (rln s s.size (sM s s.size (0, false)).2 j).2).2).2 = fR (j + 1)) := fun hab => by show _ = _; rw [← HfR.out]; exact ps_rl hab
            have HEq : Hid ((rln s s.size (sM s s.size (0, false)).2 (j + 1)).2.2 = false → rs ++ [⟨gtV s 2 (rln s s.size (sM s s.size (0, false)).2 j).2, aW (gtV s 4 (tx s s.size 2 (rln s s.size (sM s s.size (0, false)).2 j).2).2), aC (gtV s 4 (tx s s.size 2 (rln s s.size (sM s s.size (0, false)).2 j).2).2)⟩] = (rln s s.size (sM s s.size (0, false)).2 (j + 1)).1) := by
              intro h
              rw [rl_eq (q := (rln s s.size (sM s s.size (0, false)).2 j).2) h, HCr.out ht]; rfl
            generalize gtV s 2 (rln s s.size (sM s s.size (0, false)).2 j).2 = T1 at *
            generalize gtV s 4 (tx s s.size 2 (rln s s.size (sM s s.size (0, false)).2 j).2).2 = T2 at *
            generalize ps (tx s s.size 4 (tx s s.size 2 (rln s s.size (sM s s.size (0, false)).2 j).2).2).2 = p3 at *
            generalize ps (tx s s.size 2 (rln s s.size (sM s s.size (0, false)).2 j).2).2 = p2 at *
            go_wp2_with (first | (go_at_call 53; with_reducible refine Calls.mono hP7 ?_; rintro r w1 ⟨rfl, hw1⟩; obtain rfl : wr = w1 := hw1.symm) | (go_at_call 53; with_reducible refine Calls.mono hP8 ?_; rintro r w1 ⟨rfl, hw1⟩; obtain rfl : wr = w1 := hw1.symm) | (go_at_call 54; with_reducible refine Calls.mono hGB ?_) | fail)
            rintro r w3 ⟨⟨u3, us3, G3, rfl, hBag⟩, hb3⟩
            obtain ⟨a3, c3, rfl⟩ := hBag.shape
            cases hab : aB T2
            · as_aux_lemma =>
                have hgo := HBad.out hab
                have HZ : Hid (gT s = zT) := by show _ = _; unfold gT; rw [if_neg (by rw [show sO s s.size (0, false) = gO s from rfl, hgo]; decide)]
                have hR3 : (w3.alloc (.cells #[.int .i64 (aW T2), .slice a3 (aC T2).length c3] 26)).heap[w.heap.size]? = some (.cells #[.int .i64 0, .string ⟨#[]⟩, .slice none 0 0, .string ⟨#[]⟩, .slice none 0 0] 43 (0, 0)) := (heap_alloc_old w3 _ (Nat.lt_of_lt_of_le (heap_lt hR) hb3.size)).trans ((hb3.block _ (heap_lt hR)).trans hR)
                have hbE : Below w.heap.size w (w3.alloc (.cells #[.int .i64 (aW T2), .slice a3 (aC T2).length c3] 26)) := (hb.trans (hb3.mono hb.size)).alloc (Nat.le_trans hb.size hb3.size) _
                clear hR hS hO hQ hb hb3 hBag HBad HNx HEq HCr HLr hP7 hP8 hGB
                clear HE1 HE2 HE4 HfR q1 q2 q3 q4 q5 q6 HnT HmT hn255 hm255 hcase2 hexit0 HL HP HC2 hi hz0 hz1 hz2 hj0 hy0 hy1 hy2 hSl2 hbO
                go_upto_region 22 with fail
                generalize w3.alloc (.cells #[.int .i64 (aW T2), .slice a3 (aC T2).length c3] 26) = wb at *
                have r0 : wb.cell? ⟨w.heap.size, 0, none⟩ = some (.int .i64 0) := by rw [Lib.cell_of_heap hR3]; rfl
                have r1 : wb.cell? ⟨w.heap.size, 1, none⟩ = some (.string ⟨#[]⟩) := by rw [Lib.cell_of_heap hR3]; rfl
                have r2 : wb.cell? ⟨w.heap.size, 2, none⟩ = some (.slice none 0 0) := by rw [Lib.cell_of_heap hR3]; rfl
                have r3 : wb.cell? ⟨w.heap.size, 3, none⟩ = some (.string ⟨#[]⟩) := by rw [Lib.cell_of_heap hR3]; rfl
                have r4 : wb.cell? ⟨w.heap.size, 4, none⟩ = some (.slice none 0 0) := by rw [Lib.cell_of_heap hR3]; rfl
                have rf : ∀ i, wb.frozen? ⟨w.heap.size, i, none⟩ = false := fun i => Lib.frozen_of_heap hR3 i
                have hRl := heap_lt hR3
                have HR : Hid (wb.heap[w.heap.size]? = some (.cells #[.int .i64 0, .string ⟨#[]⟩, .slice none 0 0, .string ⟨#[]⟩, .slice none 0 0] 43 (0, 0))) := hR3
                clear hR3
                go_wp2
                obtain ⟨c0, c1, c2, c3, c4, c5, c6, c7⟩ := five_out hbE (Nat.le_refl _) HR.out (.int .i64 0) (.string ⟨#[]⟩) (.slice none 0 0) (.string ⟨#[]⟩) (.slice none 0 0)
                clear r0 r1 r2 r3 r4 rf HR
                unfold five at c0 c1 c2 c3 c4 c5 c6 c7
                generalize (World.setCell (World.setCell (World.setCell (World.setCell (World.setCell wb ⟨w.heap.size, 0, none⟩ (.int .i64 0)) ⟨w.heap.size, 1, none⟩ (.string ⟨#[]⟩)) ⟨w.heap.size, 2, none⟩ (.slice none 0 0)) ⟨w.heap.size, 3, none⟩ (.string ⟨#[]⟩)) ⟨w.heap.size, 4, none⟩ (.slice none 0 0)) = wF at c0 c1 c2 c3 c4 c5 c6 c7 ⊢
                refine bodyPost_ret (results_ct rfl _ _ _ _ ⟨w.heap.size, 0, none⟩ rfl (load5 c0 c1 c2 c3 c4)) rfl ⟨⟨.slice none 0 0, .slice none 0 0, (by rw [HZ.out]; (try rw [hgo]); rfl), (by rw [HZ.out]; exact (StpOwn.nil _ 0).is)⟩, c5⟩
            · as_aux_lemma =>
                have hnx := HNx.out hab
                obtain ⟨F2, hF2, hO2⟩ := hBag.rowsF
                have hGl := hQ.lt
                have hul := ownsRow_lt hQ.own
                have hSl3 := heap_lt hS
                have hRl3 := heap_lt hR
                have hzr := hb3.size
                have hbO3 := fun b hb => (ownsRow_lt hO b hb).2
                have bal : Below w3.heap.size w3 ((w3.alloc (.cells #[.int .i64 (aW T2), .slice a3 (aC T2).length c3] 26)).alloc (.cells #[.string T1, .int .i64 (aW T2), .slice a3 (aC T2).length c3] 73)) := ((Below.refl _ _).alloc (Nat.le_refl _) _).alloc (by simp) _
                have bA : Below wr.heap.size wr ((w3.alloc (.cells #[.int .i64 (aW T2), .slice a3 (aC T2).length c3] 26)).alloc (.cells #[.string T1, .int .i64 (aW T2), .slice a3 (aC T2).length c3] 73)) := hb3.trans (bal.mono hzr)
                have hS4 : ((w3.alloc (.cells #[.int .i64 (aW T2), .slice a3 (aC T2).length c3] 26)).alloc (.cells #[.string T1, .int .i64 (aW T2), .slice a3 (aC T2).length c3] 73)).heap[w.heap.size + 1]? = some (.cells #[.int .i64 kA, .string tA, .slice ac nc cc, .string tD, v] 43 (0, 0)) := (bA.block _ hSl3).trans hS
                have hR4 : ((w3.alloc (.cells #[.int .i64 (aW T2), .slice a3 (aC T2).length c3] 26)).alloc (.cells #[.string T1, .int .i64 (aW T2), .slice a3 (aC T2).length c3] 73)).heap[w.heap.size]? = some (.cells #[.int .i64 0, .string ⟨#[]⟩, .slice none 0 0, .string ⟨#[]⟩, .slice none 0 0] 43 (0, 0)) := (bA.block _ hRl3).trans hR
                have hO4 : ((w3.alloc (.cells #[.int .i64 (aW T2), .slice a3 (aC T2).length c3] 26)).alloc (.cells #[.string T1, .int .i64 (aW T2), .slice a3 (aC T2).length c3] 73)).ownsRow (w.heap.size + 2) 9 1 (.slice ac nc cc) k (cs.map Value.string) := ownsRow_keep hO fun b hv => bA.block b (hbO3 b hv)
                have hQ4 := hQ.below bA
                have hbE : Below w.heap.size w ((w3.alloc (.cells #[.int .i64 (aW T2), .slice a3 (aC T2).length c3] 26)).alloc (.cells #[.string T1, .int .i64 (aW T2), .slice a3 (aC T2).length c3] 73)) := hb.trans (bA.mono hb.size)
                have hF4 := hF2.below bal
                have hOw4 : Own ((w3.alloc (.cells #[.int .i64 (aW T2), .slice a3 (aC T2).length c3] 26)).alloc (.cells #[.string T1, .int .i64 (aW T2), .slice a3 (aC T2).length c3] 73)) wS.heap.size F2 := ⟨hO2.1, fun b hb => Nat.le_trans hzS (hO2.2.1 b hb), fun b hb i => (frozen_blk (bal.block _ (hF2.lt b hb))).trans (hO2.2.2 b hb i)⟩
                have hd1 : ∀ b ∈ G.flatten, b ∉ F2 := fun b hb hb2 => by have := hO2.2.1 b hb2; have := hGl b hb; omega
                have hd2 : ∀ b, v.ownBlock = some b → b ∉ F2 := fun b hb hb2 => by have := hO2.2.1 b hb2; have := (hul b hb).2; omega
                have hrl : ((w3.alloc (.cells #[.int .i64 (aW T2), .slice a3 (aC T2).length c3] 26)).alloc (.cells #[.string T1, .int .i64 (aW T2), .slice a3 (aC T2).length c3] 73)).heap[w3.heap.size + 1]? = some (.cells #[.string T1, .int .i64 (aW T2), .slice a3 (aC T2).length c3] 73 (0, 0)) := alloc2_new _ _ _
                obtain ⟨av, cv, rfl⟩ := hQ.shape
                have t0 : w3.cell? ⟨w.heap.size + 1, 4, none⟩ = some (.slice av rs.length cv) := by rw [Lib.cell_of_heap ((hb3.block _ hSl3).trans hS)]; rfl
                have hl3 : w.heap.size + 1 < w3.heap.size := by omega
                have hlenJ : rs.length = j := HLr.out
                have HLJ : Hid (rs.length = j) := hlenJ
                have hz4 : wS.heap.size ≤ w3.heap.size := by omega
                have hml : rs.length ≤ 255 := by omega
                clear hlenJ hb3 hBag hO hQ hb hS hR hO2 hF2 HBad HCr HLr hP7 hP8 hGB HNx bA bal
                have ho4 := hQ4.own
                go_wp2_with (at_builtin; (refine wpList_append_own_at _ rfl _ _ 41 rfl wS.heap.size 73 j0 _ 3 48 Try.underlying41 hj0 hy0 hy1 hy2 rfl (by decide) _ _ _ rfl ho4 ⟨w3.heap.size + 1, 0, none⟩ 1 1 [.string T1, .int .i64 (aW T2), .slice a3 (aC T2).length c3] rfl (by simp) ?c1 ?c2 ?c3 ?c4 ?c5 ?_))
                case c1 => exact World.news_of_block (cs := #[.string T1, .int .i64 (aW T2), .slice a3 (aC T2).length c3]) (t := 73) (fr := (0, 0)) hrl
                case c2 => simp [Value.oneCell']
                case c3 => unfold maxLen; omega
                case c4 => omega
                case c5 => simp; omega
                intro v' w5 hown' hgrow _ hat
                have hneS := own_typ ho4 hS4 (by decide)
                have hneR := own_typ ho4 hR4 (by decide)
                have hS5 : w5.heap[w.heap.size + 1]? = some (.cells #[.int .i64 kA, .string tA, .slice ac nc cc, .string tD, .slice av rs.length cv] 43 (0, 0)) := (hgrow.block _ (heap_lt hS4) (fun e => hneS e.symm)).trans hS4
                have hR5 : w5.heap[w.heap.size]? = some (.cells #[.int .i64 0, .string ⟨#[]⟩, .slice none 0 0, .string ⟨#[]⟩, .slice none 0 0] 43 (0, 0)) := (hgrow.block _ (heap_lt hR4) (fun e => hneR e.symm)).trans hR4
                have hO5 : w5.ownsRow (w.heap.size + 2) 9 1 (.slice ac nc cc) k (cs.map Value.string) := ownsRow_keep hO4 fun b hv => hgrow.block b (ownsRow_lt hO4 b hv).2 (fun e => by have h1 := (hul b e.symm).1; have h2 := hbO b hv; omega)
                have hQ5 := RelOwn.push (x := ⟨T1, aW T2, aC T2⟩) hQ4 hF4 hOw4 hd1 hd2 hown' hgrow (fun b hb => by
                  rcases hat with e | e
                  · left; rw [← e]; exact hb
                  · right; rw [e] at hb; cases hb; simp)
                have hb5 : Below w.heap.size w w5 := hbE.grown hgrow (by simp; omega) (fun b hb => by have := (hul b hb).1; omega)
                have hne5 := own_typ hown' hS5 (by decide)
                have hsz5 := hgrow.size
                simp only [World.size_alloc] at hsz5
                have hs5 : ∃ ao n' cap, v' = .slice ao n' cap := by
                  rcases hown'.2 with ⟨hv, _⟩ | ⟨g, cap, cur, hv, _⟩ <;> exact ⟨_, _, _, hv⟩
                obtain ⟨ao, n', cap, rfl⟩ := hs5
                have t3 : w5.cell? ⟨w.heap.size + 1, 4, none⟩ = some (.slice av rs.length cv) := by rw [Lib.cell_of_heap hS5]; rfl
                have t4 : w5.frozen? ⟨w.heap.size + 1, 4, none⟩ = false := Lib.frozen_of_heap hS5 4
                have hS6 : (w5.setCell ⟨w.heap.size + 1, 4, none⟩ (.slice ao n' cap)).heap[w.heap.size + 1]? = some (.cells #[.int .i64 kA, .string tA, .slice ac nc cc, .string tD, .slice ao n' cap] 43 (0, 0)) := by rw [set_blk hS5]; rfl
                have hR6 : (w5.setCell ⟨w.heap.size + 1, 4, none⟩ (.slice ao n' cap)).heap[w.heap.size]? = some (.cells #[.int .i64 0, .string ⟨#[]⟩, .slice none 0 0, .string ⟨#[]⟩, .slice none 0 0] 43 (0, 0)) := (Below.heap_setCell _ _ _ _ (by intro e; dsimp only at e; omega)).trans hR5
                have hneO := own_typ hO5 hS5 (by decide)
                have hO6 : (w5.setCell ⟨w.heap.size + 1, 4, none⟩ (.slice ao n' cap)).ownsRow (w.heap.size + 2) 9 1 (.slice ac nc cc) k (cs.map Value.string) := ownsRow_keep hO5 fun b hv => Below.heap_setCell _ _ _ _ (by rintro rfl; exact hneO hv)
                have hQ6 := hQ5.keepF (w' := w5.setCell ⟨w.heap.size + 1, 4, none⟩ (.slice ao n' cap)) (by simp) (fun b hv => Below.heap_setCell _ _ _ _ (by rintro rfl; exact hne5 hv)) (fun b hb => Below.heap_setCell _ _ _ _ (by intro e; have := hQ5.free.2.1 _ hb; dsimp only at e; omega))
                have hb6 : Below w.heap.size w (w5.setCell ⟨w.heap.size + 1, 4, none⟩ (.slice ao n' cap)) := hb5.setCell (p := ⟨w.heap.size + 1, 4, none⟩) (by simp) _
                have hz6 : wS.heap.size ≤ (w5.setCell ⟨w.heap.size + 1, 4, none⟩ (.slice ao n' cap)).heap.size := by simp; omega
                have HL6 : Hid ((rs ++ [(⟨T1, aW T2, aC T2⟩ : R3)]).length = j + 1) := by show _ = _; rw [List.length_append, HLJ.out]; rfl
                have HQ6 : Hid (RelOwn (w5.setCell ⟨w.heap.size + 1, 4, none⟩ (.slice ao n' cap)) wS.heap.size (.slice ao n' cap) (rs ++ [⟨T1, aW T2, aC T2⟩]) (us ++ [.slice a3 (aC T2).length c3]) (G ++ [F2])) := hQ6
                clear hQ4 hQ5 hQ6 hown' hgrow hat hF4 hOw4 hO4 hO5 hS4 hS5 hR4 hR5 ho4 hb5 hbE t0 hrl hne5 hneS hneR hneO
                go_wp2
                exact ⟨⟨j + 1, rs ++ [⟨T1, aW T2, aC T2⟩], _, _, _, hlt, by simp, (by first | rfl | rw [hnx]), HL6, HEq, hS6, hR6, hO6, HQ6.out, hb6, hz6⟩, by simp [intOf]; omega⟩
          · as_aux_lemma =>
              have hexit : (j : Int) < (m : Int) → fR j < 0 := by
                intro h1
                rw [← HfR.out j]
                cases ht : (rln s s.size (sM s s.size (0, false)).2 j).2.2
                · exact absurd ⟨by omega, ht⟩ hgo2
                · rw [ps_lt ht]; decide
              have HP : Hid (fR j = ps (sE s s.size (0, false)).2) := by
                show _ = _
                rw [← HfR.out j]
                cases ht : (sM s s.size (0, false)).2.2 with
                | true =>
                  have h1 : (rln s s.size (sM s s.size (0, false)).2 j).2.2 = true := by have := rln_late (s := s) (e := s.size) (q := (sM s s.size (0, false)).2) (k := 0) (d := j) ht; rwa [Nat.zero_add] at this
                  have h2 : (sE s s.size (0, false)).2.2 = true := by have := rln_late (s := s) (e := s.size) (q := (sM s s.size (0, false)).2) (k := 0) (d := (sM s s.size (0, false)).1.toNat) ht; rwa [Nat.zero_add] at this
                  rw [ps_lt h1, ps_lt h2]
                | false =>
                  have hnn := HmT.out ht
                  by_cases h1 : j < m
                  · have h2 := hexit (by omega)
                    rw [← HfR.out j] at h2
                    have h3 : (rln s s.size (sM s s.size (0, false)).2 j).2.2 = true := by
                      cases h4 : (rln s s.size (sM s s.size (0, false)).2 j).2.2 with
                      | true => rfl
                      | false => rw [ps_ge h4] at h2; omega
                    have h5 : (sE s s.size (0, false)).2.2 = true := by
                      have := rln_late (s := s) (e := s.size) (q := (sM s s.size (0, false)).2) (k := j) (d := m - j) h3
                      rw [show j + (m - j) = (sM s s.size (0, false)).1.toNat by omega] at this
                      exact this
                    rw [ps_lt h3, ps_lt h5]
                  · have : j = (sM s s.size (0, false)).1.toNat := by omega
                    rw [this]; rfl
              have HCE : Hid ((sE s s.size (0, false)).2.2 = false → rs = (sE s s.size (0, false)).1) := by
                intro h
                have h0 := rln_torn (q := (sM s s.size (0, false)).2) _ h
                have hnn := HmT.out h0
                have h1 : ¬ j < m := by
                  intro h1
                  have h2 := hexit (by omega)
                  have h3 := HP.out
                  rw [ps_ge h] at h3
                  omega
                have : j = (sM s s.size (0, false)).1.toNat := by omega
                have h4 := HCr.out (by rw [this]; exact h)
                rw [h4, this]; rfl
              have r0 : wr.cell? ⟨w.heap.size, 0, none⟩ = some (.int .i64 0) := by rw [Lib.cell_of_heap hR]; rfl
              have r1 : wr.cell? ⟨w.heap.size, 1, none⟩ = some (.string ⟨#[]⟩) := by rw [Lib.cell_of_heap hR]; rfl
              have r2 : wr.cell? ⟨w.heap.size, 2, none⟩ = some (.slice none 0 0) := by rw [Lib.cell_of_heap hR]; rfl
              have r3 : wr.cell? ⟨w.heap.size, 3, none⟩ = some (.string ⟨#[]⟩) := by rw [Lib.cell_of_heap hR]; rfl
              have r4 : wr.cell? ⟨w.heap.size, 4, none⟩ = some (.slice none 0 0) := by rw [Lib.cell_of_heap hR]; rfl
              have rf : ∀ i, wr.frozen? ⟨w.heap.size, i, none⟩ = false := fun i => Lib.frozen_of_heap hR i
              have hRl := heap_lt hR
              have hSl := heap_lt hS
              have HR : Hid (wr.heap[w.heap.size]? = some (.cells #[.int .i64 0, .string ⟨#[]⟩, .slice none 0 0, .string ⟨#[]⟩, .slice none 0 0] 43 (0, 0))) := hR
              have hbE : Below w.heap.size w wr := hb
              clear hR hi hz0 hz1 hz2 hj0 hy0 hy1 hy2 q1 q2 q3 q4 q5 q6 hn255 hm255 hcase2 hexit0
              have hRS : w.heap.size ≠ w.heap.size + 1 := by omega
              by_cases hneg : fR j < 0
              · have hgo : gO s = false := by
                  have h4 : (sE s s.size (0, false)).2.2 = true := by
                    cases h4 : (sE s s.size (0, false)).2.2 with
                    | true => rfl
                    | false => have := HP.out; rw [ps_ge h4] at this; omega
                  unfold gO sO sT
                  rw [h4]; rfl
                have HZ : Hid (gT s = zT) := by show _ = _; unfold gT; rw [if_neg (by rw [show sO s s.size (0, false) = gO s from rfl, hgo]; decide)]
                clear HE1 HE2 HE4 HfR HCE HC2 HP HnT HmT hO hQ hS HCr HLr HL
                have hB2 : ¬ (0 ≤ fR j) := by omega
                generalize fR j = pw at *
                by_cases hA2 : (j : Int) < (m : Int)
                · clear hexit
                  go_wp2
                  obtain ⟨c0, c1, c2, c3, c4, c5, c6, c7⟩ := five_out hbE (Nat.le_refl _) HR.out (.int .i64 0) (.string ⟨#[]⟩) (.slice none 0 0) (.string ⟨#[]⟩) (.slice none 0 0)
                  clear r0 r1 r2 r3 r4 rf HR
                  unfold five at c0 c1 c2 c3 c4 c5 c6 c7
                  generalize (World.setCell (World.setCell (World.setCell (World.setCell (World.setCell wr ⟨w.heap.size, 0, none⟩ (.int .i64 0)) ⟨w.heap.size, 1, none⟩ (.string ⟨#[]⟩)) ⟨w.heap.size, 2, none⟩ (.slice none 0 0)) ⟨w.heap.size, 3, none⟩ (.string ⟨#[]⟩)) ⟨w.heap.size, 4, none⟩ (.slice none 0 0)) = wF at c0 c1 c2 c3 c4 c5 c6 c7 ⊢
                  refine bodyPost_ret (results_ct rfl _ _ _ _ ⟨w.heap.size, 0, none⟩ rfl (load5 c0 c1 c2 c3 c4)) rfl ⟨⟨.slice none 0 0, .slice none 0 0, (by rw [HZ.out]; (try rw [hgo]); rfl), (by rw [HZ.out]; exact (StpOwn.nil _ 0).is)⟩, c5⟩
                · clear hexit
                  go_wp2
                  obtain ⟨c0, c1, c2, c3, c4, c5, c6, c7⟩ := five_out hbE (Nat.le_refl _) HR.out (.int .i64 0) (.string ⟨#[]⟩) (.slice none 0 0) (.string ⟨#[]⟩) (.slice none 0 0)
                  clear r0 r1 r2 r3 r4 rf HR
                  unfold five at c0 c1 c2 c3 c4 c5 c6 c7
                  generalize (World.setCell (World.setCell (World.setCell (World.setCell (World.setCell wr ⟨w.heap.size, 0, none⟩ (.int .i64 0)) ⟨w.heap.size, 1, none⟩ (.string ⟨#[]⟩)) ⟨w.heap.size, 2, none⟩ (.slice none 0 0)) ⟨w.heap.size, 3, none⟩ (.string ⟨#[]⟩)) ⟨w.heap.size, 4, none⟩ (.slice none 0 0)) = wF at c0 c1 c2 c3 c4 c5 c6 c7 ⊢
                  refine bodyPost_ret (results_ct rfl _ _ _ _ ⟨w.heap.size, 0, none⟩ rfl (load5 c0 c1 c2 c3 c4)) rfl ⟨⟨.slice none 0 0, .slice none 0 0, (by rw [HZ.out]; (try rw [hgo]); rfl), (by rw [HZ.out]; exact (StpOwn.nil _ 0).is)⟩, c5⟩
              · have hA2 : ¬ ((j : Int) < (m : Int)) := fun h => hneg (hexit h)
                have hT : (sE s s.size (0, false)).2.2 = false := by
                  cases h4 : (sE s s.size (0, false)).2.2 with
                  | false => rfl
                  | true => have := HP.out; rw [ps_lt h4] at this; omega
                have h6 := rln_torn (q := (sM s s.size (0, false)).2) _ hT
                have h5 := nm_torn (q := (sD s s.size (0, false)).2) h6
                have h4 := (tx_torn (q := (sC' s s.size (0, false)).2) h5).2
                have h3 := csn_torn (q := (sN s s.size (0, false)).2) _ h4
                have h2 := nm_torn (q := (sB s s.size (0, false)).2) h3
                have h1 := (tx_torn (q := (sA s s.size (0, false)).2) h2).2
                have E1 := HE1.out h1
                have E2 := HE2.out h2
                have E3 : cs = (sX s s.size (0, false)).cs := HC2.out h4
                have E4 := HE4.out h5
                have E5 : rs = (sX s s.size (0, false)).rs := HCE.out hT
                have hss := step_same s hT
                have hwf := sX_wf (s := s) (e := s.size) (q := (0, false)) (Nat.le_refl _) hs (Nat.zero_le _)
                have HG : Hid (gT s = if gO s = true then sX s s.size (0, false) else zT) := rfl
                have hlk : cs.length = k := HL.out
                obtain ⟨av, cv, rfl⟩ := hQ.shape
                rw [E1, E2, E4] at hS
                subst E3 E5
                rw [← hlk] at hO
                obtain ⟨g, hg, hgO, _⟩ := strs_own hO
                obtain ⟨F, hF, hFO⟩ := hQ.relsF
                obtain ⟨e1, e2, e3, _, _⟩ := hg.shape
                obtain ⟨rfl, rfl, rfl⟩ : ac = e1 ∧ nc = (sX s s.size (0, false)).cs.length ∧ cc = e2 := by injection e3 with a b c; exact ⟨a, b, c⟩
                have hIs : StpIs wr (.slice ac (sX s s.size (0, false)).cs.length cc) (.slice av (sX s s.size (0, false)).rs.length cv) (sX s s.size (0, false)) := ⟨⟨g, hg⟩, hF.is⟩
                have Hg : Hid (StrsF wr (.slice ac (sX s s.size (0, false)).cs.length cc) (sX s s.size (0, false)).cs g ∧ (∀ b ∈ g, b ≠ w.heap.size) ∧ RelsF wr (.slice av (sX s s.size (0, false)).rs.length cv) (sX s s.size (0, false)).rs F ∧ (∀ b ∈ F, b ≠ w.heap.size)) := ⟨hg, fun b hb e => by have := hgO.2.1 b hb; omega, hF, fun b hb e => by have := hFO.2.1 b hb; omega⟩
                have hPut := specPutStep_any (sX s s.size (0, false)) _ _ wr hwf hIs
                clear HE1 HE2 HE4 HfR HCE HC2 HP HnT HmT hO hQ HCr HLr HL h1 h2 h3 h4 h5 h6 E1 E2 E4 hg hF hgO hFO hlk hwf hexit
                generalize sX s s.size (0, false) = x at *
                generalize fR j = pw at *
                generalize x.cs.length = lc at *
                generalize x.rs.length = lr at *
                have u0 : wr.cell? ⟨w.heap.size + 1, 0, none⟩ = some (.int .i64 x.k) := by rw [Lib.cell_of_heap hS]; rfl
                have u1 : wr.cell? ⟨w.heap.size + 1, 1, none⟩ = some (.string x.s) := by rw [Lib.cell_of_heap hS]; rfl
                have u2 : wr.cell? ⟨w.heap.size + 1, 2, none⟩ = some (.slice ac lc cc) := by rw [Lib.cell_of_heap hS]; rfl
                have u3 : wr.cell? ⟨w.heap.size + 1, 3, none⟩ = some (.string x.q) := by rw [Lib.cell_of_heap hS]; rfl
                have u4 : wr.cell? ⟨w.heap.size + 1, 4, none⟩ = some (.slice av lr cv) := by rw [Lib.cell_of_heap hS]; rfl
                have uf : ∀ i, wr.frozen? ⟨w.heap.size + 1, i, none⟩ = false := fun i => Lib.frozen_of_heap hS i
                by_cases hz : s.size = 0
                · have hgo : gO s = false := by
                    cases h : gO s with
                    | false => rfl
                    | true => exact absurd hz (hss.2 h).1
                  have HZ : Hid (gT s = zT) := by show _ = _; rw [HG.out, if_neg (by rw [hgo]; decide)]
                  have hnil : s.toList = [] := by rw [ByteArray.toList_eq]; exact List.eq_nil_of_length_eq_zero (by simpa using hz)
                  clear hPut hIs hss hS
                  go_wp2
                  obtain ⟨c0, c1, c2, c3, c4, c5, c6, c7⟩ := five_out hbE (Nat.le_refl _) HR.out (.int .i64 0) (.string ⟨#[]⟩) (.slice none 0 0) (.string ⟨#[]⟩) (.slice none 0 0)
                  clear r0 r1 r2 r3 r4 rf HR
                  unfold five at c0 c1 c2 c3 c4 c5 c6 c7
                  generalize (World.setCell (World.setCell (World.setCell (World.setCell (World.setCell wr ⟨w.heap.size, 0, none⟩ (.int .i64 0)) ⟨w.heap.size, 1, none⟩ (.string ⟨#[]⟩)) ⟨w.heap.size, 2, none⟩ (.slice none 0 0)) ⟨w.heap.size, 3, none⟩ (.string ⟨#[]⟩)) ⟨w.heap.size, 4, none⟩ (.slice none 0 0)) = wF at c0 c1 c2 c3 c4 c5 c6 c7 ⊢
                  refine bodyPost_ret (results_ct rfl _ _ _ _ ⟨w.heap.size, 0, none⟩ rfl (load5 c0 c1 c2 c3 c4)) rfl ⟨⟨.slice none 0 0, .slice none 0 0, (by rw [HZ.out]; (try rw [hgo]); rfl), (by rw [HZ.out]; exact (StpOwn.nil _ 0).is)⟩, c5⟩
                · have hne : s.toList.isEmpty = false := by
                    rw [ByteArray.toList_eq]
                    have : s.data.toList.length ≠ 0 := by simpa using hz
                    cases h : s.data.toList with
                    | nil => rw [h] at this; simp at this
                    | cons a l => rfl
                  cases hgo : gO s with
                  | false =>
                    have HZ : Hid (gT s = zT) := by show _ = _; rw [HG.out, if_neg (by rw [hgo]; decide)]
                    have hcmp : ((putT x).toList == s.toList) = false := by
                      rw [beq_eq_false_iff_ne]
                      intro h
                      rw [ByteArray.toList_eq, ByteArray.toList_eq] at h
                      have : putT x = s := ByteArray.ext (Array.ext' h)
                      have := hss.1 ⟨hz, this⟩
                      rw [hgo] at this; cases this
                    have hcmp2 : ((putT x).toList != s.toList) = true := by simp only [bne, hcmp]; rfl
                    clear hss hS hIs
                    go_wp2_with (first | (go_at_call 16; refine Calls.mono hPut ?_; rintro r w4 ⟨rfl, hb4⟩; replace hbE : Below w.heap.size w w4 := hbE.trans (hb4.mono hbE.size); replace HR : Hid (w4.heap[w.heap.size]? = some (.cells #[.int .i64 0, .string ⟨#[]⟩, .slice none 0 0, .string ⟨#[]⟩, .slice none 0 0] 43 (0, 0))) := (hb4.block _ hRl).trans HR.out; replace r0 := cell_later hb4 r0; replace r1 := cell_later hb4 r1; replace r2 := cell_later hb4 r2; replace r3 := cell_later hb4 r3; replace r4 := cell_later hb4 r4; replace rf : ∀ i, w4.frozen? ⟨w.heap.size, i, none⟩ = false := fun i => Lib.frozen_of_heap HR.out i; clear hb4 hb Hg) | fail)
                    obtain ⟨c0, c1, c2, c3, c4, c5, c6, c7⟩ := five_out hbE (Nat.le_refl _) HR.out (.int .i64 0) (.string ⟨#[]⟩) (.slice none 0 0) (.string ⟨#[]⟩) (.slice none 0 0)
                    clear r0 r1 r2 r3 r4 rf HR
                    unfold five at c0 c1 c2 c3 c4 c5 c6 c7
                    generalize (World.setCell (World.setCell (World.setCell (World.setCell (World.setCell w4 ⟨w.heap.size, 0, none⟩ (.int .i64 0)) ⟨w.heap.size, 1, none⟩ (.string ⟨#[]⟩)) ⟨w.heap.size, 2, none⟩ (.slice none 0 0)) ⟨w.heap.size, 3, none⟩ (.string ⟨#[]⟩)) ⟨w.heap.size, 4, none⟩ (.slice none 0 0)) = wF at c0 c1 c2 c3 c4 c5 c6 c7 ⊢
                    refine bodyPost_ret (results_ct rfl _ _ _ _ ⟨w.heap.size, 0, none⟩ rfl (load5 c0 c1 c2 c3 c4)) rfl ⟨⟨.slice none 0 0, .slice none 0 0, (by rw [HZ.out]; (try rw [hgo]); rfl), (by rw [HZ.out]; exact (StpOwn.nil _ 0).is)⟩, c5⟩
                  | true =>
                    have HZ : Hid (gT s = x) := by show _ = _; rw [HG.out, if_pos hgo]
                    have hcmp : ((putT x).toList == s.toList) = true := by rw [(hss.2 hgo).2]; exact beq_self_eq_true _
                    have hcmp2 : ((putT x).toList != s.toList) = false := by simp only [bne, hcmp]; rfl
                    clear hss hS
                    go_wp2_with (first | (go_at_call 16; refine Calls.mono hPut ?_; rintro r w4 ⟨rfl, hb4⟩; replace hbE : Below w.heap.size w w4 := hbE.trans (hb4.mono hbE.size); replace HR : Hid (w4.heap[w.heap.size]? = some (.cells #[.int .i64 0, .string ⟨#[]⟩, .slice none 0 0, .string ⟨#[]⟩, .slice none 0 0] 43 (0, 0))) := (hb4.block _ hRl).trans HR.out; have Hg4 : Hid (StrsF w4 (.slice ac lc cc) x.cs g ∧ RelsF w4 (.slice av lr cv) x.rs F) := ⟨Hg.out.1.below hb4, Hg.out.2.2.1.below hb4⟩; replace r0 := cell_later hb4 r0; replace r1 := cell_later hb4 r1; replace r2 := cell_later hb4 r2; replace r3 := cell_later hb4 r3; replace r4 := cell_later hb4 r4; replace u0 := cell_later hb4 u0; replace u1 := cell_later hb4 u1; replace u2 := cell_later hb4 u2; replace u3 := cell_later hb4 u3; replace u4 := cell_later hb4 u4; replace rf : ∀ i, w4.frozen? ⟨w.heap.size, i, none⟩ = false := fun i => Lib.frozen_of_heap HR.out i; clear hb4 hb uf) | fail)
                    obtain ⟨c0, c1, c2, c3, c4, c5, c6, c7⟩ := five_out hbE (Nat.le_refl _) HR.out (.int .i64 x.k) (.string x.s) (.slice ac lc cc) (.string x.q) (.slice av lr cv)
                    clear r0 r1 r2 r3 r4 rf HR
                    unfold five at c0 c1 c2 c3 c4 c5 c6 c7
                    generalize (World.setCell (World.setCell (World.setCell (World.setCell (World.setCell w4 ⟨w.heap.size, 0, none⟩ (.int .i64 x.k)) ⟨w.heap.size, 1, none⟩ (.string x.s)) ⟨w.heap.size, 2, none⟩ (.slice ac lc cc)) ⟨w.heap.size, 3, none⟩ (.string x.q)) ⟨w.heap.size, 4, none⟩ (.slice av lr cv)) = wF at c0 c1 c2 c3 c4 c5 c6 c7 ⊢
                    have hIsF : StpIs wF (.slice ac lc cc) (.slice av lr cv) x := ⟨⟨g, Hg4.out.1.keep (Nat.le_of_eq c7.symm) fun b hb => c6 b (Hg.out.2.1 b hb)⟩, (Hg4.out.2.keep (Nat.le_of_eq c7.symm) fun b hb => c6 b (Hg.out.2.2.2 b hb)).is⟩
                    refine bodyPost_ret (results_ct rfl _ _ _ _ ⟨w.heap.size, 0, none⟩ rfl (load5 c0 c1 c2 c3 c4)) rfl ⟨⟨.slice ac lc cc, .slice av lr cv, (by rw [HZ.out]; (try rw [hgo]); rfl), (by rw [HZ.out]; exact hIsF)⟩, c5⟩
      · have hB1 : ¬ (0 ≤ pv) := by omega
        go_wp2_with (first | (go_at_call 53; with_reducible refine Calls.mono hP5 ?_; rintro r w1 ⟨rfl, hw1⟩; obtain rfl : wr = w1 := hw1.symm) | (go_at_call 52; with_reducible refine Calls.mono (P6 _) ?_; rintro r w1 ⟨rfl, hw1⟩; obtain rfl := hw1) | fail)
        have hS2 : (wr.setCell ⟨w.heap.size + 1, 3, none⟩ (.string (gtV s 2 (sC' s s.size (0, false)).2))).heap[w.heap.size + 1]? = some (.cells #[.int .i64 (gnV s 1 (0, false)), .string (gtV s 2 (sA s s.size (0, false)).2), .slice ac nc cc, .string (gtV s 2 (sC' s s.size (0, false)).2), .slice none 0 0] 43 (0, 0)) := by rw [set_blk hS]; rfl
        have hR2 : (wr.setCell ⟨w.heap.size + 1, 3, none⟩ (.string (gtV s 2 (sC' s s.size (0, false)).2))).heap[w.heap.size]? = some (.cells #[.int .i64 0, .string ⟨#[]⟩, .slice none 0 0, .string ⟨#[]⟩, .slice none 0 0] 43 (0, 0)) := (Below.heap_setCell _ _ _ _ (by intro e; dsimp only at e; omega)).trans hR
        have hneS := own_typ hO hS (by decide)
        have hO2 : (wr.setCell ⟨w.heap.size + 1, 3, none⟩ (.string (gtV s 2 (sC' s s.size (0, false)).2))).ownsRow (w.heap.size + 2) 9 1 (.slice ac nc cc) k (cs.map Value.string) := ownsRow_keep hO fun b hv => Below.heap_setCell _ _ _ _ (by rintro rfl; exact hneS hv)
        have hb2 : Below w.heap.size w (wr.setCell ⟨w.heap.size + 1, 3, none⟩ (.string (gtV s 2 (sC' s s.size (0, false)).2))) := hb.setCell (p := ⟨w.heap.size + 1, 3, none⟩) (by simp) _
        clear hS hR hO hb t2 t3 hneS hP5 P6
        generalize wr.setCell ⟨w.heap.size + 1, 3, none⟩ (.string (gtV s 2 (sC' s s.size (0, false)).2)) = wS at *
        have hSl2 := heap_lt hS2
        have hbO := fun b hb => (ownsRow_lt hO2 b hb).2
        have HE1 : Hid ((sA s s.size (0, false)).2.2 = false → gnV s 1 (0, false) = (sX s s.size (0, false)).k) := by
          intro h1; show _ = _; unfold gnV; rw [if_neg (by rw [show (nm s s.size 1 (0, false)).2.2 = (sA s s.size (0, false)).2.2 from rfl, h1]; decide)]; rfl
        have HE2 : Hid ((sB s s.size (0, false)).2.2 = false → gtV s 2 (sA s s.size (0, false)).2 = (sX s s.size (0, false)).s) := by
          intro h2; show _ = _; unfold gtV; rw [if_neg (by rw [show (tx s s.size 2 (sA s s.size (0, false)).2).2.2 = (sB s s.size (0, false)).2.2 from rfl, h2]; decide)]; rfl
        have HE4 : Hid ((sD s s.size (0, false)).2.2 = false → (gtV s 2 (sC' s s.size (0, false)).2) = (sX s s.size (0, false)).q) := by
          intro h5; show _ = _; unfold gtV; rw [if_neg (by rw [show (tx s s.size 2 (sC' s s.size (0, false)).2).2.2 = (sD s s.size (0, false)).2.2 from rfl, h5]; decide)]; rfl
        obtain ⟨fR, HfR⟩ : ∃ f : Nat → Int, Hid (∀ j, ps (rln s s.size (sM s s.size (0, false)).2 j).2 = f j) := ⟨fun j => ps (rln s s.size (sM s s.size (0, false)).2 j).2, fun _ => rfl⟩
        rw [show ps (sM s s.size (0, false)).2 = fR 0 from HfR.out 0]
        generalize gnV s 1 (0, false) = kA at *
        generalize gtV s 2 (sA s s.size (0, false)).2 = tA at *
        generalize (gtV s 2 (sC' s s.size (0, false)).2) = tD at *
        generalize ps (sA s s.size (0, false)).2 = pA
        generalize ps (sB s s.size (0, false)).2 = pB
        generalize ps (sN s s.size (0, false)).2 = pN
        generalize ps (sD s s.size (0, false)).2 = pD
        go_loopw [17, 18] (fun fr i wq => ∃ (j : Nat) (rs : List R3) (v : Value) (us : List Value) (G : List (List Nat)), j ≤ m ∧ i = .int .i64 j ∧ fr = .int .i64 (fR j) ∧ Hid (rs.length = j) ∧ Hid ((rln s s.size (sM s s.size (0, false)).2 j).2.2 = false → rs = (rln s s.size (sM s s.size (0, false)).2 j).1) ∧ wq.heap[w.heap.size + 1]? = some (.cells #[.int .i64 (kA), .string tA, .slice ac nc cc, .string tD, v] 43 (0, 0)) ∧ wq.heap[w.heap.size]? = some (.cells #[.int .i64 0, .string ⟨#[]⟩, .slice none 0 0, .string ⟨#[]⟩, .slice none 0 0] 43 (0, 0)) ∧ wq.ownsRow (w.heap.size + 2) 9 1 (.slice ac nc cc) k (cs.map Value.string) ∧ RelOwn wq wS.heap.size v rs us G ∧ Below w.heap.size w wq ∧ wS.heap.size ≤ wq.heap.size) (fun _ i _ => m - (intOf i).toNat)
        case atStart => exact ⟨0, [], .slice none 0 0, [], [], Nat.zero_le _, rfl, rfl, rfl, fun _ => rfl, hS2, hR2, hO2, ⟨⟨rfl, .inl ⟨rfl, rfl⟩⟩, rfl, rfl, fun i x u g hx => by simp at hx, by simp [Own, Free], fun b _ => by simp⟩, hb2, Nat.le_refl _⟩
        case round =>
          clear hS2 hR2 hO2 hb2
          obtain ⟨j, rs, v, us, G, hj, rfl, rfl, HLr, HCr, hS, hR, hO, hQ, hb, hzS⟩ := hrel
          by_cases hgo2 : j < m ∧ (rln s s.size (sM s s.size (0, false)).2 j).2.2 = false
          · obtain ⟨hlt, ht⟩ := hgo2
            have hp0 : 0 ≤ fR j := by rw [← HfR.out j, ps_ge ht]; omega
            have hjI : (j : Int) < (m : Int) := by omega
            have hqj : (rln s s.size (sM s s.size (0, false)).2 j).2.1 ≤ s.size := rln_at q6 j
            have hqt : (tx s s.size 2 (rln s s.size (sM s s.size (0, false)).2 j).2).2.1 ≤ s.size := tx_at hqj
            have hP7 := l10Get_any s (rln s s.size (sM s s.size (0, false)).2 j).2 2 wr hqj hs (by omega)
            rw [HfR.out j] at hP7
            have hP8 := l10Get_any s (tx s s.size 2 (rln s s.size (sM s s.size (0, false)).2 j).2).2 4 wr hqt hs (by omega)
            have hsz2 : (gtV s 4 (tx s s.size 2 (rln s s.size (sM s s.size (0, false)).2 j).2).2).size ≤ 1048576 := by
              unfold gtV
              split
              · exact Nat.zero_le _
              · exact Nat.le_trans (tk_size (Nat.le_refl _) (nm_at hqt)) hs
            have hGB := specGetBag_any (gtV s 4 (tx s s.size 2 (rln s s.size (sM s s.size (0, false)).2 j).2).2) wr hsz2
            have HBad : Hid (aB (gtV s 4 (tx s s.size 2 (rln s s.size (sM s s.size (0, false)).2 j).2).2) = false → gO s = false) := by
              intro hab
              have h1 : (rln s s.size (sM s s.size (0, false)).2 (j + 1)).2.2 = true := rl_bad hab
              have h2 := rln_torn (q := (sM s s.size (0, false)).2) _ ht
              have h3 := HmT.out h2
              have h4 : (sE s s.size (0, false)).2.2 = true := by
                have := rln_late (s := s) (e := s.size) (q := (sM s s.size (0, false)).2) (k := j + 1) (d := m - (j + 1)) h1
                rw [show j + 1 + (m - (j + 1)) = (sM s s.size (0, false)).1.toNat by omega] at this
                exact this
              unfold gO sO sT
              rw [h4]; rfl
            have HNx : Hid (aB (gtV s 4 (tx s s.size 2 (rln s s.size (sM s s.size (0, false)).2 j).2).2) = true → ps (tx s s.size 4 (tx s s.size 2 (rln s s.size (sM s s.size (0, false)).2 j).2).2).2 = fR (j + 1)) := fun hab => by show _ = _; rw [← HfR.out]; exact ps_rl hab
            have HEq : Hid ((rln s s.size (sM s s.size (0, false)).2 (j + 1)).2.2 = false → rs ++ [⟨gtV s 2 (rln s s.size (sM s s.size (0, false)).2 j).2, aW (gtV s 4 (tx s s.size 2 (rln s s.size (sM s s.size (0, false)).2 j).2).2), aC (gtV s 4 (tx s s.size 2 (rln s s.size (sM s s.size (0, false)).2 j).2).2)⟩] = (rln s s.size (sM s s.size (0, false)).2 (j + 1)).1) := by
              intro h
              rw [rl_eq (q := (rln s s.size (sM s s.size (0, false)).2 j).2) h, HCr.out ht]; rfl
            generalize gtV s 2 (rln s s.size (sM s s.size (0, false)).2 j).2 = T1 at *
            generalize gtV s 4 (tx s s.size 2 (rln s s.size (sM s s.size (0, false)).2 j).2).2 = T2 at *
            generalize ps (tx s s.size 4 (tx s s.size 2 (rln s s.size (sM s s.size (0, false)).2 j).2).2).2 = p3 at *
            generalize ps (tx s s.size 2 (rln s s.size (sM s s.size (0, false)).2 j).2).2 = p2 at *
            go_wp2_with (first | (go_at_call 53; with_reducible refine Calls.mono hP7 ?_; rintro r w1 ⟨rfl, hw1⟩; obtain rfl : wr = w1 := hw1.symm) | (go_at_call 53; with_reducible refine Calls.mono hP8 ?_; rintro r w1 ⟨rfl, hw1⟩; obtain rfl : wr = w1 := hw1.symm) | (go_at_call 54; with_reducible refine Calls.mono hGB ?_) | fail)
            rintro r w3 ⟨⟨u3, us3, G3, rfl, hBag⟩, hb3⟩
            obtain ⟨a3, c3, rfl⟩ := hBag.shape
            cases hab : aB T2
            · as_aux_lemma =>
                have hgo := HBad.out hab
                have HZ : Hid (gT s = zT) := by show _ = _; unfold gT; rw [if_neg (by rw [show sO s s.size (0, false) = gO s from rfl, hgo]; decide)]
                have hR3 : (w3.alloc (.cells #[.int .i64 (aW T2), .slice a3 (aC T2).length c3] 26)).heap[w.heap.size]? = some (.cells #[.int .i64 0, .string ⟨#[]⟩, .slice none 0 0, .string ⟨#[]⟩, .slice none 0 0] 43 (0, 0)) := (heap_alloc_old w3 _ (Nat.lt_of_lt_of_le (heap_lt hR) hb3.size)).trans ((hb3.block _ (heap_lt hR)).trans hR)
                have hbE : Below w.heap.size w (w3.alloc (.cells #[.int .i64 (aW T2), .slice a3 (aC T2).length c3] 26)) := (hb.trans (hb3.mono hb.size)).alloc (Nat.le_trans hb.size hb3.size) _
                clear hR hS hO hQ hb hb3 hBag HBad HNx HEq HCr HLr hP7 hP8 hGB
                clear HE1 HE2 HE4 HfR q1 q2 q3 q4 q5 q6 HnT HmT hn255 hm255 hcase2 hexit0 HL HP HC2 hi hz0 hz1 hz2 hj0 hy0 hy1 hy2 hSl2 hbO
                go_upto_region 22 with fail
                generalize w3.alloc (.cells #[.int .i64 (aW T2), .slice a3 (aC T2).length c3] 26) = wb at *
                have r0 : wb.cell? ⟨w.heap.size, 0, none⟩ = some (.int .i64 0) := by rw [Lib.cell_of_heap hR3]; rfl
                have r1 : wb.cell? ⟨w.heap.size, 1, none⟩ = some (.string ⟨#[]⟩) := by rw [Lib.cell_of_heap hR3]; rfl
                have r2 : wb.cell? ⟨w.heap.size, 2, none⟩ = some (.slice none 0 0) := by rw [Lib.cell_of_heap hR3]; rfl
                have r3 : wb.cell? ⟨w.heap.size, 3, none⟩ = some (.string ⟨#[]⟩) := by rw [Lib.cell_of_heap hR3]; rfl
                have r4 : wb.cell? ⟨w.heap.size, 4, none⟩ = some (.slice none 0 0) := by rw [Lib.cell_of_heap hR3]; rfl
                have rf : ∀ i, wb.frozen? ⟨w.heap.size, i, none⟩ = false := fun i => Lib.frozen_of_heap hR3 i
                have hRl := heap_lt hR3
                have HR : Hid (wb.heap[w.heap.size]? = some (.cells #[.int .i64 0, .string ⟨#[]⟩, .slice none 0 0, .string ⟨#[]⟩, .slice none 0 0] 43 (0, 0))) := hR3
                clear hR3
                go_wp2
                obtain ⟨c0, c1, c2, c3, c4, c5, c6, c7⟩ := five_out hbE (Nat.le_refl _) HR.out (.int .i64 0) (.string ⟨#[]⟩) (.slice none 0 0) (.string ⟨#[]⟩) (.slice none 0 0)
                clear r0 r1 r2 r3 r4 rf HR
                unfold five at c0 c1 c2 c3 c4 c5 c6 c7
                generalize (World.setCell (World.setCell (World.setCell (World.setCell (World.setCell wb ⟨w.heap.size, 0, none⟩ (.int .i64 0)) ⟨w.heap.size, 1, none⟩ (.string ⟨#[]⟩)) ⟨w.heap.size, 2, none⟩ (.slice none 0 0)) ⟨w.heap.size, 3, none⟩ (.string ⟨#[]⟩)) ⟨w.heap.size, 4, none⟩ (.slice none 0 0)) = wF at c0 c1 c2 c3 c4 c5 c6 c7 ⊢
                refine bodyPost_ret (results_ct rfl _ _ _ _ ⟨w.heap.size, 0, none⟩ rfl (load5 c0 c1 c2 c3 c4)) rfl ⟨⟨.slice none 0 0, .slice none 0 0, (by rw [HZ.out]; (try rw [hgo]); rfl), (by rw [HZ.out]; exact (StpOwn.nil _ 0).is)⟩, c5⟩
            · as_aux_lemma =>
                have hnx := HNx.out hab
                obtain ⟨F2, hF2, hO2⟩ := hBag.rowsF
                have hGl := hQ.lt
                have hul := ownsRow_lt hQ.own
                have hSl3 := heap_lt hS
                have hRl3 := heap_lt hR
                have hzr := hb3.size
                have hbO3 := fun b hb => (ownsRow_lt hO b hb).2
                have bal : Below w3.heap.size w3 ((w3.alloc (.cells #[.int .i64 (aW T2), .slice a3 (aC T2).length c3] 26)).alloc (.cells #[.string T1, .int .i64 (aW T2), .slice a3 (aC T2).length c3] 73)) := ((Below.refl _ _).alloc (Nat.le_refl _) _).alloc (by simp) _
                have bA : Below wr.heap.size wr ((w3.alloc (.cells #[.int .i64 (aW T2), .slice a3 (aC T2).length c3] 26)).alloc (.cells #[.string T1, .int .i64 (aW T2), .slice a3 (aC T2).length c3] 73)) := hb3.trans (bal.mono hzr)
                have hS4 : ((w3.alloc (.cells #[.int .i64 (aW T2), .slice a3 (aC T2).length c3] 26)).alloc (.cells #[.string T1, .int .i64 (aW T2), .slice a3 (aC T2).length c3] 73)).heap[w.heap.size + 1]? = some (.cells #[.int .i64 kA, .string tA, .slice ac nc cc, .string tD, v] 43 (0, 0)) := (bA.block _ hSl3).trans hS
                have hR4 : ((w3.alloc (.cells #[.int .i64 (aW T2), .slice a3 (aC T2).length c3] 26)).alloc (.cells #[.string T1, .int .i64 (aW T2), .slice a3 (aC T2).length c3] 73)).heap[w.heap.size]? = some (.cells #[.int .i64 0, .string ⟨#[]⟩, .slice none 0 0, .string ⟨#[]⟩, .slice none 0 0] 43 (0, 0)) := (bA.block _ hRl3).trans hR
                have hO4 : ((w3.alloc (.cells #[.int .i64 (aW T2), .slice a3 (aC T2).length c3] 26)).alloc (.cells #[.string T1, .int .i64 (aW T2), .slice a3 (aC T2).length c3] 73)).ownsRow (w.heap.size + 2) 9 1 (.slice ac nc cc) k (cs.map Value.string) := ownsRow_keep hO fun b hv => bA.block b (hbO3 b hv)
                have hQ4 := hQ.below bA
                have hbE : Below w.heap.size w ((w3.alloc (.cells #[.int .i64 (aW T2), .slice a3 (aC T2).length c3] 26)).alloc (.cells #[.string T1, .int .i64 (aW T2), .slice a3 (aC T2).length c3] 73)) := hb.trans (bA.mono hb.size)
                have hF4 := hF2.below bal
                have hOw4 : Own ((w3.alloc (.cells #[.int .i64 (aW T2), .slice a3 (aC T2).length c3] 26)).alloc (.cells #[.string T1, .int .i64 (aW T2), .slice a3 (aC T2).length c3] 73)) wS.heap.size F2 := ⟨hO2.1, fun b hb => Nat.le_trans hzS (hO2.2.1 b hb), fun b hb i => (frozen_blk (bal.block _ (hF2.lt b hb))).trans (hO2.2.2 b hb i)⟩
                have hd1 : ∀ b ∈ G.flatten, b ∉ F2 := fun b hb hb2 => by have := hO2.2.1 b hb2; have := hGl b hb; omega
                have hd2 : ∀ b, v.ownBlock = some b → b ∉ F2 := fun b hb hb2 => by have := hO2.2.1 b hb2; have := (hul b hb).2; omega
                have hrl : ((w3.alloc (.cells #[.int .i64 (aW T2), .slice a3 (aC T2).length c3] 26)).alloc (.cells #[.string T1, .int .i64 (aW T2), .slice a3 (aC T2).length c3] 73)).heap[w3.heap.size + 1]? = some (.cells #[.string T1, .int .i64 (aW T2), .slice a3 (aC T2).length c3] 73 (0, 0)) := alloc2_new _ _ _
                obtain ⟨av, cv, rfl⟩ := hQ.shape
                have t0 : w3.cell? ⟨w.heap.size + 1, 4, none⟩ = some (.slice av rs.length cv) := by rw [Lib.cell_of_heap ((hb3.block _ hSl3).trans hS)]; rfl
                have hl3 : w.heap.size + 1 < w3.heap.size := by omega
                have hlenJ : rs.length = j := HLr.out
                have HLJ : Hid (rs.length = j) := hlenJ
                have hz4 : wS.heap.size ≤ w3.heap.size := by omega
                have hml : rs.length ≤ 255 := by omega
                clear hlenJ hb3 hBag hO hQ hb hS hR hO2 hF2 HBad HCr HLr hP7 hP8 hGB HNx bA bal
                have ho4 := hQ4.own
                go_wp2_with (at_builtin; (refine wpList_append_own_at _ rfl _ _ 41 rfl wS.heap.size 73 j0 _ 3 48 Try.underlying41 hj0 hy0 hy1 hy2 rfl (by decide) _ _ _ rfl ho4 ⟨w3.heap.size + 1, 0, none⟩ 1 1 [.string T1, .int .i64 (aW T2), .slice a3 (aC T2).length c3] rfl (by simp) ?c1 ?c2 ?c3 ?c4 ?c5 ?_))
                case c1 => exact World.news_of_block (cs := #[.string T1, .int .i64 (aW T2), .slice a3 (aC T2).length c3]) (t := 73) (fr := (0, 0)) hrl
                case c2 => simp [Value.oneCell']
                case c3 => unfold maxLen; omega
                case c4 => omega
                case c5 => simp; omega
                intro v' w5 hown' hgrow _ hat
                have hneS := own_typ ho4 hS4 (by decide)
                have hneR := own_typ ho4 hR4 (by decide)
                have hS5 : w5.heap[w.heap.size + 1]? = some (.cells #[.int .i64 kA, .string tA, .slice ac nc cc, .string tD, .slice av rs.length cv] 43 (0, 0)) := (hgrow.block _ (heap_lt hS4) (fun e => hneS e.symm)).trans hS4
                have hR5 : w5.heap[w.heap.size]? = some (.cells #[.int .i64 0, .string ⟨#[]⟩, .slice none 0 0, .string ⟨#[]⟩, .slice none 0 0] 43 (0, 0)) := (hgrow.block _ (heap_lt hR4) (fun e => hneR e.symm)).trans hR4
                have hO5 : w5.ownsRow (w.heap.size + 2) 9 1 (.slice ac nc cc) k (cs.map Value.string) := ownsRow_keep hO4 fun b hv => hgrow.block b (ownsRow_lt hO4 b hv).2 (fun e => by have h1 := (hul b e.symm).1; have h2 := hbO b hv; omega)
                have hQ5 := RelOwn.push (x := ⟨T1, aW T2, aC T2⟩) hQ4 hF4 hOw4 hd1 hd2 hown' hgrow (fun b hb => by
                  rcases hat with e | e
                  · left; rw [← e]; exact hb
                  · right; rw [e] at hb; cases hb; simp)
                have hb5 : Below w.heap.size w w5 := hbE.grown hgrow (by simp; omega) (fun b hb => by have := (hul b hb).1; omega)
                have hne5 := own_typ hown' hS5 (by decide)
                have hsz5 := hgrow.size
                simp only [World.size_alloc] at hsz5
                have hs5 : ∃ ao n' cap, v' = .slice ao n' cap := by
                  rcases hown'.2 with ⟨hv, _⟩ | ⟨g, cap, cur, hv, _⟩ <;> exact ⟨_, _, _, hv⟩
                obtain ⟨ao, n', cap, rfl⟩ := hs5
                have t3 : w5.cell? ⟨w.heap.size + 1, 4, none⟩ = some (.slice av rs.length cv) := by rw [Lib.cell_of_heap hS5]; rfl
                have t4 : w5.frozen? ⟨w.heap.size + 1, 4, none⟩ = false := Lib.frozen_of_heap hS5 4
                have hS6 : (w5.setCell ⟨w.heap.size + 1, 4, none⟩ (.slice ao n' cap)).heap[w.heap.size + 1]? = some (.cells #[.int .i64 kA, .string tA, .slice ac nc cc, .string tD, .slice ao n' cap] 43 (0, 0)) := by rw [set_blk hS5]; rfl
                have hR6 : (w5.setCell ⟨w.heap.size + 1, 4, none⟩ (.slice ao n' cap)).heap[w.heap.size]? = some (.cells #[.int .i64 0, .string ⟨#[]⟩, .slice none 0 0, .string ⟨#[]⟩, .slice none 0 0] 43 (0, 0)) := (Below.heap_setCell _ _ _ _ (by intro e; dsimp only at e; omega)).trans hR5
                have hneO := own_typ hO5 hS5 (by decide)
                have hO6 : (w5.setCell ⟨w.heap.size + 1, 4, none⟩ (.slice ao n' cap)).ownsRow (w.heap.size + 2) 9 1 (.slice ac nc cc) k (cs.map Value.string) := ownsRow_keep hO5 fun b hv => Below.heap_setCell _ _ _ _ (by rintro rfl; exact hneO hv)
                have hQ6 := hQ5.keepF (w' := w5.setCell ⟨w.heap.size + 1, 4, none⟩ (.slice ao n' cap)) (by simp) (fun b hv => Below.heap_setCell _ _ _ _ (by rintro rfl; exact hne5 hv)) (fun b hb => Below.heap_setCell _ _ _ _ (by intro e; have := hQ5.free.2.1 _ hb; dsimp only at e; omega))
                have hb6 : Below w.heap.size w (w5.setCell ⟨w.heap.size + 1, 4, none⟩ (.slice ao n' cap)) := hb5.setCell (p := ⟨w.heap.size + 1, 4, none⟩) (by simp) _
                have hz6 : wS.heap.size ≤ (w5.setCell ⟨w.heap.size + 1, 4, none⟩ (.slice ao n' cap)).heap.size := by simp; omega
                have HL6 : Hid ((rs ++ [(⟨T1, aW T2, aC T2⟩ : R3)]).length = j + 1) := by show _ = _; rw [List.length_append, HLJ.out]; rfl
                have HQ6 : Hid (RelOwn (w5.setCell ⟨w.heap.size + 1, 4, none⟩ (.slice ao n' cap)) wS.heap.size (.slice ao n' cap) (rs ++ [⟨T1, aW T2, aC T2⟩]) (us ++ [.slice a3 (aC T2).length c3]) (G ++ [F2])) := hQ6
                clear hQ4 hQ5 hQ6 hown' hgrow hat hF4 hOw4 hO4 hO5 hS4 hS5 hR4 hR5 ho4 hb5 hbE t0 hrl hne5 hneS hneR hneO
                go_wp2
                exact ⟨⟨j + 1, rs ++ [⟨T1, aW T2, aC T2⟩], _, _, _, hlt, by simp, (by first | rfl | rw [hnx]), HL6, HEq, hS6, hR6, hO6, HQ6.out, hb6, hz6⟩, by simp [intOf]; omega⟩
          · as_aux_lemma =>
              have hexit : (j : Int) < (m : Int) → fR j < 0 := by
                intro h1
                rw [← HfR.out j]
                cases ht : (rln s s.size (sM s s.size (0, false)).2 j).2.2
                · exact absurd ⟨by omega, ht⟩ hgo2
                · rw [ps_lt ht]; decide
              have HP : Hid (fR j = ps (sE s s.size (0, false)).2) := by
                show _ = _
                rw [← HfR.out j]
                cases ht : (sM s s.size (0, false)).2.2 with
                | true =>
                  have h1 : (rln s s.size (sM s s.size (0, false)).2 j).2.2 = true := by have := rln_late (s := s) (e := s.size) (q := (sM s s.size (0, false)).2) (k := 0) (d := j) ht; rwa [Nat.zero_add] at this
                  have h2 : (sE s s.size (0, false)).2.2 = true := by have := rln_late (s := s) (e := s.size) (q := (sM s s.size (0, false)).2) (k := 0) (d := (sM s s.size (0, false)).1.toNat) ht; rwa [Nat.zero_add] at this
                  rw [ps_lt h1, ps_lt h2]
                | false =>
                  have hnn := HmT.out ht
                  by_cases h1 : j < m
                  · have h2 := hexit (by omega)
                    rw [← HfR.out j] at h2
                    have h3 : (rln s s.size (sM s s.size (0, false)).2 j).2.2 = true := by
                      cases h4 : (rln s s.size (sM s s.size (0, false)).2 j).2.2 with
                      | true => rfl
                      | false => rw [ps_ge h4] at h2; omega
                    have h5 : (sE s s.size (0, false)).2.2 = true := by
                      have := rln_late (s := s) (e := s.size) (q := (sM s s.size (0, false)).2) (k := j) (d := m - j) h3
                      rw [show j + (m - j) = (sM s s.size (0, false)).1.toNat by omega] at this
                      exact this
                    rw [ps_lt h3, ps_lt h5]
                  · have : j = (sM s s.size (0, false)).1.toNat := by omega
                    rw [this]; rfl
              have HCE : Hid ((sE s s.size (0, false)).2.2 = false → rs = (sE s s.size (0, false)).1) := by
                intro h
                have h0 := rln_torn (q := (sM s s.size (0, false)).2) _ h
                have hnn := HmT.out h0
                have h1 : ¬ j < m := by
                  intro h1
                  have h2 := hexit (by omega)
                  have h3 := HP.out
                  rw [ps_ge h] at h3
                  omega
                have : j = (sM s s.size (0, false)).1.toNat := by omega
                have h4 := HCr.out (by rw [this]; exact h)
                rw [h4, this]; rfl
              have r0 : wr.cell? ⟨w.heap.size, 0, none⟩ = some (.int .i64 0) := by rw [Lib.cell_of_heap hR]; rfl
              have r1 : wr.cell? ⟨w.heap.size, 1, none⟩ = some (.string ⟨#[]⟩) := by rw [Lib.cell_of_heap hR]; rfl
              have r2 : wr.cell? ⟨w.heap.size, 2, none⟩ = some (.slice none 0 0) := by rw [Lib.cell_of_heap hR]; rfl
              have r3 : wr.cell? ⟨w.heap.size, 3, none⟩ = some (.string ⟨#[]⟩) := by rw [Lib.cell_of_heap hR]; rfl
              have r4 : wr.cell? ⟨w.heap.size, 4, none⟩ = some (.slice none 0 0) := by rw [Lib.cell_of_heap hR]; rfl
              have rf : ∀ i, wr.frozen? ⟨w.heap.size, i, none⟩ = false := fun i => Lib.frozen_of_heap hR i
              have hRl := heap_lt hR
              have hSl := heap_lt hS
              have HR : Hid (wr.heap[w.heap.size]? = some (.cells #[.int .i64 0, .string ⟨#[]⟩, .slice none 0 0, .string ⟨#[]⟩, .slice none 0 0] 43 (0, 0))) := hR
              have hbE : Below w.heap.size w wr := hb
              clear hR hi hz0 hz1 hz2 hj0 hy0 hy1 hy2 q1 q2 q3 q4 q5 q6 hn255 hm255 hcase2 hexit0
              have hRS : w.heap.size ≠ w.heap.size + 1 := by omega
              by_cases hneg : fR j < 0
              · have hgo : gO s = false := by
                  have h4 : (sE s s.size (0, false)).2.2 = true := by
                    cases h4 : (sE s s.size (0, false)).2.2 with
                    | true => rfl
                    | false => have := HP.out; rw [ps_ge h4] at this; omega
                  unfold gO sO sT
                  rw [h4]; rfl
                have HZ : Hid (gT s = zT) := by show _ = _; unfold gT; rw [if_neg (by rw [show sO s s.size (0, false) = gO s from rfl, hgo]; decide)]
                clear HE1 HE2 HE4 HfR HCE HC2 HP HnT HmT hO hQ hS HCr HLr HL
                have hB2 : ¬ (0 ≤ fR j) := by omega
                generalize fR j = pw at *
                by_cases hA2 : (j : Int) < (m : Int)
                · clear hexit
                  go_wp2
                  obtain ⟨c0, c1, c2, c3, c4, c5, c6, c7⟩ := five_out hbE (Nat.le_refl _) HR.out (.int .i64 0) (.string ⟨#[]⟩) (.slice none 0 0) (.string ⟨#[]⟩) (.slice none 0 0)
                  clear r0 r1 r2 r3 r4 rf HR
                  unfold five at c0 c1 c2 c3 c4 c5 c6 c7
                  generalize (World.setCell (World.setCell (World.setCell (World.setCell (World.setCell wr ⟨w.heap.size, 0, none⟩ (.int .i64 0)) ⟨w.heap.size, 1, none⟩ (.string ⟨#[]⟩)) ⟨w.heap.size, 2, none⟩ (.slice none 0 0)) ⟨w.heap.size, 3, none⟩ (.string ⟨#[]⟩)) ⟨w.heap.size, 4, none⟩ (.slice none 0 0)) = wF at c0 c1 c2 c3 c4 c5 c6 c7 ⊢
                  refine bodyPost_ret (results_ct rfl _ _ _ _ ⟨w.heap.size, 0, none⟩ rfl (load5 c0 c1 c2 c3 c4)) rfl ⟨⟨.slice none 0 0, .slice none 0 0, (by rw [HZ.out]; (try rw [hgo]); rfl), (by rw [HZ.out]; exact (StpOwn.nil _ 0).is)⟩, c5⟩
                · clear hexit
                  go_wp2
                  obtain ⟨c0, c1, c2, c3, c4, c5, c6, c7⟩ := five_out hbE (Nat.le_refl _) HR.out (.int .i64 0) (.string ⟨#[]⟩) (.slice none 0 0) (.string ⟨#[]⟩) (.slice none 0 0)
                  clear r0 r1 r2 r3 r4 rf HR
                  unfold five at c0 c1 c2 c3 c4 c5 c6 c7
                  generalize (World.setCell (World.setCell (World.setCell (World.setCell (World.setCell wr ⟨w.heap.size, 0, none⟩ (.int .i64 0)) ⟨w.heap.size, 1, none⟩ (.string ⟨#[]⟩)) ⟨w.heap.size, 2, none⟩ (.slice none 0 0)) ⟨w.heap.size, 3, none⟩ (.string ⟨#[]⟩)) ⟨w.heap.size, 4, none⟩ (.slice none 0 0)) = wF at c0 c1 c2 c3 c4 c5 c6 c7 ⊢
                  refine bodyPost_ret (results_ct rfl _ _ _ _ ⟨w.heap.size, 0, none⟩ rfl (load5 c0 c1 c2 c3 c4)) rfl ⟨⟨.slice none 0 0, .slice none 0 0, (by rw [HZ.out]; (try rw [hgo]); rfl), (by rw [HZ.out]; exact (StpOwn.nil _ 0).is)⟩, c5⟩
              · have hA2 : ¬ ((j : Int) < (m : Int)) := fun h => hneg (hexit h)
                have hT : (sE s s.size (0, false)).2.2 = false := by
                  cases h4 : (sE s s.size (0, false)).2.2 with
                  | false => rfl
                  | true => have := HP.out; rw [ps_lt h4] at this; omega
                have h6 := rln_torn (q := (sM s s.size (0, false)).2) _ hT
                have h5 := nm_torn (q := (sD s s.size (0, false)).2) h6
                have h4 := (tx_torn (q := (sC' s s.size (0, false)).2) h5).2
                have h3 := csn_torn (q := (sN s s.size (0, false)).2) _ h4
                have h2 := nm_torn (q := (sB s s.size (0, false)).2) h3
                have h1 := (tx_torn (q := (sA s s.size (0, false)).2) h2).2
                have E1 := HE1.out h1
                have E2 := HE2.out h2
                have E3 : cs = (sX s s.size (0, false)).cs := HC2.out h4
                have E4 := HE4.out h5
                have E5 : rs = (sX s s.size (0, false)).rs := HCE.out hT
                have hss := step_same s hT
                have hwf := sX_wf (s := s) (e := s.size) (q := (0, false)) (Nat.le_refl _) hs (Nat.zero_le _)
                have HG : Hid (gT s = if gO s = true then sX s s.size (0, false) else zT) := rfl
                have hlk : cs.length = k := HL.out
                obtain ⟨av, cv, rfl⟩ := hQ.shape
                rw [E1, E2, E4] at hS
                subst E3 E5
                rw [← hlk] at hO
                obtain ⟨g, hg, hgO, _⟩ := strs_own hO
                obtain ⟨F, hF, hFO⟩ := hQ.relsF
                obtain ⟨e1, e2, e3, _, _⟩ := hg.shape
                obtain ⟨rfl, rfl, rfl⟩ : ac = e1 ∧ nc = (sX s s.size (0, false)).cs.length ∧ cc = e2 := by injection e3 with a b c; exact ⟨a, b, c⟩
                have hIs : StpIs wr (.slice ac (sX s s.size (0, false)).cs.length cc) (.slice av (sX s s.size (0, false)).rs.length cv) (sX s s.size (0, false)) := ⟨⟨g, hg⟩, hF.is⟩
                have Hg : Hid (StrsF wr (.slice ac (sX s s.size (0, false)).cs.length cc) (sX s s.size (0, false)).cs g ∧ (∀ b ∈ g, b ≠ w.heap.size) ∧ RelsF wr (.slice av (sX s s.size (0, false)).rs.length cv) (sX s s.size (0, false)).rs F ∧ (∀ b ∈ F, b ≠ w.heap.size)) := ⟨hg, fun b hb e => by have := hgO.2.1 b hb; omega, hF, fun b hb e => by have := hFO.2.1 b hb; omega⟩
                have hPut := specPutStep_any (sX s s.size (0, false)) _ _ wr hwf hIs
                clear HE1 HE2 HE4 HfR HCE HC2 HP HnT HmT hO hQ HCr HLr HL h1 h2 h3 h4 h5 h6 E1 E2 E4 hg hF hgO hFO hlk hwf hexit
                generalize sX s s.size (0, false) = x at *
                generalize fR j = pw at *
                generalize x.cs.length = lc at *
                generalize x.rs.length = lr at *
                have u0 : wr.cell? ⟨w.heap.size + 1, 0, none⟩ = some (.int .i64 x.k) := by rw [Lib.cell_of_heap hS]; rfl
                have u1 : wr.cell? ⟨w.heap.size + 1, 1, none⟩ = some (.string x.s) := by rw [Lib.cell_of_heap hS]; rfl
                have u2 : wr.cell? ⟨w.heap.size + 1, 2, none⟩ = some (.slice ac lc cc) := by rw [Lib.cell_of_heap hS]; rfl
                have u3 : wr.cell? ⟨w.heap.size + 1, 3, none⟩ = some (.string x.q) := by rw [Lib.cell_of_heap hS]; rfl
                have u4 : wr.cell? ⟨w.heap.size + 1, 4, none⟩ = some (.slice av lr cv) := by rw [Lib.cell_of_heap hS]; rfl
                have uf : ∀ i, wr.frozen? ⟨w.heap.size + 1, i, none⟩ = false := fun i => Lib.frozen_of_heap hS i
                by_cases hz : s.size = 0
                · have hgo : gO s = false := by
                    cases h : gO s with
                    | false => rfl
                    | true => exact absurd hz (hss.2 h).1
                  have HZ : Hid (gT s = zT) := by show _ = _; rw [HG.out, if_neg (by rw [hgo]; decide)]
                  have hnil : s.toList = [] := by rw [ByteArray.toList_eq]; exact List.eq_nil_of_length_eq_zero (by simpa using hz)
                  clear hPut hIs hss hS
                  go_wp2
                  obtain ⟨c0, c1, c2, c3, c4, c5, c6, c7⟩ := five_out hbE (Nat.le_refl _) HR.out (.int .i64 0) (.string ⟨#[]⟩) (.slice none 0 0) (.string ⟨#[]⟩) (.slice none 0 0)
                  clear r0 r1 r2 r3 r4 rf HR
                  unfold five at c0 c1 c2 c3 c4 c5 c6 c7
                  generalize (World.setCell (World.setCell (World.setCell (World.setCell (World.setCell wr ⟨w.heap.size, 0, none⟩ (.int .i64 0)) ⟨w.heap.size, 1, none⟩ (.string ⟨#[]⟩)) ⟨w.heap.size, 2, none⟩ (.slice none 0 0)) ⟨w.heap.size, 3, none⟩ (.string ⟨#[]⟩)) ⟨w.heap.size, 4, none⟩ (.slice none 0 0)) = wF at c0 c1 c2 c3 c4 c5 c6 c7 ⊢
                  refine bodyPost_ret (results_ct rfl _ _ _ _ ⟨w.heap.size, 0, none⟩ rfl (load5 c0 c1 c2 c3 c4)) rfl ⟨⟨.slice none 0 0, .slice none 0 0, (by rw [HZ.out]; (try rw [hgo]); rfl), (by rw [HZ.out]; exact (StpOwn.nil _ 0).is)⟩, c5⟩
                · have hne : s.toList.isEmpty = false := by
                    rw [ByteArray.toList_eq]
                    have : s.data.toList.length ≠ 0 := by simpa using hz
                    cases h : s.data.toList with
                    | nil => rw [h] at this; simp at this
                    | cons a l => rfl
                  cases hgo : gO s with
                  | false =>
                    have HZ : Hid (gT s = zT) := by show _ = _; rw [HG.out, if_neg (by rw [hgo]; decide)]
                    have hcmp : ((putT x).toList == s.toList) = false := by
                      rw [beq_eq_false_iff_ne]
                      intro h
                      rw [ByteArray.toList_eq, ByteArray.toList_eq] at h
                      have : putT x = s := ByteArray.ext (Array.ext' h)
                      have := hss.1 ⟨hz, this⟩
                      rw [hgo] at this; cases this
                    have hcmp2 : ((putT x).toList != s.toList) = true := by simp only [bne, hcmp]; rfl
                    clear hss hS hIs
                    go_wp2_with (first | (go_at_call 16; refine Calls.mono hPut ?_; rintro r w4 ⟨rfl, hb4⟩; replace hbE : Below w.heap.size w w4 := hbE.trans (hb4.mono hbE.size); replace HR : Hid (w4.heap[w.heap.size]? = some (.cells #[.int .i64 0, .string ⟨#[]⟩, .slice none 0 0, .string ⟨#[]⟩, .slice none 0 0] 43 (0, 0))) := (hb4.block _ hRl).trans HR.out; replace r0 := cell_later hb4 r0; replace r1 := cell_later hb4 r1; replace r2 := cell_later hb4 r2; replace r3 := cell_later hb4 r3; replace r4 := cell_later hb4 r4; replace rf : ∀ i, w4.frozen? ⟨w.heap.size, i, none⟩ = false := fun i => Lib.frozen_of_heap HR.out i; clear hb4 hb Hg) | fail)
                    obtain ⟨c0, c1, c2, c3, c4, c5, c6, c7⟩ := five_out hbE (Nat.le_refl _) HR.out (.int .i64 0) (.string ⟨#[]⟩) (.slice none 0 0) (.string ⟨#[]⟩) (.slice none 0 0)
                    clear r0 r1 r2 r3 r4 rf HR
                    unfold five at c0 c1 c2 c3 c4 c5 c6 c7
                    generalize (World.setCell (World.setCell (World.setCell (World.setCell (World.setCell w4 ⟨w.heap.size, 0, none⟩ (.int .i64 0)) ⟨w.heap.size, 1, none⟩ (.string ⟨#[]⟩)) ⟨w.heap.size, 2, none⟩ (.slice none 0 0)) ⟨w.heap.size, 3, none⟩ (.string ⟨#[]⟩)) ⟨w.heap.size, 4, none⟩ (.slice none 0 0)) = wF at c0 c1 c2 c3 c4 c5 c6 c7 ⊢
                    refine bodyPost_ret (results_ct rfl _ _ _ _ ⟨w.heap.size, 0, none⟩ rfl (load5 c0 c1 c2 c3 c4)) rfl ⟨⟨.slice none 0 0, .slice none 0 0, (by rw [HZ.out]; (try rw [hgo]); rfl), (by rw [HZ.out]; exact (StpOwn.nil _ 0).is)⟩, c5⟩
                  | true =>
                    have HZ : Hid (gT s = x) := by show _ = _; rw [HG.out, if_pos hgo]
                    have hcmp : ((putT x).toList == s.toList) = true := by rw [(hss.2 hgo).2]; exact beq_self_eq_true _
                    have hcmp2 : ((putT x).toList != s.toList) = false := by simp only [bne, hcmp]; rfl
                    clear hss hS
                    go_wp2_with (first | (go_at_call 16; refine Calls.mono hPut ?_; rintro r w4 ⟨rfl, hb4⟩; replace hbE : Below w.heap.size w w4 := hbE.trans (hb4.mono hbE.size); replace HR : Hid (w4.heap[w.heap.size]? = some (.cells #[.int .i64 0, .string ⟨#[]⟩, .slice none 0 0, .string ⟨#[]⟩, .slice none 0 0] 43 (0, 0))) := (hb4.block _ hRl).trans HR.out; have Hg4 : Hid (StrsF w4 (.slice ac lc cc) x.cs g ∧ RelsF w4 (.slice av lr cv) x.rs F) := ⟨Hg.out.1.below hb4, Hg.out.2.2.1.below hb4⟩; replace r0 := cell_later hb4 r0; replace r1 := cell_later hb4 r1; replace r2 := cell_later hb4 r2; replace r3 := cell_later hb4 r3; replace r4 := cell_later hb4 r4; replace u0 := cell_later hb4 u0; replace u1 := cell_later hb4 u1; replace u2 := cell_later hb4 u2; replace u3 := cell_later hb4 u3; replace u4 := cell_later hb4 u4; replace rf : ∀ i, w4.frozen? ⟨w.heap.size, i, none⟩ = false := fun i => Lib.frozen_of_heap HR.out i; clear hb4 hb uf) | fail)
                    obtain ⟨c0, c1, c2, c3, c4, c5, c6, c7⟩ := five_out hbE (Nat.le_refl _) HR.out (.int .i64 x.k) (.string x.s) (.slice ac lc cc) (.string x.q) (.slice av lr cv)
                    clear r0 r1 r2 r3 r4 rf HR
                    unfold five at c0 c1 c2 c3 c4 c5 c6 c7
                    generalize (World.setCell (World.setCell (World.setCell (World.setCell (World.setCell w4 ⟨w.heap.size, 0, none⟩ (.int .i64 x.k)) ⟨w.heap.size, 1, none⟩ (.string x.s)) ⟨w.heap.size, 2, none⟩ (.slice ac lc cc)) ⟨w.heap.size, 3, none⟩ (.string x.q)) ⟨w.heap.size, 4, none⟩ (.slice av lr cv)) = wF at c0 c1 c2 c3 c4 c5 c6 c7 ⊢
                    have hIsF : StpIs wF (.slice ac lc cc) (.slice av lr cv) x := ⟨⟨g, Hg4.out.1.keep (Nat.le_of_eq c7.symm) fun b hb => c6 b (Hg.out.2.1 b hb)⟩, (Hg4.out.2.keep (Nat.le_of_eq c7.symm) fun b hb => c6 b (Hg.out.2.2.2 b hb)).is⟩
                    refine bodyPost_ret (results_ct rfl _ _ _ _ ⟨w.heap.size, 0, none⟩ rfl (load5 c0 c1 c2 c3 c4)) rfl ⟨⟨.slice ac lc cc, .slice av lr cv, (by rw [HZ.out]; (try rw [hgo]); rfl), (by rw [HZ.out]; exact hIsF)⟩, c5⟩
end Go.Proofs.Ytmomffaceglibaa
/- Own text. The contract of markText: it answers a text that hangs on the number alone. -/
namespace Go.Proofs.Ytmomffaceglibaa
open Go.RowKit
set_option linter.unusedVariables false
/-- the digits of a number; none of 0. -/
def dg (u : Nat) : List Int := if h : u = 0 then [] else have : u / 10 < u := by omega
  dg (u / 10) ++ [((48 + u % 10 : Nat) : Int)]
theorem dg_step (u : Nat) (h : u ≠ 0) : dg u = dg (u / 10) ++ [((48 + u % 10 : Nat) : Int)] := by rw [dg, dif_neg h]
theorem dg_zero : dg 0 = [] := by rw [dg, dif_pos rfl]
theorem dg_len (u : Nat) : (dg u).length ≤ u := by
  induction u using Nat.strongRecOn with
  | _ u ih =>
    by_cases h : u = 0
    · subst h; rw [dg_zero]; simp
    · rw [dg_step u h, List.length_append]
      have := ih (u / 10) (by omega)
      simp only [List.length_cons, List.length_nil]
      omega
/-- the text of a mark. -/
def mt (u : Int) : ByteArray := ⟨#[109]⟩ ++ strOfNums (dg u.toNat)
theorem cat1 (x : Int) (l : List Int) : strOfNums [x] ++ strOfNums l = strOfNums (x :: l) := by
  apply ByteArray.ext
  rw [ByteArray.data_append]
  simp [strOfNums]
theorem Try.conv1 (w : World) (x : Int) (m : Nat × Nat) : (convert 77 9 (.slice (some ⟨w.heap.size, 0, none⟩) 1 1)).run Try.prog (w.alloc (.cells #[.int .u8 x] 5 m)) = .ok (.string (strOfNums [x])) (w.alloc (.cells #[.int .u8 x] 5 m)) := by
  refine run_convert_bytes_arg _ 77 5 Try.underlying77 Try.underlying5 w.heap.size 0 1 1 [x] rfl ?_ 9 Try.underlying9
  intro i hi
  obtain rfl : i = 0 := by omega
  have := heap_alloc_new w (.cells #[.int .u8 x] 5 m)
  show (w.alloc (.cells #[.int .u8 x] 5 m)).cell? ⟨w.heap.size, 0, none⟩ = some (.int .u8 x)
  simp only [World.cell?, this]
  rfl
set_option maxHeartbeats 1000000 in
set_option maxRecDepth 100000 in
theorem markText_any (u : Nat) (w : World) (h0 : u ≠ 0) (h1 : u ≤ 1000000000) :
    Calls Try.prog 74 #[.int .i64 u] w fun e w' => e = .returned (.string (mt u)) ∧ Below w.heap.size w w' := by
  have hneg : decide ((u : Int) ≤ 0) = false := by simp; omega
  have hU := dg_len u
  go_enter Try.func74, Try.ntmps74
  go_wp2
  go_loopw [0, 3] (fun m o wr => ∃ (v : Nat) (l : List Int), o = .string (strOfNums l) ∧ m = .int .i64 v ∧ v ≤ u ∧ dg v ++ l = dg u ∧ Below w.heap.size w wr) (fun m _ _ => (intOf m).toNat)
  case atStart => exact ⟨u, [], rfl, rfl, Nat.le_refl _, by simp, by go_grown⟩
  case round =>
    obtain ⟨v, l, rfl, rfl, hv, hl0, hb⟩ := hrel
    have hzb := hb.size
    have hll : (strOfNums l).size ≤ 1000000000 := by
      have := congrArg List.length hl0
      rw [List.length_append] at this
      simp [strOfNums, ByteArray.size]
      omega
    have hl : Hid (dg v ++ l = dg u) := hl0
    clear hl0
    by_cases hz : v = 0
    · subst hz
      have hfin : Hid ((⟨#[109]⟩ : ByteArray) ++ strOfNums l = mt u) := by show _ = _; rw [mt, Int.toNat_natCast, ← hl.out, dg_zero, List.nil_append]
      go_wp2
      go_returns
      exact ⟨by rw [← hfin.out]; rfl, hb⟩
    · have hvp : (0 : Int) < v := by omega
      have hst : Hid (dg (v / 10) ++ (((48 + v % 10 : Nat) : Int) :: l) = dg u) := by
        show _ = _
        rw [← hl.out, dg_step v hz, List.append_assoc]; rfl
      have hcv := Try.conv1 wr
      have hs1 : (strOfNums [48 + (v : Int) % 10]).size ≤ 1 := by simp [strOfNums, ByteArray.size]
      have hct : Hid (strOfNums [48 + (v : Int) % 10] ++ strOfNums l = strOfNums (((48 + v % 10 : Nat) : Int) :: l)) := cat1 _ l
      have hdv : Hid (v / 10 < v) := by show _ < _; omega
      go_wp2
      exact ⟨⟨v / 10, _, by rw [← hct.out], by go_num, by omega, hst.out, by repeat (first | (with_reducible exact Below.refl _ _) | (with_reducible refine Below.drew ?_) | (with_reducible refine Below.alloc ?_ ?hh _; case hh => first | (simp; done) | (simp; omega) | omega) | (with_reducible refine Below.setCell ?_ ?hh _; case hh => first | (simp; done) | (simp; omega) | omega) | refine bstep (by assumption) (by first | (simp; done) | (simp; omega) | omega) ?_)⟩, by have := hdv.out; simp [intOf]; omega⟩
end Go.Proofs.Ytmomffaceglibaa
/- Own text. Lists of texts: eqStringS at one list twice. -/
namespace Go.Proofs.Ytmomffaceglibaa
open Go.RowKit Go.Deep
set_option linter.unusedVariables false
set_option maxHeartbeats 1000000 in
set_option maxRecDepth 100000 in
theorem eqStringS_same (v u : Value) (ns : List ByteArray) (g g' : List Nat) (w : World) (hr : StrsF w v ns g) (hu : StrsF w u ns g') :
    Calls Try.prog 50 #[v, u] w fun e w' => e = .returned (.bool true) ∧ Below w.heap.size w w' := by
  obtain ⟨a, c, b, o, rfl, hl, hc, _, ha⟩ := hr.pick
  obtain ⟨a', c', b', o', rfl, hl', hc', _, ha'⟩ := hu.pick
  unfold maxLen at hc hc'
  clear hr hu
  go_enter Try.func50, Try.ntmps50
  go_wp2
  go_loopw [5] (fun i wr => ∃ n : Nat, n ≤ ns.length ∧ i = .int .i64 n ∧ Below w.heap.size w wr) (fun i _ => ns.length - (intOf i).toNat)
  case atStart => exact ⟨0, Nat.zero_le _, rfl, by go_grown⟩
  case round =>
    obtain ⟨n, hn, rfl, hb⟩ := hrel
    by_cases hlt : n < ns.length
    · obtain ⟨rfl, hblt, _, hC⟩ := ha n hlt
      obtain ⟨rfl, hblt', _, hC'⟩ := ha' n hlt
      have hzb := hb.size
      have c0 := (hb.cell (p := ⟨b, _, none⟩) hblt).trans (hC n ns[n] (by simp))
      have c1 := (hb.cell (p := ⟨b', _, none⟩) hblt').trans (hC' n ns[n] (by simp))
      generalize ns[n] = z at c0 c1
      clear ha ha' hC hC'
      have hbr : b < wr.heap.size := by omega
      have hbr' : b' < wr.heap.size := by omega
      go_wp2_with fail
      go_region_with fail
      all_goals go_wp2
      all_goals exact ⟨⟨n + 1, hlt, by simp, by repeat (first | (with_reducible exact Below.refl _ _) | (with_reducible refine Below.drew ?_) | (with_reducible refine Below.alloc ?_ ?hh _; case hh => first | (simp; done) | (simp; omega) | omega) | (with_reducible refine Below.setCell ?_ ?hh _; case hh => first | (simp; done) | (simp; omega) | omega) | refine bstep (by assumption) (by first | (simp; done) | (simp; omega) | omega) ?_)⟩, by simp [intOf]; omega⟩
    · go_wp2
      go_returns
      exact ⟨rfl, hb⟩
end Go.Proofs.Ytmomffaceglibaa
/- Own text. Lists of texts: markStringS, heldStringS. -/
namespace Go.Proofs.Ytmomffaceglibaa
open Go.RowKit Go.Deep
set_option linter.unusedVariables false
theorem far_set {w : World} {b q q' : Nat} {x : Value} (h : q ≠ q') : (w.setCell ⟨b, q', none⟩ x).cell? ⟨b, q, none⟩ = w.cell? ⟨b, q, none⟩ :=
  World.cell?_setCell_other _ _ _ _ (by intro e; have := congrArg Addr.off e; simp at this; omega)
/-- numbers that are marked from k on, the first n of them. -/
def mSi (k n : Nat) (ns : List ByteArray) : List ByteArray := ns.mapIdx fun i x => if i < n then mt ((k + i : Nat) : Int) else x
theorem mSi_len (k n : Nat) (ns : List ByteArray) : (mSi k n ns).length = ns.length := by simp [mSi]
theorem mSi_at {k n i : Nat} {ns : List ByteArray} {x : ByteArray} (h : ns[i]? = some x) : (mSi k n ns)[i]? = some (if i < n then mt ((k + i : Nat) : Int) else x) := by simp [mSi, h]
theorem mSi_zero (k : Nat) (ns : List ByteArray) : mSi k 0 ns = ns := by
  apply List.ext_getElem?
  intro i
  cases h : ns[i]? with
  | none => have := List.getElem?_eq_none_iff.1 h; rw [List.getElem?_eq_none (by rw [mSi_len]; exact this)]
  | some x => rw [mSi_at h, if_neg (by omega)]
def mS (k : Nat) (ns : List ByteArray) : List ByteArray := mSi k ns.length ns
set_option maxHeartbeats 1000000 in
set_option maxRecDepth 100000 in
theorem markStringS_any (k : Nat) (v : Value) (ns : List ByteArray) (g : List Nat) (w : World) (hr : StrsF w v ns g) (hf : Free w g) (h0 : 0 < k) (h1 : k + ns.length ≤ 999999900) :
    Calls Try.prog 57 #[v, .int .i64 k] w fun e w' => e = .returned (.int .i64 ((k + ns.length : Nat) : Int)) ∧ StrsF w' v (mS k ns) g ∧ Chg g w w' := by
  obtain ⟨a, c, b, o, rfl, hl, hc, hg0, ha⟩ := hr.pick
  have hcm := hc
  unfold maxLen at hc
  clear hr
  go_enter Try.func57, Try.ntmps57
  go_wp2
  go_loopw [1, 5] (fun kk i wr => ∃ n : Nat, n ≤ ns.length ∧ i = .int .i64 n ∧ kk = .int .i64 ((k + n : Nat) : Int) ∧ (∀ i x, (mSi k n ns)[i]? = some x → wr.cell? ⟨b, o + i, none⟩ = some (.string x)) ∧ Chg g w wr) (fun _ i _ => ns.length - (intOf i).toNat)
  case atStart =>
    refine ⟨0, Nat.zero_le _, rfl, rfl, fun i x hx => ?_, Chg.refl _ _⟩
    rw [mSi_zero] at hx
    exact (ha i (List.getElem?_eq_some_iff.1 hx).1).2.2.2 i x hx
  case round =>
    obtain ⟨n, hn, rfl, rfl, hH, hch⟩ := hrel
    by_cases hlt : n < ns.length
    · obtain ⟨rfl, hblt, rfl, _⟩ := ha n hlt
      have hzb := hch.size
      have hbr : b < wr.heap.size := by omega
      have hfr : ∀ i, wr.frozen? ⟨b, i, none⟩ = false := hch.free hf b (by simp)
      obtain ⟨x, hx⟩ : ∃ x, ns[n]? = some x := ⟨ns[n], by simp [hlt]⟩
      have c0 := hH n _ (mSi_at hx)
      rw [if_neg (by omega)] at c0
      have e0 : ((k + n : Nat) : Int) = (k : Int) + (n : Int) := by omega
      have hM := fun w => markText_any (k + n) w (by omega) (by omega)
      rw [e0] at hM
      have hnI : (k : Int) + (n : Int) ≤ 999999900 := by omega
      have hnP : (0 : Int) < (k : Int) + (n : Int) := by omega
      go_wp2_with fail
      refine Calls.mono (hM _) ?_
      rintro e wA ⟨rfl, hbA⟩
      rw [← e0]
      have hzA := hbA.size
      have cA := ((bcell hbA).1 b _ hbr).trans c0
      have fA : ∀ i, wA.frozen? ⟨b, i, none⟩ = false := fun i => ((bcell hbA).2 b i hbr).trans (hfr i)
      have hbrA : b < wA.heap.size := by omega
      have hnew : ∀ i y, (mSi k (n + 1) ns)[i]? = some y → (wA.setCell ⟨b, o + n, none⟩ (.string (mt ((k + n : Nat) : Int)))).cell? ⟨b, o + i, none⟩ = some (.string y) := by
        intro i y hy
        have hi : i < ns.length := by have := (List.getElem?_eq_some_iff.1 hy).1; rwa [mSi_len] at this
        obtain ⟨z, hz⟩ : ∃ z, ns[i]? = some z := ⟨ns[i], by simp [hi]⟩
        rw [mSi_at hz] at hy
        have hy := (Option.some.inj hy).symm
        by_cases ei : i = n
        · subst ei
          rw [if_pos (by omega)] at hy
          subst hy
          exact World.cell?_setCell_same _ _ _ cA
        · rw [far_set (by omega), (bcell hbA).1 b _ hbr, hH i _ (mSi_at hz), hy]
          by_cases hin : i < n
          · rw [if_pos hin, if_pos (by omega)]
          · rw [if_neg hin, if_neg (by omega)]
      have hch2 : Chg [b] w (wA.setCell ⟨b, o + n, none⟩ (.string (mt ((k + n : Nat) : Int)))) := (hch.trans (Chg.of_below hbA (fun y hy => by rcases List.mem_singleton.1 hy with rfl; exact hbr))).setCell (p := ⟨b, _, none⟩) (by simp) _
      generalize mt ((k + n : Nat) : Int) = tx at *
      clear ha hH hch hf hM hbA c0 hfr
      go_wp2
      exact ⟨⟨n + 1, hlt, by simp, by congr 1, hnew, hch2⟩, by simp [intOf]; omega⟩
    · go_wp2
      go_returns
      obtain rfl : n = ns.length := by omega
      refine ⟨rfl, ⟨a, c, by rw [mS, mSi_len], by rw [mS, mSi_len]; exact hl, hcm, fun e => hg0 (by have := congrArg List.length e; rw [mS, mSi_len] at this; exact List.length_eq_zero_iff.1 this), fun hne => ?_⟩, hch⟩
      have hp : 0 < ns.length := by have := List.length_pos_iff.2 hne; rwa [mS, mSi_len] at this
      obtain ⟨e, hlt, hF, _⟩ := ha 0 hp
      exact ⟨b, o, e, by have := hch.size; omega, hF, hH⟩
set_option maxHeartbeats 1000000 in
set_option maxRecDepth 100000 in
theorem heldStringS_any (k : Nat) (v : Value) (ns : List ByteArray) (g : List Nat) (w : World) (hr : StrsF w v (mS k ns) g) (h0 : 0 < k) (h1 : k + ns.length ≤ 999999900) :
    Calls Try.prog 59 #[v, .int .i64 k] w fun e w' => e = .returned (.int .i64 ((k + ns.length : Nat) : Int)) ∧ Below w.heap.size w w' := by
  obtain ⟨a, c, b, o, rfl, hl, hc, _, ha⟩ := hr.pick
  have hln : (mS k ns).length = ns.length := mSi_len _ _ _
  rw [hln] at hl ha
  rw [hln]
  unfold maxLen at hc
  clear hr hln
  go_enter Try.func59, Try.ntmps59
  go_wp2
  go_loopw [1, 5] (fun kk i wr => ∃ n : Nat, n ≤ ns.length ∧ i = .int .i64 n ∧ kk = .int .i64 ((k + n : Nat) : Int) ∧ Below w.heap.size w wr) (fun _ i _ => ns.length - (intOf i).toNat)
  case atStart => exact ⟨0, Nat.zero_le _, rfl, rfl, by go_grown⟩
  case round =>
    obtain ⟨n, hn, rfl, rfl, hb⟩ := hrel
    by_cases hlt : n < ns.length
    · obtain ⟨rfl, hblt, _, hC⟩ := ha n hlt
      have hzb := hb.size
      obtain ⟨x, hx⟩ : ∃ x, ns[n]? = some x := ⟨ns[n], by simp [hlt]⟩
      have c0 := (hb.cell (p := ⟨b, _, none⟩) hblt).trans (hC n _ (mSi_at hx))
      rw [if_pos hlt] at c0
      have e0 : ((k + n : Nat) : Int) = (k : Int) + (n : Int) := by omega
      have hbr : b < wr.heap.size := by omega
      clear ha hC
      have hM := fun w => markText_any (k + n) w (by omega) (by omega)
      rw [e0] at hM c0
      have hnI : (k : Int) + (n : Int) ≤ 999999900 := by omega
      have hnP : (0 : Int) < (k : Int) + (n : Int) := by omega
      generalize mt ((k : Int) + (n : Int)) = tx at *
      go_wp2_with fail
      go_region_held3 (fun w' => w'.cell? ⟨b, o + n, none⟩ = some (.string tx)) (first | (go_simp; done) | (exact cell_later (by assumption) (by go_simp))) (first | (go_at_call 74; refine Calls.mono (hM _) ?_; rintro e wA ⟨rfl, hbA⟩; have hzA := hbA.size; have belA : Below wr.heap.size wr wA := (by repeat (first | (with_reducible exact Below.refl _ _) | (with_reducible refine Below.drew ?_) | (with_reducible refine Below.alloc ?_ ?hh _; case hh => first | (simp; done) | (simp; omega) | omega) | (with_reducible refine Below.setCell ?_ ?hh _; case hh => first | (simp; done) | (simp; omega) | omega) | refine bstep (by assumption) (by first | (simp; done) | (simp; omega) | omega) ?_))))
      have bel3 : Below w.heap.size w wA := hb.trans (belA.mono hzb)
      clear c0 hM hbA
      go_wp2_with fail
      exact ⟨⟨n + 1, hlt, by simp, by congr 1, bel3⟩, by simp [intOf]; omega⟩
    · go_wp2
      go_returns
      obtain rfl : n = ns.length := by omega
      exact ⟨rfl, hb⟩
end Go.Proofs.Ytmomffaceglibaa
/- Own text. Rows and counted rows in memory, cell by cell, with their blocks. -/
namespace Go.Proofs.Ytmomffaceglibaa
open Go.RowKit Go.Deep
set_option linter.unusedVariables false
theorem RowF.cells {w : World} {v : Value} {vs : List V3} {g : List Nat} (h : RowF w v vs g) :
    ∃ a c b o, v = .slice a vs.length c ∧ vs.length ≤ c ∧ c ≤ maxLen ∧ (a = none → c = 0) ∧ CellsAre w b o (vs.length * 3) (cf vs) ∧ (vs = [] → g = []) ∧ ∀ n, n < vs.length → a = some ⟨b, o, none⟩ ∧ b < w.heap.size ∧ g = [b] := by
  obtain ⟨a, c, rfl, hl, hc, hz, h0, h⟩ := h
  by_cases hne : vs = []
  · exact ⟨a, c, 0, 0, rfl, hl, hc, hz, by subst hne; intro j hj; simp at hj, h0, fun k hk => by rw [hne] at hk; simp at hk⟩
  · obtain ⟨b, o, rfl, hlt, hg, hL⟩ := h hne
    exact ⟨_, c, b, o, rfl, hl, hc, hz, lies_cells.1 hL, h0, fun _ _ => ⟨rfl, hlt, hg⟩⟩
theorem RowIs.shape' {w : World} {v : Value} {vs : List V3} (h : RowIs w v vs) : ∃ a c, v = .slice a vs.length c ∧ vs.length ≤ c ∧ c ≤ maxLen := by
  obtain ⟨a, c, h, h1, h2, _⟩ := h
  exact ⟨a, c, h, h1, h2⟩
theorem RowF.mk {w w' : World} {v : Value} {vs us : List V3} {g : List Nat} {a : Option Addr} {c b o : Nat} (hs : w.heap.size ≤ w'.heap.size) (hl : us.length = vs.length) (hv : v = .slice a vs.length c) (hlc : vs.length ≤ c) (hc : c ≤ maxLen) (hz : a = none → c = 0) (h0 : vs = [] → g = []) (ha : ∀ n, n < vs.length → a = some ⟨b, o, none⟩ ∧ b < w.heap.size ∧ g = [b])
    (hC : CellsAre w' b o (us.length * 3) (cf us)) : RowF w' v us g := by
  refine ⟨a, c, by rw [hl]; exact hv, by omega, hc, hz, fun e => h0 (by have := congrArg List.length e; rw [hl] at this; exact List.length_eq_zero_iff.1 this), fun hne => ?_⟩
  have hp : 0 < vs.length := by rw [← hl]; exact List.length_pos_iff.2 hne
  obtain ⟨e, hlt, hg⟩ := ha 0 hp
  exact ⟨b, o, e, by omega, hg, lies_cells.2 hC⟩
def CLF (w : World) (b o : Nat) (cs : List C2) (G : List (List Nat)) : Prop :=
  ∀ i x g, cs[i]? = some x → G[i]? = some g → ∃ u, w.cell? ⟨b, o + i * 2, none⟩ = some u ∧ RowF w u x.r g ∧ w.cell? ⟨b, o + i * 2 + 1, none⟩ = some (.int .i64 x.n)
theorem disj_of {b : Nat} {G : List (List Nat)} (h : (b :: G.flatten).Nodup) {i j : Nat} {g g' : List Nat} (hi : G[i]? = some g) (hj : G[j]? = some g') (hne : i ≠ j) : ∀ y ∈ g, y ∉ g' := by
  have h2 := (List.nodup_cons.1 h).2
  rw [List.Nodup, List.pairwise_flatten] at h2
  have h3 := List.pairwise_iff_getElem.1 h2.2
  obtain ⟨hi', rfl⟩ := List.getElem?_eq_some_iff.1 hi
  obtain ⟨hj', rfl⟩ := List.getElem?_eq_some_iff.1 hj
  intro y hy hy'
  rcases Nat.lt_or_gt_of_ne hne with hlt | hlt
  · exact h3 i j hi' hj' hlt y hy y hy' rfl
  · exact h3 j i hj' hi' hlt y hy' y hy rfl
theorem head_out {b : Nat} {G : List (List Nat)} (h : (b :: G.flatten).Nodup) {i : Nat} {g : List Nat} (hi : G[i]? = some g) : b ∉ g := fun hb =>
  (List.nodup_cons.1 h).1 (List.mem_flatten.2 ⟨g, List.mem_of_getElem? hi, hb⟩)
theorem RowsF.pick {w : World} {v : Value} {cs : List C2} {F : List Nat} (h : RowsF w v cs F) :
    ∃ a c b o G, v = .slice a cs.length c ∧ cs.length ≤ c ∧ c ≤ maxLen ∧ (a = none → c = 0) ∧ G.length = cs.length ∧ (cs = [] → F = []) ∧ CLF w b o cs G ∧ ∀ n, n < cs.length → a = some ⟨b, o, none⟩ ∧ b < w.heap.size ∧ F = b :: G.flatten := by
  obtain ⟨a, c, G, rfl, hl, hc, hz, hG, h0, h⟩ := h
  by_cases hne : cs = []
  · exact ⟨a, c, 0, 0, G, rfl, hl, hc, hz, hG, h0, fun i x g hx => by rw [hne] at hx; simp at hx, fun k hk => by rw [hne] at hk; simp at hk⟩
  · obtain ⟨b, o, rfl, hlt, hF, hL⟩ := h hne
    exact ⟨_, c, b, o, G, rfl, hl, hc, hz, hG, h0, hL, fun _ _ => ⟨rfl, hlt, hF⟩⟩
end Go.Proofs.Ytmomffaceglibaa
/- Own text. The contracts of markValueS and heldValueS: a row that is written over with marks, and that has them still. -/
namespace Go.Proofs.Ytmomffaceglibaa
open Go.RowKit Go.Deep
set_option linter.unusedVariables false
/-- the values of a row that is marked from k on. -/
def mV (k : Nat) (vs : List V3) : List V3 := vs.mapIdx fun j _ => ⟨((k + 3 * j : Nat) : Int), ((k + 3 * j + 1 : Nat) : Int), mt ((k + 3 * j + 2 : Nat) : Int)⟩
theorem mV_len (k : Nat) (vs : List V3) : (mV k vs).length = vs.length := by simp [mV]
theorem mV_at {k i : Nat} {vs : List V3} (hi : i < vs.length) : (mV k vs)[i]? = some ⟨((k + 3 * i : Nat) : Int), ((k + 3 * i + 1 : Nat) : Int), mt ((k + 3 * i + 2 : Nat) : Int)⟩ := by
  simp [mV, hi]
/-- a row whose first i values are marked. -/
def half (k i : Nat) (vs : List V3) (j : Nat) : Value := if j < i * 3 then cf (mV k vs) j else cf vs j
theorem half_step {w w2 : World} {b o k i : Nat} {vs : List V3} (hi : i < vs.length) (h : CellsAre w b o (vs.length * 3) (half k i vs))
    (h2 : w2.heap[b]? = ((w.setCell ⟨b, o + i * 3, none⟩ (.int .i64 ((k + 3 * i : Nat) : Int))).setCell ⟨b, o + i * 3 + 1, none⟩ (.int .i64 ((k + 3 * i + 1 : Nat) : Int))).heap[b]?) :
    CellsAre (w2.setCell ⟨b, o + i * 3 + 2, none⟩ (.string (mt ((k + 3 * i + 2 : Nat) : Int)))) b o (vs.length * 3) (half k (i + 1) vs) := by
  have h1 := (h.put (j0 := i * 3) (by omega) rfl (.int .i64 ((k + 3 * i : Nat) : Int))).put (j0 := i * 3 + 1) (q := o + i * 3 + 1) (by omega) (by omega) (.int .i64 ((k + 3 * i + 1 : Nat) : Int))
  refine ((h1.keep h2).put (j0 := i * 3 + 2) (q := o + i * 3 + 2) (by omega) (by omega) _).congr fun j hj => ?_
  obtain ⟨e0, e1, e2⟩ := cf_at (mV_at (k := k) hi)
  unfold half
  by_cases a2 : j = i * 3 + 2
  · subst a2; rw [if_pos rfl, if_pos (by omega), e2]
  by_cases a1 : j = i * 3 + 1
  · subst a1; rw [if_neg a2, if_pos rfl, if_pos (by omega), e1]
  by_cases a0 : j = i * 3
  · subst a0; rw [if_neg a2, if_neg a1, if_pos rfl, if_pos (by omega), e0]
  rw [if_neg a2, if_neg a1, if_neg a0]
  by_cases hlt : j < i * 3
  · rw [if_pos hlt, if_pos (by omega)]
  · rw [if_neg hlt, if_neg (by omega)]
set_option maxHeartbeats 2000000 in
set_option maxRecDepth 100000 in
theorem markValueS_any (k : Nat) (v : Value) (vs : List V3) (g : List Nat) (w : World) (hr : RowF w v vs g) (hf : Free w g) (h0 : 0 < k) (h1 : k + 3 * vs.length ≤ 999999990) :
    Calls Try.prog 34 #[v, .int .i64 k] w fun e w' => e = .returned (.int .i64 ((k + 3 * vs.length : Nat) : Int)) ∧ RowF w' v (mV k vs) g ∧ Chg g w w' := by
  obtain ⟨a, c, b, o, rfl, hl, hc, hz, hC, hg0, ha⟩ := hr.cells
  have hlt0 := hr.lt
  have hcm := hc
  unfold maxLen at hc
  clear hr
  go_enter Try.func34, Try.ntmps34
  go_wp2
  go_loopw [1, 5] (fun kk i wr => ∃ n : Nat, n ≤ vs.length ∧ i = .int .i64 n ∧ kk = .int .i64 ((k + 3 * n : Nat) : Int) ∧ CellsAre wr b o (vs.length * 3) (half k n vs) ∧ Chg g w wr) (fun _ i _ => vs.length - (intOf i).toNat)
  case atStart => exact ⟨0, Nat.zero_le _, rfl, rfl, hC.congr (fun j hj => by unfold half; rw [if_neg (by omega)]), Chg.refl _ _⟩
  case round =>
    obtain ⟨n, hn, rfl, rfl, hH, hch⟩ := hrel
    by_cases hlt : n < vs.length
    · obtain ⟨rfl, hblt, rfl⟩ := ha n hlt
      have hzb := hch.size
      have hbr : b < wr.heap.size := by omega
      have hfr : ∀ i, wr.frozen? ⟨b, i, none⟩ = false := hch.free hf b (by simp)
      have c0 : wr.cell? ⟨b, o + n * 3, none⟩ = some (half k n vs (n * 3)) := hH _ (by omega)
      have c1 : wr.cell? ⟨b, o + n * 3 + 1, none⟩ = some (half k n vs (n * 3 + 1)) := hH (n * 3 + 1) (by omega)
      have c2 : wr.cell? ⟨b, o + n * 3 + 2, none⟩ = some (half k n vs (n * 3 + 2)) := hH (n * 3 + 2) (by omega)
      generalize half k n vs (n * 3) = y0 at c0
      generalize half k n vs (n * 3 + 1) = y1 at c1
      generalize half k n vs (n * 3 + 2) = y2 at c2
      clear ha hC
      have e0 : ((k + 3 * n : Nat) : Int) = (k : Int) + 3 * (n : Int) := by omega
      have e1 : ((k + 3 * n + 1 : Nat) : Int) = (k : Int) + 3 * (n : Int) + 1 := by omega
      have e2 : ((k + 3 * n + 2 : Nat) : Int) = (k : Int) + 3 * (n : Int) + 1 + 1 := by omega
      have hM := fun w => markText_any (k + 3 * n + 2) w (by omega) (by omega)
      have hS := fun w2 => half_step (w2 := w2) hlt hH
      rw [e2] at hM
      simp only [e0, e1, e2] at hS
      clear e0 e1 e2 hH
      go_wp2_with fail
      refine Calls.mono (hM _) ?_
      rintro x w2 ⟨rfl, hb2⟩
      have hz2 := hb2.size
      simp only [World.size_setCell] at hz2
      have hS2 := hS w2 (hb2.block b (by simpa using hbr))
      have q2 : w2.cell? ⟨b, o + n * 3 + 2, none⟩ = some y2 := cell_later hb2 (by go_simp)
      have hfr2 : ∀ i, w2.frozen? ⟨b, i, none⟩ = false := fun i => ((bcell hb2).2 b i (by simpa using hbr)).trans (by simpa using hfr i)
      have hch2 : Chg [b] w w2 := ((hch.setCell (p := ⟨b, _, none⟩) (by simp) _).setCell (p := ⟨b, _, none⟩) (by simp) _).trans (Chg.of_below hb2 (by simpa using hbr))
      clear hS hM hb2 hch hf hfr c0 c1 c2
      go_wp2
      exact ⟨⟨n + 1, hlt, by simp, by congr 1, hS2, hch2.setCell (p := ⟨b, _, none⟩) (by simp) _⟩, by simp [intOf]; omega⟩
    · go_wp2
      go_returns
      obtain rfl : n = vs.length := by omega
      refine ⟨rfl, RowF.mk hch.size (mV_len k vs) rfl hl hcm hz hg0 ha ?_, hch⟩
      rw [mV_len]
      exact hH.congr fun j hj => by unfold half; rw [if_pos hj]
set_option maxHeartbeats 2000000 in
set_option maxRecDepth 100000 in
theorem heldValueS_any (k : Nat) (v : Value) (vs : List V3) (w : World) (hr : RowIs w v (mV k vs)) (h0 : 0 < k) (h1 : k + 3 * vs.length ≤ 999999990) :
    Calls Try.prog 75 #[v, .int .i64 k] w fun e w' => e = .returned (.int .i64 ((k + 3 * vs.length : Nat) : Int)) ∧ Below w.heap.size w w' := by
  obtain ⟨a, c, b, o, rfl, hl, hc, ha⟩ := hr.pick
  rw [mV_len] at hl ha
  rw [mV_len]
  unfold maxLen at hc
  clear hr
  go_enter Try.func75, Try.ntmps75
  go_wp2
  go_loopw [1, 5] (fun kk i wr => ∃ n : Nat, n ≤ vs.length ∧ i = .int .i64 n ∧ kk = .int .i64 ((k + 3 * n : Nat) : Int) ∧ Below w.heap.size w wr) (fun _ i _ => vs.length - (intOf i).toNat)
  case atStart => exact ⟨0, Nat.zero_le _, rfl, rfl, by go_grown⟩
  case round =>
    obtain ⟨n, hn, rfl, rfl, hb⟩ := hrel
    by_cases hlt : n < vs.length
    · obtain ⟨rfl, hblt, hL⟩ := ha n hlt
      have hzb := hb.size
      have hbr : b < wr.heap.size := by omega
      obtain ⟨c0, c1, c2⟩ := hL.below hb hblt n _ (mV_at hlt)
      have e0 : ((k + 3 * n : Nat) : Int) = (k : Int) + 3 * (n : Int) := by omega
      have e1 : ((k + 3 * n + 1 : Nat) : Int) = (k : Int) + 3 * (n : Int) + 1 := by omega
      have e2 : ((k + 3 * n + 2 : Nat) : Int) = (k : Int) + 3 * (n : Int) + 1 + 1 := by omega
      have hM := fun w => markText_any (k + 3 * n + 2) w (by omega) (by omega)
      rw [e2] at hM c2
      rw [e0] at c0
      rw [e1] at c1
      clear e0 e1 e2 ha hL
      go_wp2_with fail
      go_region_with (first | (go_at_call 74; refine (hM _).mono ?_; rintro x w2 ⟨rfl, hb2⟩; have hz2 := hb2.size; (try simp at hz2); have q2 : w2.cell? ⟨b, o + n * 3 + 2, none⟩ = some (.string (mt ((k : Int) + 3 * (n : Int) + 1 + 1))) := cell_later hb2 (by go_simp)))
      all_goals go_wp2
      all_goals exact ⟨⟨n + 1, hlt, by simp, by congr 1, by repeat (first | (with_reducible exact Below.refl _ _) | (with_reducible refine Below.drew ?_) | (with_reducible refine Below.alloc ?_ ?hh _; case hh => first | (simp; done) | (simp; omega) | omega) | (with_reducible refine Below.setCell ?_ ?hh _; case hh => first | (simp; done) | (simp; omega) | omega) | refine bstep (by assumption) (by first | (simp; done) | (simp; omega) | omega) ?_)⟩, by simp [intOf]; omega⟩
    · go_wp2
      go_returns
      obtain rfl : n = vs.length := by omega
      exact ⟨rfl, hb⟩
end Go.Proofs.Ytmomffaceglibaa
/- Own text. The contracts of markBag and heldBag: a bag that is written over with marks, and that has them still. -/
namespace Go.Proofs.Ytmomffaceglibaa
open Go.RowKit Go.Deep
set_option linter.unusedVariables false
/-- the mark that row i of counted rows begins with. -/
def offC (k : Nat) (cs : List C2) (i : Nat) : Nat := k + ((cs.take i).map fun x => 3 * x.r.length + 1).sum
theorem offC_zero (k : Nat) (cs : List C2) : offC k cs 0 = k := by simp [offC]
theorem offC_succ {k i : Nat} {cs : List C2} {x : C2} (h : cs[i]? = some x) : offC k cs (i + 1) = offC k cs i + (3 * x.r.length + 1) := by
  obtain ⟨hk, rfl⟩ := List.getElem?_eq_some_iff.1 h
  unfold offC
  rw [List.take_succ_eq_append_getElem hk, List.map_append, List.sum_append]
  simp only [List.map_cons, List.map_nil, List.sum_cons, List.sum_nil]
  omega
theorem sum_le (l : List C2) : (l.map fun x => 3 * x.r.length + 1).sum ≤ 3 * wtb l := by
  unfold wtb wtcs
  induction l with
  | nil => simp
  | cons x xs ih =>
    simp only [List.map_cons, List.sum_cons, List.length_cons] at ih ⊢
    unfold wt at ih ⊢
    omega
theorem offC_le (k : Nat) (cs : List C2) : ∀ i, offC k cs i ≤ k + 3 * wtb cs := by
  intro i
  have h1 := sum_le cs
  have h2 : ((cs.take i).map fun x => 3 * x.r.length + 1).sum ≤ (cs.map fun x => 3 * x.r.length + 1).sum := by
    conv => rhs; rw [← List.take_append_drop i cs]
    rw [List.map_append, List.sum_append]
    omega
  unfold offC
  omega
/-- counted rows of which the first n are marked. -/
def mCi (k n : Nat) (cs : List C2) : List C2 := cs.mapIdx fun i x => if i < n then ⟨mV (offC k cs i) x.r, ((offC k cs i + 3 * x.r.length : Nat) : Int)⟩ else x
theorem mCi_len (k n : Nat) (cs : List C2) : (mCi k n cs).length = cs.length := by simp [mCi]
theorem mCi_at {k n i : Nat} {cs : List C2} {x : C2} (h : cs[i]? = some x) : (mCi k n cs)[i]? = some (if i < n then ⟨mV (offC k cs i) x.r, ((offC k cs i + 3 * x.r.length : Nat) : Int)⟩ else x) := by
  simp [mCi, h]
theorem mCi_zero (k : Nat) (cs : List C2) : mCi k 0 cs = cs := by
  apply List.ext_getElem?
  intro i
  cases h : cs[i]? with
  | none => have := List.getElem?_eq_none_iff.1 h; rw [List.getElem?_eq_none (by rw [mCi_len]; exact this)]
  | some x => rw [mCi_at h, if_neg (by omega)]
theorem CLF.step {w w2 : World} {b o k n : Nat} {cs : List C2} {G : List (List Nat)} {x : C2} {g : List Nat} {u : Value} (h : CLF w b o (mCi k n cs) G) (hG : G.length = cs.length) (hnd : (b :: G.flatten).Nodup) (hb : b < w.heap.size) (hx : cs[n]? = some x) (hg : G[n]? = some g)
    (hu : w.cell? ⟨b, o + n * 2, none⟩ = some u) (hR : RowF w2 u (mV (offC k cs n) x.r) g) (hc : Chg g w w2) :
    CLF (w2.setCell ⟨b, o + n * 2 + 1, none⟩ (.int .i64 ((offC k cs n + 3 * x.r.length : Nat) : Int))) b o (mCi k (n + 1) cs) G := by
  have hbb : w2.heap[b]? = w.heap[b]? := hc.block b hb (head_out hnd hg)
  intro i y g' hy hg'
  have hi : i < cs.length := by have := (List.getElem?_eq_some_iff.1 hy).1; rwa [mCi_len] at this
  obtain ⟨z, hz⟩ : ∃ z, cs[i]? = some z := ⟨cs[i], by simp [hi]⟩
  rw [mCi_at hz] at hy
  have hy := (Option.some.inj hy).symm
  obtain ⟨u', a0, a1, a2⟩ := h i _ g' (mCi_at hz) hg'
  have hgb : b ∉ g' := head_out hnd hg'
  by_cases e : i = n
  · subst e
    obtain rfl : z = x := by rw [hx] at hz; exact (Option.some.inj hz).symm
    obtain rfl : g' = g := by rw [hg] at hg'; exact (Option.some.inj hg').symm
    obtain rfl : u' = u := by rw [hu] at a0; exact (Option.some.inj a0).symm
    rw [if_pos (by omega)] at hy
    subst hy
    refine ⟨u', ?_, hR.keep (by simp) (fun c hc => Below.heap_setCell _ _ _ _ (by rintro rfl; exact hgb hc)), ?_⟩
    · rw [World.cell?_setCell_other _ _ _ _ (by intro q; have := congrArg Addr.off q; simp at this)]
      exact (cell_blk hbb).trans hu
    · exact World.cell?_setCell_same _ _ _ ((cell_blk hbb).trans a2)
  · have ey : y = if i < n then ⟨mV (offC k cs i) z.r, ((offC k cs i + 3 * z.r.length : Nat) : Int)⟩ else z := by
      rw [hy]
      by_cases hin : i < n
      · rw [if_pos hin, if_pos (by omega)]
      · rw [if_neg hin, if_neg (by omega)]
    rw [← ey] at a1 a2
    have hd := disj_of hnd hg' hg e
    have k1 : RowF w2 u' y.r g' := a1.keep hc.size fun c hcg => hc.block c (a1.lt c hcg) (hd c hcg)
    refine ⟨u', ?_, k1.keep (by simp) (fun c hc => Below.heap_setCell _ _ _ _ (by rintro rfl; exact hgb hc)), ?_⟩
    · rw [World.cell?_setCell_other _ _ _ _ (by intro q; have := congrArg Addr.off q; simp at this; omega)]
      exact (cell_blk hbb).trans a0
    · rw [World.cell?_setCell_other _ _ _ _ (by intro q; have := congrArg Addr.off q; simp at this; omega)]
      exact (cell_blk hbb).trans a2
/-- counted rows that are marked from k on. -/
def mC (k : Nat) (cs : List C2) : List C2 := mCi k cs.length cs
set_option maxHeartbeats 2000000 in
set_option maxRecDepth 100000 in
theorem markCountedS_any (k : Nat) (v : Value) (cs : List C2) (F : List Nat) (w : World) (hr : RowsF w v cs F) (hnd : F.Nodup) (hf : Free w F) (h0 : 0 < k) (h1 : k + 3 * wtb cs ≤ 999999900) :
    Calls Try.prog 35 #[v, .int .i64 k] w fun e w' => e = .returned (.int .i64 ((offC k cs cs.length : Nat) : Int)) ∧ RowsF w' v (mC k cs) F ∧ Chg F w w' := by
  obtain ⟨a, c, b, o, G, rfl, hl, hc, hzz, hG, hF0, hC, ha⟩ := hr.pick
  have hlt0 := hr.lt
  have hcm := hc
  unfold maxLen at hc
  clear hr
  have hoff := offC_le k cs
  go_enter Try.func35, Try.ntmps35
  go_wp2
  go_loopw [1, 5] (fun kk i wr => ∃ n : Nat, n ≤ cs.length ∧ i = .int .i64 n ∧ kk = .int .i64 ((offC k cs n : Nat) : Int) ∧ CLF wr b o (mCi k n cs) G ∧ Chg F w wr) (fun _ i _ => cs.length - (intOf i).toNat)
  case atStart => exact ⟨0, Nat.zero_le _, rfl, by rw [offC_zero], by rw [mCi_zero]; exact hC, Chg.refl _ _⟩
  case round =>
    obtain ⟨n, hn, rfl, rfl, hH, hch⟩ := hrel
    by_cases hlt : n < cs.length
    · obtain ⟨rfl, hblt, rfl⟩ := ha n hlt
      have hzb := hch.size
      have hbr : b < wr.heap.size := by omega
      have hlt' : n < G.length := by omega
      obtain ⟨x, hx⟩ : ∃ x, cs[n]? = some x := ⟨cs[n], by simp [hlt]⟩
      obtain ⟨g, hg⟩ : ∃ g, G[n]? = some g := ⟨G[n], by simp [hlt']⟩
      obtain ⟨u, c0, hR, c1⟩ := hH n _ g (mCi_at hx) hg
      rw [if_neg (by omega)] at hR c1
      have hgF : ∀ y ∈ g, y ∈ b :: G.flatten := fun y hy => List.mem_cons_of_mem _ (List.mem_flatten.2 ⟨g, List.mem_of_getElem? hg, hy⟩)
      have hfr := hch.free hf
      have hfr0 : ∀ i, wr.frozen? ⟨b, i, none⟩ = false := hfr b (by simp)
      have hgf : Free wr g := fun y hy => hfr y (hgF y hy)
      have hs := offC_succ (k := k) hx
      have ho1 := hoff n
      have ho2 := hoff (n + 1)
      have HS : Hid (offC k cs (n + 1) = offC k cs n + (3 * x.r.length + 1)) := hs
      have hko : 0 < offC k cs n := by unfold offC; omega
      have hb1 : offC k cs n + 3 * x.r.length ≤ 999999990 := by omega
      have hkn := fun w2 => CLF.step (w2 := w2) hH hG hnd hbr hx hg c0
      generalize offC k cs n = t at *
      obtain ⟨au, cu, rfl, _, _⟩ := hR.is.shape'
      clear hs hoff ha hC hf
      go_wp2_with fail
      refine Calls.mono (markValueS_any t _ x.r g wr hR hgf hko hb1) ?_
      rintro e w2 ⟨rfl, hR2, hc2⟩
      have hz2 := hc2.size
      have hbb : w2.heap[b]? = wr.heap[b]? := hc2.block b hbr (head_out hnd hg)
      have q1 : w2.cell? ⟨b, o + n * 2 + 1, none⟩ = some (.int .i64 x.n) := (cell_blk hbb).trans c1
      have hfr2 : ∀ i, w2.frozen? ⟨b, i, none⟩ = false := fun i => (frozen_blk hbb).trans (hfr0 i)
      have hS2 := hkn w2 hR2 hc2
      have hch2 : Chg (b :: G.flatten) w w2 := hch.trans (hc2.wide hgF fun y hy _ => by have := hlt0 y hy; omega)
      clear hkn hc2 hR2 hch hfr hfr0 hgf c0 c1 hR hbb hH
      have e1 : ((t + 3 * x.r.length : Nat) : Int) = (t : Int) + 3 * (x.r.length : Int) := by omega
      rw [e1] at hS2
      clear e1
      go_wp2
      exact ⟨⟨n + 1, hlt, by simp, by rw [HS.out]; congr 1, hS2, hch2.setCell (p := ⟨b, _, none⟩) (by simp) _⟩, by simp [intOf]; omega⟩
    · go_wp2
      go_returns
      obtain rfl : n = cs.length := by omega
      refine ⟨rfl, ⟨a, c, G, by rw [mC, mCi_len], by rw [mC, mCi_len]; exact hl, hcm, hzz, by rw [mC, mCi_len]; exact hG, fun e => hF0 (by have := congrArg List.length e; rw [mC, mCi_len] at this; exact List.length_eq_zero_iff.1 this), fun hne => ?_⟩, hch⟩
      have hp : 0 < cs.length := by have := List.length_pos_iff.2 hne; rwa [mC, mCi_len] at this
      obtain ⟨e, hlt, hF⟩ := ha 0 hp
      exact ⟨b, o, e, by have := hch.size; omega, hF, hH⟩
set_option maxHeartbeats 2000000 in
set_option maxRecDepth 100000 in
theorem heldCountedS_any (k : Nat) (v : Value) (cs : List C2) (w : World) (hr : RowsIs w v (mC k cs)) (h0 : 0 < k) (h1 : k + 3 * wtb cs ≤ 999999900) :
    Calls Try.prog 36 #[v, .int .i64 k] w fun e w' => e = .returned (.int .i64 ((offC k cs cs.length : Nat) : Int)) ∧ Below w.heap.size w w' := by
  obtain ⟨a, c, b, o, rfl, hl, hc, ha⟩ := hr.pick
  have hln : (mC k cs).length = cs.length := mCi_len _ _ _
  rw [hln] at hl ha
  rw [hln]
  unfold maxLen at hc
  clear hr hln
  have hoff := offC_le k cs
  go_enter Try.func36, Try.ntmps36
  go_wp2
  go_loopw [1, 5] (fun kk i wr => ∃ n : Nat, n ≤ cs.length ∧ i = .int .i64 n ∧ kk = .int .i64 ((offC k cs n : Nat) : Int) ∧ Below w.heap.size w wr) (fun _ i _ => cs.length - (intOf i).toNat)
  case atStart => exact ⟨0, Nat.zero_le _, rfl, by rw [offC_zero], by go_grown⟩
  case round =>
    obtain ⟨n, hn, rfl, rfl, hb⟩ := hrel
    by_cases hlt : n < cs.length
    · obtain ⟨rfl, hblt, hL⟩ := ha n hlt
      have hzb := hb.size
      have hbr : b < wr.heap.size := by omega
      obtain ⟨x, hx⟩ : ∃ x, cs[n]? = some x := ⟨cs[n], by simp [hlt]⟩
      obtain ⟨u, c0, hR, c1⟩ := hL.below hb hblt n _ (mCi_at hx)
      rw [if_pos hlt] at hR c1
      have hs := offC_succ (k := k) hx
      have ho1 := hoff n
      have ho2 := hoff (n + 1)
      have HS : Hid (offC k cs (n + 1) = offC k cs n + (3 * x.r.length + 1)) := hs
      have hko : 0 < offC k cs n := by unfold offC; omega
      have hb1 : offC k cs n + 3 * x.r.length ≤ 999999990 := by omega
      generalize offC k cs n = t at *
      have e1 : ((t + 3 * x.r.length : Nat) : Int) = (t : Int) + 3 * (x.r.length : Int) := by omega
      obtain ⟨au, lu, cu, rfl⟩ := hR.shape
      clear hs hoff ha hL hx
      go_wp2_with fail
      refine Calls.mono (heldValueS_any t _ x.r wr hR hko hb1) ?_
      rintro e w2 ⟨rfl, hb2⟩
      have hz2 := hb2.size
      have q1 : w2.cell? ⟨b, o + n * 2 + 1, none⟩ = some (.int .i64 ((t + 3 * x.r.length : Nat) : Int)) := (hb2.cell (p := ⟨b, _, none⟩) hbr).trans c1
      rw [e1] at q1
      clear e1 c0 c1
      go_wp2
      exact ⟨⟨n + 1, hlt, by simp, by rw [HS.out]; congr 1, by repeat (first | (with_reducible exact Below.refl _ _) | (with_reducible refine Below.drew ?_) | (with_reducible refine Below.alloc ?_ ?hh _; case hh => first | (simp; done) | (simp; omega) | omega) | (with_reducible refine Below.setCell ?_ ?hh _; case hh => first | (simp; done) | (simp; omega) | omega) | refine bstep (by assumption) (by first | (simp; done) | (simp; omega) | omega) ?_)⟩, by simp [intOf]; omega⟩
    · go_wp2
      go_returns
      obtain rfl : n = cs.length := by omega
      exact ⟨rfl, hb⟩
set_option maxHeartbeats 1000000 in
set_option maxRecDepth 100000 in
theorem markBag_any (W : Int) (k : Nat) (v : Value) (cs : List C2) (F : List Nat) (w : World) (hr : RowsF w v cs F) (hnd : F.Nodup) (hf : Free w F) (h0 : 0 < k) (h1 : k + 3 * wtb cs ≤ 999999900) :
    Calls Try.prog 13 #[.agg #[.int .i64 W, v], .int .i64 k] w fun e w' => e = .returned (.int .i64 ((offC k cs cs.length : Nat) : Int)) ∧ RowsF w' v (mC k cs) F ∧ Chg F w w' := by
  have hlt := hr.lt
  obtain ⟨a, l, c, rfl⟩ := hr.is.shape
  go_enter Try.func13, Try.ntmps13
  have hb1 : Below w.heap.size w (w.alloc (.cells #[.int .i64 W, .slice a l c] 26)) := (Below.refl _ _).alloc (Nat.le_refl _) _
  have hc1 := Chg.of_below hb1 hlt
  go_wp2_with fail
  refine Calls.mono (markCountedS_any k (.slice a l c) cs F _ (hr.below hb1) hnd (hc1.free hf) h0 h1) ?_
  rintro e w2 ⟨rfl, hR2, hc2⟩
  have hch := hc1.trans hc2
  clear hc1 hc2 hb1 hf hr
  go_wp2
  go_returns
  exact ⟨rfl, hR2, hch⟩
set_option maxHeartbeats 1000000 in
set_option maxRecDepth 100000 in
theorem heldBag_any (W : Int) (k : Nat) (v : Value) (cs : List C2) (w : World) (hr : RowsIs w v (mC k cs)) (h0 : 0 < k) (h1 : k + 3 * wtb cs ≤ 999999900) :
    Calls Try.prog 14 #[.agg #[.int .i64 W, v], .int .i64 k] w fun e w' => e = .returned (.int .i64 ((offC k cs cs.length : Nat) : Int)) ∧ Below w.heap.size w w' := by
  obtain ⟨a, l, c, rfl⟩ := hr.shape
  have hoff := offC_le k cs cs.length
  go_enter Try.func14, Try.ntmps14
  go_wp2_with fail
  refine Calls.mono (heldCountedS_any k (.slice a l c) cs _ (hr.below ?hb) h0 h1) ?_
  case hb => repeat (first | (with_reducible exact Below.refl _ _) | (with_reducible refine Below.drew ?_) | (with_reducible refine Below.alloc ?_ ?hh _; case hh => first | (simp; done) | (simp; omega) | omega) | (with_reducible refine Below.setCell ?_ ?hh _; case hh => first | (simp; done) | (simp; omega) | omega) | refine bstep (by assumption) (by first | (simp; done) | (simp; omega) | omega) ?_)
  rintro e w2 ⟨rfl, hb2⟩
  have hz2 := hb2.size
  simp only [World.size_alloc] at hz2
  go_wp2
  go_returns
  exact ⟨rfl, by repeat (first | (with_reducible exact Below.refl _ _) | (with_reducible refine Below.drew ?_) | (with_reducible refine Below.alloc ?_ ?hh _; case hh => first | (simp; done) | (simp; omega) | omega) | (with_reducible refine Below.setCell ?_ ?hh _; case hh => first | (simp; done) | (simp; omega) | omega) | refine bstep (by assumption) (by first | (simp; done) | (simp; omega) | omega) ?_)⟩
end Go.Proofs.Ytmomffaceglibaa
/- Own text. The contracts of markRelS and heldRelS: relations that are written over with marks, and that have them still. -/
namespace Go.Proofs.Ytmomffaceglibaa
open Go.RowKit Go.Deep
set_option linter.unusedVariables false
/-- how many marks counted rows take. -/
def sC (cs : List C2) : Nat := (cs.map fun x => 3 * x.r.length + 1).sum
theorem offC_all (k : Nat) (cs : List C2) : offC k cs cs.length = k + sC cs := by unfold offC sC; rw [List.take_length]
theorem sC_le (cs : List C2) : sC cs ≤ 3 * wtb cs := sum_le cs
/-- the mark that relation i begins with. -/
def offR (k : Nat) (rs : List R3) (i : Nat) : Nat := k + ((rs.take i).map fun x => 2 + sC x.cs).sum
theorem offR_zero (k : Nat) (rs : List R3) : offR k rs 0 = k := by simp [offR]
theorem offR_succ {k i : Nat} {rs : List R3} {x : R3} (h : rs[i]? = some x) : offR k rs (i + 1) = offR k rs i + (2 + sC x.cs) := by
  obtain ⟨hk, rfl⟩ := List.getElem?_eq_some_iff.1 h
  unfold offR
  rw [List.take_succ_eq_append_getElem hk, List.map_append, List.sum_append]
  simp only [List.map_cons, List.map_nil, List.sum_cons, List.sum_nil]
  omega
theorem sumR_le (l : List R3) : (l.map fun x => 2 + sC x.cs).sum ≤ 3 * wtR l := by
  unfold wtR wtrs
  induction l with
  | nil => simp
  | cons x xs ih =>
    simp only [List.map_cons, List.sum_cons, List.length_cons] at ih ⊢
    have := sC_le x.cs
    unfold wtr at ih ⊢
    omega
theorem offR_le (k : Nat) (rs : List R3) : ∀ i, offR k rs i ≤ k + 3 * wtR rs := by
  intro i
  have h1 := sumR_le rs
  have h2 : ((rs.take i).map fun x => 2 + sC x.cs).sum ≤ (rs.map fun x => 2 + sC x.cs).sum := by
    conv => rhs; rw [← List.take_append_drop i rs]
    rw [List.map_append, List.sum_append]
    omega
  unfold offR
  omega
/-- relations of which the first n are marked. -/
def mRi (k n : Nat) (rs : List R3) : List R3 := rs.mapIdx fun i x => if i < n then ⟨mt ((offR k rs i : Nat) : Int), ((offR k rs i : Nat) : Int) + 1, mC (offR k rs i + 2) x.cs⟩ else x
theorem mRi_len (k n : Nat) (rs : List R3) : (mRi k n rs).length = rs.length := by simp [mRi]
theorem mRi_at {k n i : Nat} {rs : List R3} {x : R3} (h : rs[i]? = some x) : (mRi k n rs)[i]? = some (if i < n then ⟨mt ((offR k rs i : Nat) : Int), ((offR k rs i : Nat) : Int) + 1, mC (offR k rs i + 2) x.cs⟩ else x) := by
  simp [mRi, h]
theorem mRi_zero (k : Nat) (rs : List R3) : mRi k 0 rs = rs := by
  apply List.ext_getElem?
  intro i
  cases h : rs[i]? with
  | none => have := List.getElem?_eq_none_iff.1 h; rw [List.getElem?_eq_none (by rw [mRi_len]; exact this)]
  | some x => rw [mRi_at h, if_neg (by omega)]
theorem RLF.step {w w1 w3 : World} {b o k n : Nat} {rs : List R3} {G : List (List Nat)} {x : R3} {g : List Nat} {u : Value} (h : RLF w b o (mRi k n rs) G) (hnd : (b :: G.flatten).Nodup) (hb : b < w.heap.size) (hx : rs[n]? = some x) (hg : G[n]? = some g)
    (hu : w.cell? ⟨b, o + n * 3 + 2, none⟩ = some u) (h1 : Below w.heap.size w w1)
    (hR : RowsF w3 u (mC (offR k rs n + 2) x.cs) g) (hc : Chg g ((w1.setCell ⟨b, o + n * 3, none⟩ (.string (mt ((offR k rs n : Nat) : Int)))).setCell ⟨b, o + n * 3 + 1, none⟩ (.int .i64 (((offR k rs n : Nat) : Int) + 1))) w3) :
    RLF w3 b o (mRi k (n + 1) rs) G := by
  have hb1 : b < w1.heap.size := Nat.lt_of_lt_of_le hb h1.size
  have hcell : ∀ q, w3.cell? ⟨b, q, none⟩ = ((w1.setCell ⟨b, o + n * 3, none⟩ (.string (mt ((offR k rs n : Nat) : Int)))).setCell ⟨b, o + n * 3 + 1, none⟩ (.int .i64 (((offR k rs n : Nat) : Int) + 1))).cell? ⟨b, q, none⟩ := fun q => cell_blk (hc.block b (by simpa using hb1) (head_out hnd hg))
  have hw1 : ∀ q, w1.cell? ⟨b, q, none⟩ = w.cell? ⟨b, q, none⟩ := fun q => cell_blk (h1.block b hb)
  have hs13 : w.heap.size ≤ w3.heap.size := Nat.le_trans h1.size (by have := hc.size; simpa using this)
  have hblk : ∀ c, c < w.heap.size → c ≠ b → c ∉ g → w3.heap[c]? = w.heap[c]? := fun c hcw hcb hcg => by
    rw [hc.block c (by have := h1.size; simp; omega) hcg, Below.heap_setCell _ _ _ _ hcb, Below.heap_setCell _ _ _ _ hcb]
    exact h1.block c hcw
  intro i y g' hy hg'
  have hi : i < rs.length := by have := (List.getElem?_eq_some_iff.1 hy).1; rwa [mRi_len] at this
  obtain ⟨z, hz⟩ : ∃ z, rs[i]? = some z := ⟨rs[i], by simp [hi]⟩
  rw [mRi_at hz] at hy
  have hy := (Option.some.inj hy).symm
  obtain ⟨u', a0, a1, a2, a3⟩ := h i _ g' (mRi_at hz) hg'
  have hgb : b ∉ g' := head_out hnd hg'
  rw [hcell, hcell, hcell]
  by_cases e : i = n
  · subst e
    obtain rfl : z = x := by rw [hx] at hz; exact (Option.some.inj hz).symm
    obtain rfl : g' = g := by rw [hg] at hg'; exact (Option.some.inj hg').symm
    obtain rfl : u' = u := by rw [hu] at a2; exact (Option.some.inj a2).symm
    rw [if_pos (by omega)] at hy
    subst hy
    refine ⟨u', ?_, ?_, ?_, hR⟩
    · rw [World.cell?_setCell_other _ _ _ _ (by intro q; have := congrArg Addr.off q; simp at this)]
      exact World.cell?_setCell_same _ _ _ ((hw1 _).trans a0)
    · exact World.cell?_setCell_same _ _ _ ((World.cell?_setCell_other _ _ _ _ (by intro q; have := congrArg Addr.off q; simp at this)).trans ((hw1 _).trans a1))
    · rw [World.cell?_setCell_other _ _ _ _ (by intro q; have := congrArg Addr.off q; simp at this), World.cell?_setCell_other _ _ _ _ (by intro q; have := congrArg Addr.off q; simp at this)]
      exact (hw1 _).trans a2
  · have ey : y = if i < n then ⟨mt ((offR k rs i : Nat) : Int), ((offR k rs i : Nat) : Int) + 1, mC (offR k rs i + 2) z.cs⟩ else z := by
      rw [hy]
      by_cases hin : i < n
      · rw [if_pos hin, if_pos (by omega)]
      · rw [if_neg hin, if_neg (by omega)]
    rw [← ey] at a0 a1 a3
    have hd := disj_of hnd hg' hg e
    have far : ∀ p q : Nat, p < 3 → q < 3 → o + i * 3 + p ≠ o + n * 3 + q := by intro p q hp hq; omega
    refine ⟨u', ?_, ?_, ?_, a3.keep hs13 fun c hcg => hblk c (a3.lt c hcg) (by rintro rfl; exact hgb hcg) (hd c hcg)⟩
    · rw [World.cell?_setCell_other _ _ _ _ (by intro q; have := congrArg Addr.off q; simp at this; omega), World.cell?_setCell_other _ _ _ _ (by intro q; have := congrArg Addr.off q; simp at this; omega)]
      exact (hw1 _).trans a0
    · rw [World.cell?_setCell_other _ _ _ _ (by intro q; have := congrArg Addr.off q; simp at this; omega), World.cell?_setCell_other _ _ _ _ (by intro q; have := congrArg Addr.off q; simp at this; omega)]
      exact (hw1 _).trans a1
    · rw [World.cell?_setCell_other _ _ _ _ (by intro q; have := congrArg Addr.off q; simp at this; omega), World.cell?_setCell_other _ _ _ _ (by intro q; have := congrArg Addr.off q; simp at this; omega)]
      exact (hw1 _).trans a2
/-- relations that are marked from k on. -/
def mR (k : Nat) (rs : List R3) : List R3 := mRi k rs.length rs
set_option maxHeartbeats 2000000 in
set_option maxRecDepth 100000 in
theorem markRelS_any (k : Nat) (v : Value) (rs : List R3) (F : List Nat) (w : World) (hr : RelsF w v rs F) (hnd : F.Nodup) (hf : Free w F) (h0 : 0 < k) (h1 : k + 6 * wtR rs ≤ 999999800) :
    Calls Try.prog 58 #[v, .int .i64 k] w fun e w' => e = .returned (.int .i64 ((offR k rs rs.length : Nat) : Int)) ∧ RelsF w' v (mR k rs) F ∧ Chg F w w' := by
  obtain ⟨a, c, b, o, G, rfl, hl, hc, hzz, hG, hF0, hC, ha⟩ := hr.pick
  have hlt0 := hr.lt
  have hcm := hc
  unfold maxLen at hc
  clear hr
  have hoff := offR_le k rs
  go_enter Try.func58, Try.ntmps58
  go_wp2
  go_loopw [1, 5] (fun kk i wr => ∃ n : Nat, n ≤ rs.length ∧ i = .int .i64 n ∧ kk = .int .i64 ((offR k rs n : Nat) : Int) ∧ RLF wr b o (mRi k n rs) G ∧ Chg F w wr) (fun _ i _ => rs.length - (intOf i).toNat)
  case atStart => exact ⟨0, Nat.zero_le _, rfl, by rw [offR_zero], by rw [mRi_zero]; exact hC, Chg.refl _ _⟩
  case round =>
    obtain ⟨n, hn, rfl, rfl, hH, hch⟩ := hrel
    by_cases hlt : n < rs.length
    · obtain ⟨rfl, hblt, rfl⟩ := ha n hlt
      have hzb := hch.size
      have hbr : b < wr.heap.size := by omega
      have hlt' : n < G.length := by omega
      obtain ⟨x, hx⟩ : ∃ x, rs[n]? = some x := ⟨rs[n], by simp [hlt]⟩
      obtain ⟨g, hg⟩ : ∃ g, G[n]? = some g := ⟨G[n], by simp [hlt']⟩
      obtain ⟨u, c0, c1, c2, hR⟩ := hH n _ g (mRi_at hx) hg
      rw [if_neg (by omega)] at hR c0 c1
      have hgF : ∀ y ∈ g, y ∈ b :: G.flatten := fun y hy => List.mem_cons_of_mem _ (List.mem_flatten.2 ⟨g, List.mem_of_getElem? hg, hy⟩)
      have hgb : b ∉ g := head_out hnd hg
      have hgnd : g.Nodup := by
        have h2 := (List.nodup_cons.1 hnd).2
        rw [List.Nodup, List.pairwise_flatten] at h2
        exact h2.1 g (List.mem_of_getElem? hg)
      have hfr := hch.free hf
      have hfr0 : ∀ i, wr.frozen? ⟨b, i, none⟩ = false := hfr b (by simp)
      have hgf : Free wr g := fun y hy => hfr y (hgF y hy)
      have hs := offR_succ (k := k) hx
      have ho1 := hoff n
      have ho2 := hoff (n + 1)
      have HS : Hid (offR k rs (n + 1) = offR k rs n + 2 + sC x.cs) := by show _ = _; omega
      have hko : 0 < offR k rs n := by unfold offR; omega
      have hxw : wtb x.cs ≤ wtR rs := by have := wtr_mem (List.mem_of_getElem? hx); unfold wtr at this; unfold wtR; omega
      have hM := fun w => markText_any (offR k rs n) w (by omega) (by omega)
      have hkn := fun w1 w3 => RLF.step (w1 := w1) (w3 := w3) hH hnd hbr hx hg c2
      have hMC := fun v w' => markCountedS_any (offR k rs n + 2) v x.cs g w'
      have hT : offR k rs n + 2 + 3 * wtb x.cs ≤ 999999900 := by omega
      generalize offR k rs n = t at *
      have e2 : ((t + 2 : Nat) : Int) = (t : Int) + 1 + 1 := by omega
      simp only [e2] at hMC
      clear e2
      have hRs := hR.is.shape
      obtain ⟨au, lu, cu, rfl⟩ := hRs
      clear hs hoff ha hC hf
      go_wp2_with fail
      refine Calls.mono (hM _) ?_
      rintro e w1 ⟨rfl, hb1⟩
      have hz1 := hb1.size
      (try simp only [World.size_alloc] at hz1)
      have hbb : w1.heap[b]? = wr.heap[b]? := hb1.block b hbr
      have q0 : w1.cell? ⟨b, o + n * 3, none⟩ = some (.string x.s) := (cell_blk hbb).trans c0
      have q1 : w1.cell? ⟨b, o + n * 3 + 1, none⟩ = some (.int .i64 x.W) := (cell_blk hbb).trans c1
      have q2 : w1.cell? ⟨b, o + n * 3 + 2, none⟩ = some (.slice au lu cu) := (cell_blk hbb).trans c2
      have hfr1 : ∀ i, w1.frozen? ⟨b, i, none⟩ = false := fun i => (frozen_blk hbb).trans (hfr0 i)
      have hbr1 : b < w1.heap.size := by omega
      have hR1 : RowsF ((w1.setCell ⟨b, o + n * 3, none⟩ (.string (mt (t : Int)))).setCell ⟨b, o + n * 3 + 1, none⟩ (.int .i64 ((t : Int) + 1))) (.slice au lu cu) x.cs g :=
        (hR.below hb1).keep (by simp) fun c hc => by rw [Below.heap_setCell _ _ _ _ (by rintro rfl; exact hgb hc), Below.heap_setCell _ _ _ _ (by rintro rfl; exact hgb hc)]
      have hf1 : Free ((w1.setCell ⟨b, o + n * 3, none⟩ (.string (mt (t : Int)))).setCell ⟨b, o + n * 3 + 1, none⟩ (.int .i64 ((t : Int) + 1))) g := fun y hy i => by
        simp only [World.frozen?_setCell]
        exact (frozen_blk (hb1.block y (hR.lt y hy))).trans (hgf y hy i)
      have hkn1 := fun w3 => hkn w1 w3 hb1
      have hch1 : Chg (b :: G.flatten) w ((w1.setCell ⟨b, o + n * 3, none⟩ (.string (mt (t : Int)))).setCell ⟨b, o + n * 3 + 1, none⟩ (.int .i64 ((t : Int) + 1))) :=
        ((hch.trans (Chg.of_below hb1 fun y hy => by have := hlt0 y hy; omega)).setCell (p := ⟨b, _, none⟩) (by simp) _).setCell (p := ⟨b, _, none⟩) (by simp) _
      have hsz1 : ((w1.setCell ⟨b, o + n * 3, none⟩ (.string (mt (t : Int)))).setCell ⟨b, o + n * 3 + 1, none⟩ (.int .i64 ((t : Int) + 1))).heap.size = w1.heap.size := by simp
      clear hkn hb1 hR hH hM hch hfr hfr0 hgf c0 c1 c2 hbb
      go_wp2_with fail
      refine Calls.mono (hMC _ _ hR1 hgnd hf1 (by omega) hT) ?_
      rintro e w3 ⟨rfl, hR3, hc3⟩
      have hS3 := hkn1 w3 hR3 hc3
      have hch3 : Chg (b :: G.flatten) w w3 := hch1.trans (hc3.wide hgF fun y hy _ => by have := hlt0 y hy; rw [hsz1]; omega)
      have e3 : offC (t + 2) x.cs x.cs.length = t + 2 + sC x.cs := offC_all _ _
      rw [e3]
      clear e3 hc3 hR3 hkn1 hR1 hf1 hch1 hMC hsz1
      go_wp2
      exact ⟨⟨n + 1, hlt, by simp, by rw [HS.out]; first | (congr 1; done) | (congr 1; omega), hS3, hch3⟩, by simp [intOf]; omega⟩
    · go_wp2
      go_returns
      obtain rfl : n = rs.length := by omega
      refine ⟨rfl, ⟨a, c, G, by rw [mR, mRi_len], by rw [mR, mRi_len]; exact hl, hcm, hzz, by rw [mR, mRi_len]; exact hG, fun e => hF0 (by have := congrArg List.length e; rw [mR, mRi_len] at this; exact List.length_eq_zero_iff.1 this), fun hne => ?_⟩, hch⟩
      have hp : 0 < rs.length := by have := List.length_pos_iff.2 hne; rwa [mR, mRi_len] at this
      obtain ⟨e, hlt, hF⟩ := ha 0 hp
      exact ⟨b, o, e, by have := hch.size; omega, hF, hH⟩
set_option maxHeartbeats 2000000 in
set_option maxRecDepth 100000 in
theorem heldRelS_any (k : Nat) (v : Value) (rs : List R3) (w : World) (hr : RelsIs w v (mR k rs)) (h0 : 0 < k) (h1 : k + 6 * wtR rs ≤ 999999800) :
    Calls Try.prog 60 #[v, .int .i64 k] w fun e w' => e = .returned (.int .i64 ((offR k rs rs.length : Nat) : Int)) ∧ Below w.heap.size w w' := by
  obtain ⟨a, c, b, o, rfl, hl, hc, ha⟩ := hr.pick
  have hln : (mR k rs).length = rs.length := mRi_len _ _ _
  rw [hln] at hl ha
  rw [hln]
  unfold maxLen at hc
  clear hr hln
  have hoff := offR_le k rs
  go_enter Try.func60, Try.ntmps60
  go_wp2
  go_loopw [1, 5] (fun kk i wr => ∃ n : Nat, n ≤ rs.length ∧ i = .int .i64 n ∧ kk = .int .i64 ((offR k rs n : Nat) : Int) ∧ Below w.heap.size w wr) (fun _ i _ => rs.length - (intOf i).toNat)
  case atStart => exact ⟨0, Nat.zero_le _, rfl, by rw [offR_zero], by go_grown⟩
  case round =>
    obtain ⟨n, hn, rfl, rfl, hb⟩ := hrel
    by_cases hlt : n < rs.length
    · obtain ⟨rfl, hblt, hL⟩ := ha n hlt
      have hzb := hb.size
      have hbr : b < wr.heap.size := by omega
      obtain ⟨x, hx⟩ : ∃ x, rs[n]? = some x := ⟨rs[n], by simp [hlt]⟩
      obtain ⟨u, c0, c1, c2, hR⟩ := hL.below hb hblt n _ (mRi_at hx)
      rw [if_pos hlt] at hR c0 c1
      have hs := offR_succ (k := k) hx
      have ho1 := hoff n
      have ho2 := hoff (n + 1)
      have HS : Hid (offR k rs (n + 1) = offR k rs n + 2 + sC x.cs) := by show _ = _; omega
      have hko : 0 < offR k rs n := by unfold offR; omega
      have hxw : wtb x.cs ≤ wtR rs := by have := wtr_mem (List.mem_of_getElem? hx); unfold wtr at this; unfold wtR; omega
      have hM := fun w => markText_any (offR k rs n) w (by omega) (by omega)
      have hMC := fun v w' => heldCountedS_any (offR k rs n + 2) v x.cs w'
      have hT : offR k rs n + 2 + 3 * wtb x.cs ≤ 999999900 := by omega
      generalize offR k rs n = t at *
      have e2 : ((t + 2 : Nat) : Int) = (t : Int) + 1 + 1 := by omega
      simp only [e2] at hMC
      clear e2
      obtain ⟨au, lu, cu, rfl⟩ := hR.shape
      dsimp only at c0 c1 hR
      clear hs hoff ha hL hx
      go_wp2_with fail
      go_region_with (first | (go_at_call 74; refine (hM _).mono ?_; rintro x w2 ⟨rfl, hb2⟩; have hz2 := hb2.size; (try simp at hz2); have p0 : w2.cell? ⟨b, o + n * 3, none⟩ = some (.string (mt (t : Int))) := cell_later hb2 (by go_simp); have p1 : w2.cell? ⟨b, o + n * 3 + 1, none⟩ = some (.int .i64 ((t : Int) + 1)) := cell_later hb2 (by go_simp); have p2 : w2.cell? ⟨b, o + n * 3 + 2, none⟩ = some (.slice au lu cu) := cell_later hb2 (by go_simp)))
      all_goals go_wp2_with fail
      all_goals refine Calls.mono (hMC _ _ (hR.below (by repeat (first | (with_reducible exact Below.refl _ _) | (with_reducible refine Below.drew ?_) | (with_reducible refine Below.alloc ?_ ?hh _; case hh => first | (simp; done) | (simp; omega) | omega) | (with_reducible refine Below.setCell ?_ ?hh _; case hh => first | (simp; done) | (simp; omega) | omega) | refine bstep (by assumption) (by first | (simp; done) | (simp; omega) | omega) ?_))) (by omega) hT) ?_
      all_goals rintro e w3 ⟨rfl, hb3⟩
      all_goals rw [offC_all]
      all_goals have hz3 := hb3.size
      all_goals go_wp2
      all_goals exact ⟨⟨n + 1, hlt, by simp, by rw [HS.out]; first | (congr 1; done) | (congr 1; omega), by repeat (first | (with_reducible exact Below.refl _ _) | (with_reducible refine Below.drew ?_) | (with_reducible refine Below.alloc ?_ ?hh _; case hh => first | (simp; done) | (simp; omega) | omega) | (with_reducible refine Below.setCell ?_ ?hh _; case hh => first | (simp; done) | (simp; omega) | omega) | refine bstep (by assumption) (by first | (simp; done) | (simp; omega) | omega) ?_)⟩, by simp [intOf]; omega⟩
    · go_wp2
      go_returns
      obtain rfl : n = rs.length := by omega
      exact ⟨rfl, hb⟩
end Go.Proofs.Ytmomffaceglibaa
/- Own text. markStep and heldStep: what they write and what they ask for. -/
namespace Go.Proofs.Ytmomffaceglibaa
open Go.RowKit Go.Deep
set_option linter.unusedVariables false
/-- the mark behind a step's. -/
def kT (k : Nat) (x : T5) : Nat := offR (k + x.cs.length) x.rs x.rs.length
/-- a step's two lists, marked from k on. -/
def Mkd (w : World) (uc ur : Value) (x : T5) (k : Nat) (g F : List Nat) : Prop := StrsF w uc (mS k x.cs) g ∧ RelsF w ur (mR (k + x.cs.length) x.rs) F
theorem Mkd.below {w w' : World} {uc ur : Value} {x : T5} {k : Nat} {g F : List Nat} (h : Mkd w uc ur x k g F) (hb : Below w.heap.size w w') : Mkd w' uc ur x k g F := ⟨h.1.below hb, h.2.below hb⟩
set_option maxHeartbeats 2000000 in
set_option maxRecDepth 100000 in
theorem markStep_any (x : T5) (uc ur : Value) (N k : Nat) (g F : List Nat) (w : World) (h : StpOwn w N uc ur x g F) (h0 : 0 < k) (h1 : k + x.cs.length + 6 * wtR x.rs ≤ 999999800) :
    Calls Try.prog 22 #[(.agg #[.int .i64 x.k, .string x.s, uc, .string x.q, ur]), .int .i64 k] w fun e w' => e = .returned (.int .i64 (kT k x : Int)) ∧ Mkd w' uc ur x k g F ∧ Chg (g ++ F) w w' := by
  obtain ⟨ac, cc, rfl, _, _⟩ := h.1.shape
  have hs2 : ∃ a c, ur = .slice a x.rs.length c := by
    obtain ⟨a, c, _, h, _⟩ := h.2.1
    exact ⟨a, c, h⟩
  obtain ⟨ar, cr, rfl⟩ := hs2
  have hgl := h.1.lt
  have hFl := h.2.1.lt
  obtain ⟨hA, hB, hOg, hOF, hd⟩ := h
  go_enter Try.func22, Try.ntmps22
  go_wp2_with (first | (go_at_call 57; with_reducible refine Calls.mono (markStringS_any k _ x.cs g _ (hA.below (by repeat (first | (with_reducible exact Below.refl _ _) | (with_reducible refine Below.drew ?_) | (with_reducible refine Below.alloc ?_ ?hh _; case hh => first | (simp; done) | (simp; omega) | omega) | (with_reducible refine Below.setCell ?_ ?hh _; case hh => first | (simp; done) | (simp; omega) | omega) | refine bstep (by assumption) (by first | (simp; done) | (simp; omega) | omega) ?_))) ?f1 h0 (by omega)) ?_) | fail)
  case f1 => exact fun b hb o => (frozen_blk (Below.heap_alloc _ _ _ (hgl b hb))).trans (hOg.2.2 b hb o)
  rintro r w1 ⟨rfl, hA1, hc1⟩
  have hz1 := hc1.size
  simp only [World.size_alloc] at hz1
  have hng : w.heap.size ∉ g := fun hb => by have := hgl _ hb; omega
  have cB : w1.cell? ⟨w.heap.size, 4, none⟩ = some (.slice ar x.rs.length cr) := (cell_blk (hc1.block _ (by simp) hng)).trans (by rw [Lib.cell_of_heap (heap_alloc_new w _)]; rfl)
  have hFk : ∀ b ∈ F, w1.heap[b]? = w.heap[b]? := fun b hb => (hc1.block b (by simp; have := hFl b hb; omega) (fun hg => hd b hg hb)).trans (heap_alloc_old w _ (hFl b hb))
  have hB1 := hB.keep (by omega : w.heap.size ≤ w1.heap.size) hFk
  have hF1 : Free w1 F := fun b hb o => (frozen_blk (hFk b hb)).trans (hOF.2.2 b hb o)
  have HC : Hid (Chg g w w1) := (Chg.of_below (by repeat (first | (with_reducible exact Below.refl _ _) | (with_reducible refine Below.drew ?_) | (with_reducible refine Below.alloc ?_ ?hh _; case hh => first | (simp; done) | (simp; omega) | omega) | (with_reducible refine Below.setCell ?_ ?hh _; case hh => first | (simp; done) | (simp; omega) | omega) | refine bstep (by assumption) (by first | (simp; done) | (simp; omega) | omega) ?_)) hgl).trans hc1
  clear hc1
  have e0 : ((k + x.cs.length : Nat) : Int) = ((k + x.cs.length : Nat) : Int) := rfl
  have hM := markRelS_any (k + x.cs.length) (.slice ar x.rs.length cr) x.rs F w1 hB1 hOF.1 hF1 (by omega) h1
  generalize ((k + x.cs.length : Nat) : Int) = kk at *
  go_wp2_with (first | (go_at_call 58; with_reducible refine Calls.mono hM ?_) | fail)
  rintro r w2 ⟨rfl, hB2, hc2⟩
  have hA2 : StrsF w2 (.slice ac x.cs.length cc) (mS k x.cs) g := hA1.keep hc2.size fun b hb => hc2.block b (by have := hgl b hb; omega) (fun hF => hd b hb hF)
  have HD : Hid (Chg (g ++ F) w w2) := by
    have c1 : Chg (g ++ F) w w1 := HC.out.wide (fun b hb => List.mem_append_left _ hb) (fun b hb hg => by rcases List.mem_append.1 hb with hb | hb; exact hgl b hb; exact hFl b hb)
    have c2 : Chg (g ++ F) w1 w2 := hc2.wide (fun b hb => List.mem_append_right _ hb) (fun b hb hg => by rcases List.mem_append.1 hb with hb | hb; (have := hgl b hb; omega); (have := hFl b hb; omega))
    exact c1.trans c2
  clear hc2 hM
  go_wp2
  go_returns
  exact ⟨rfl, ⟨hA2, hB2⟩, HD.out⟩
set_option maxHeartbeats 2000000 in
set_option maxRecDepth 100000 in
theorem heldStep_any (x : T5) (uc ur : Value) (k : Nat) (g F : List Nat) (w : World) (h : Mkd w uc ur x k g F) (h0 : 0 < k) (h1 : k + x.cs.length + 6 * wtR x.rs ≤ 999999800) (K A : Int) (sA sB : ByteArray) :
    Calls Try.prog 23 #[.agg #[.int .i64 A, .string sA, uc, .string sB, ur], .int .i64 k] w fun e w' => e = .returned (.int .i64 (kT k x : Int)) ∧ Below w.heap.size w w' := by
  obtain ⟨hA, hB⟩ := h
  obtain ⟨ac, cc, e1, _, _⟩ := hA.shape
  have hs2 : ∃ a c, ur = .slice a (mR (k + x.cs.length) x.rs).length c := by
    obtain ⟨a, c, _, h, _⟩ := hB
    exact ⟨a, c, h⟩
  obtain ⟨ar, cr, e2⟩ := hs2
  generalize (mS k x.cs).length = n1 at e1
  generalize (mR (k + x.cs.length) x.rs).length = n2 at e2
  subst e1 e2
  go_enter Try.func23, Try.ntmps23
  go_wp2_with (first | (go_at_call 59; with_reducible refine Calls.mono (heldStringS_any k _ x.cs g _ (hA.below (by repeat (first | (with_reducible exact Below.refl _ _) | (with_reducible refine Below.drew ?_) | (with_reducible refine Below.alloc ?_ ?hh _; case hh => first | (simp; done) | (simp; omega) | omega) | (with_reducible refine Below.setCell ?_ ?hh _; case hh => first | (simp; done) | (simp; omega) | omega) | refine bstep (by assumption) (by first | (simp; done) | (simp; omega) | omega) ?_))) h0 (by omega)) ?_) | fail)
  rintro r w1 ⟨rfl, hb1⟩
  have cB : w1.cell? ⟨w.heap.size, 4, none⟩ = some (.slice ar n2 cr) := cell_later hb1 (by go_simp)
  have bel1 : Below w.heap.size w w1 := by repeat (first | (with_reducible exact Below.refl _ _) | (with_reducible refine Below.drew ?_) | (with_reducible refine Below.alloc ?_ ?hh _; case hh => first | (simp; done) | (simp; omega) | omega) | (with_reducible refine Below.setCell ?_ ?hh _; case hh => first | (simp; done) | (simp; omega) | omega) | refine bstep (by assumption) (by first | (simp; done) | (simp; omega) | omega) ?_)
  have hM := heldRelS_any (k + x.cs.length) (.slice ar n2 cr) x.rs w1 (hB.is.below bel1) (by omega) h1
  have hk0 : ¬ (((k + x.cs.length : Nat) : Int) < 0) := by omega
  generalize ((k + x.cs.length : Nat) : Int) = kk at *
  have hk1 : ¬ (((offR (k + x.cs.length) x.rs x.rs.length : Nat) : Int) < 0) := by omega
  clear hb1
  go_wp2_with (first | (go_at_call 60; with_reducible refine Calls.mono hM ?_) | fail)
  rintro r w2 ⟨rfl, hb2⟩
  have bel2 : Below w.heap.size w w2 := bel1.trans (hb2.mono bel1.size)
  generalize hX : ((offR (k + x.cs.length) x.rs x.rs.length : Nat) : Int) = X at *
  clear hM hb2
  go_wp2
  go_returns
  subst hX
  exact ⟨rfl, bel2⟩
end Go.Proofs.Ytmomffaceglibaa
/- Own text. The contracts of the helpers on relations: how much they weigh, that they are the same as others. -/
namespace Go.Proofs.Ytmomffaceglibaa
open Go.RowKit
set_option linter.unusedVariables false
set_option maxHeartbeats 1000000 in
theorem szRel_any (s : ByteArray) (W : Int) (v : Value) (cs : List C2) (left : Int) (w : World) (hs : s.size ≤ maxLen) (hr : RowsIs w v cs) (hw : CsWf cs) (h0 : 0 ≤ left) (h1 : left ≤ 1048576) :
    Calls Try.prog 76 #[.agg #[.string s, .int .i64 W, v], .int .i64 left] w fun e w' => (∃ z : Int, e = .returned (.int .i64 z) ∧ -1 ≤ z ∧ z ≤ left ∧ (0 ≤ z → z + (s.size + wtb cs) = left)) ∧ Below w.heap.size w w' := by
  unfold maxLen at hs
  by_cases hbig : left - s.size < 0
  · go_enter Try.func76, Try.ntmps76
    go_wp2_with fail
    go_returns
    exact ⟨⟨-1, rfl, by omega, by omega, by omega⟩, by repeat (first | exact Below.refl _ _ | refine Below.drew ?_ | refine Below.alloc ?_ (by first | (simp; done) | (simp; omega) | omega) _ | refine Below.setCell ?_ (by first | (simp; done) | (simp; omega) | omega) _ | refine bstep (by assumption) (by first | (simp; done) | (simp; omega) | omega) ?_)⟩
  obtain ⟨a, l, c, rfl⟩ := hr.shape
  go_enter Try.func76, Try.ntmps76
  go_wp2_with fail
  refine Calls.mono (szBag_any W (.slice a l c) cs (left - s.size) _ (hr.below ?hb) hw (by omega) (by omega)) ?_
  case hb => repeat (first | exact Below.refl _ _ | refine Below.drew ?_ | refine Below.alloc ?_ (by first | (simp; done) | (simp; omega) | omega) _ | refine Below.setCell ?_ (by first | (simp; done) | (simp; omega) | omega) _ | refine bstep (by assumption) (by first | (simp; done) | (simp; omega) | omega) ?_)
  rintro e w1 ⟨⟨z1, rfl, l1, g1, s1⟩, hb1⟩
  have hz1 := hb1.size
  simp only [World.size_alloc] at hz1
  by_cases hn1 : z1 < 0
  · go_wp2_with fail
    go_returns
    exact ⟨⟨-1, rfl, by omega, by omega, by omega⟩, by repeat (first | exact Below.refl _ _ | refine Below.drew ?_ | refine Below.alloc ?_ (by first | (simp; done) | (simp; omega) | omega) _ | refine Below.setCell ?_ (by first | (simp; done) | (simp; omega) | omega) _ | refine bstep (by assumption) (by first | (simp; done) | (simp; omega) | omega) ?_)⟩
  · go_wp2_with fail
    go_returns
    exact ⟨⟨z1, rfl, by omega, by omega, fun h => by have := s1 h; omega⟩, by repeat (first | exact Below.refl _ _ | refine Below.drew ?_ | refine Below.alloc ?_ (by first | (simp; done) | (simp; omega) | omega) _ | refine Below.setCell ?_ (by first | (simp; done) | (simp; omega) | omega) _ | refine bstep (by assumption) (by first | (simp; done) | (simp; omega) | omega) ?_)⟩
set_option maxHeartbeats 2000000 in
set_option maxRecDepth 100000 in
theorem szRelS_any (v : Value) (rs : List R3) (left : Int) (w : World) (hr : RelsIs w v rs) (hw : RsWf rs) (h0 : 0 ≤ left) (h1 : left ≤ 1048576) :
    Calls Try.prog 38 #[v, .int .i64 left] w fun e w' => (∃ z : Int, e = .returned (.int .i64 z) ∧ -1 ≤ z ∧ z ≤ left ∧ (0 ≤ z → z + wtR rs = left)) ∧ Below w.heap.size w w' := by
  obtain ⟨a, c, b, o, rfl, hl, hc, ha⟩ := hr.pick
  unfold maxLen at hc
  by_cases hbig : left - rs.length < 0
  · go_enter Try.func38, Try.ntmps38
    go_wp2
    go_returns
    exact ⟨⟨-1, rfl, by omega, by omega, by omega⟩, by go_grown⟩
  go_enter Try.func38, Try.ntmps38
  go_wp2
  go_loopw [1, 5] (fun l i wr => ∃ k : Nat, k ≤ rs.length ∧ i = .int .i64 k ∧ l = .int .i64 (left - rs.length - wtrs (rs.take k)) ∧ 0 ≤ left - rs.length - wtrs (rs.take k) ∧ Below w.heap.size w wr) (fun _ i _ => rs.length - (intOf i).toNat)
  case atStart => exact ⟨0, Nat.zero_le _, rfl, by simp [wtrs], by simp [wtrs]; omega, by go_grown⟩
  case round =>
    obtain ⟨k, hk, rfl, rfl, hp, hb⟩ := hrel
    by_cases hlt : k < rs.length
    · have hzb := hb.size
      obtain ⟨rfl, hblt, hL⟩ := ha k hlt
      obtain ⟨x, u, hx, c0, c1, c2, hR, hbr⟩ := hL.at hblt hb hlt
      obtain ⟨hxs, _, hxw⟩ := hw x (List.mem_of_getElem? hx)
      have hT : Hid (wtrs (rs.take (k + 1)) = wtrs (rs.take k) + wtr x) := wtrs_take hx
      have hp1 : left - rs.length - wtrs (rs.take k) ≤ 1048576 := by omega
      clear ha hL hw hx
      go_wp2_with (go_at_call 76; refine (szRel_any _ _ _ _ _ _ hxs hR hxw hp hp1).mono ?_; rintro e w1 ⟨⟨z1, rfl, l1, g1, s1⟩, hb1⟩)
      · go_returns
        exact ⟨⟨-1, rfl, by omega, by omega, by omega⟩, hb.trans (hb1.mono hb.size)⟩
      · have h9 : 0 ≤ z1 := by assumption
        have e1 := s1 h9
        have hT := hT.out
        unfold wtr at hT
        refine ⟨⟨k + 1, hlt, by simp, by congr 1; omega, by omega, hb.trans (hb1.mono hb.size)⟩, by simp [intOf]; omega⟩
    · go_wp2
      go_returns
      have hkk : k = rs.length := by omega
      subst hkk
      refine ⟨⟨_, rfl, by omega, by omega, fun _ => ?_⟩, hb⟩
      rw [List.take_length]; unfold wtR; omega
set_option maxHeartbeats 1000000 in
theorem eqRel_same (s : ByteArray) (W : Int) (v u : Value) (cs : List C2) (w : World) (hr : RowsIs w v cs) (hu : RowsIs w u cs) :
    Calls Try.prog 89 #[.agg #[.string s, .int .i64 W, v], .agg #[.string s, .int .i64 W, u]] w fun e w' => e = .returned (.bool true) ∧ Below w.heap.size w w' := by
  obtain ⟨a, l, c, rfl⟩ := hr.shape
  obtain ⟨a', l', c', rfl⟩ := hu.shape
  go_enter Try.func89, Try.ntmps89
  go_wp2_with fail
  refine Calls.mono (eqBag_same W _ _ cs _ (hr.below ?hb) (hu.below ?hc)) ?_
  case hb => repeat (first | exact Below.refl _ _ | refine Below.drew ?_ | refine Below.alloc ?_ (by first | (simp; done) | (simp; omega) | omega) _ | refine Below.setCell ?_ (by first | (simp; done) | (simp; omega) | omega) _ | refine bstep (by assumption) (by first | (simp; done) | (simp; omega) | omega) ?_)
  case hc => repeat (first | exact Below.refl _ _ | refine Below.drew ?_ | refine Below.alloc ?_ (by first | (simp; done) | (simp; omega) | omega) _ | refine Below.setCell ?_ (by first | (simp; done) | (simp; omega) | omega) _ | refine bstep (by assumption) (by first | (simp; done) | (simp; omega) | omega) ?_)
  rintro e w1 ⟨rfl, hb1⟩
  have hz1 := hb1.size
  simp only [World.size_alloc] at hz1
  go_wp2
  go_returns
  exact ⟨rfl, by repeat (first | exact Below.refl _ _ | refine Below.drew ?_ | refine Below.alloc ?_ (by first | (simp; done) | (simp; omega) | omega) _ | refine Below.setCell ?_ (by first | (simp; done) | (simp; omega) | omega) _ | refine bstep (by assumption) (by first | (simp; done) | (simp; omega) | omega) ?_)⟩
set_option maxHeartbeats 2000000 in
set_option maxRecDepth 100000 in
theorem eqRelS_same (v u : Value) (rs : List R3) (w : World) (hr : RelsIs w v rs) (hu : RelsIs w u rs) :
    Calls Try.prog 51 #[v, u] w fun e w' => e = .returned (.bool true) ∧ Below w.heap.size w w' := by
  obtain ⟨a, c, b, o, rfl, hl, hc, ha⟩ := hr.pick
  obtain ⟨a', c', b', o', rfl, hl', hc', ha'⟩ := hu.pick
  unfold maxLen at hc hc'
  clear hr hu
  go_enter Try.func51, Try.ntmps51
  go_wp2
  go_loopw [5] (fun i wr => ∃ k : Nat, k ≤ rs.length ∧ i = .int .i64 k ∧ Below w.heap.size w wr) (fun i _ => rs.length - (intOf i).toNat)
  case atStart => exact ⟨0, Nat.zero_le _, rfl, by go_grown⟩
  case round =>
    obtain ⟨k, hk, rfl, hb⟩ := hrel
    by_cases hlt : k < rs.length
    · have hzb := hb.size
      obtain ⟨rfl, hblt, hL⟩ := ha k hlt
      obtain ⟨rfl, hblt', hL'⟩ := ha' k hlt
      obtain ⟨x, v, hx, c0, c1, c2, hR, hbr⟩ := hL.at hblt hb hlt
      obtain ⟨x', u, hx', c0', c1', c2', hR', hbr'⟩ := hL'.at hblt' hb hlt
      obtain rfl : x = x' := by rw [hx] at hx'; exact Option.some.inj hx'
      clear ha ha' hL hL' hx hx'
      go_wp2_with fail
      go_region_held3 (fun w' => w'.cell? ⟨b, o + k * 3, none⟩ = some (.string x.s) ∧ w'.cell? ⟨b, o + k * 3 + 1, none⟩ = some (.int .i64 x.W) ∧ w'.cell? ⟨b, o + k * 3 + 2, none⟩ = some v ∧ w'.cell? ⟨b', o' + k * 3, none⟩ = some (.string x.s) ∧ w'.cell? ⟨b', o' + k * 3 + 1, none⟩ = some (.int .i64 x.W) ∧ w'.cell? ⟨b', o' + k * 3 + 2, none⟩ = some u) (refine ⟨?_, ?_, ?_, ?_, ?_, ?_⟩ <;> first | (go_simp; done) | (exact cell_later (by assumption) (by go_simp))) (first | (go_at_call 89; refine (eqRel_same x.s x.W v u x.cs _ (hR.below (by repeat (first | exact Below.refl _ _ | refine Below.drew ?_ | refine Below.alloc ?_ (by first | (simp; done) | (simp; omega) | omega) _ | refine Below.setCell ?_ (by first | (simp; done) | (simp; omega) | omega) _ | refine bstep (by assumption) (by first | (simp; done) | (simp; omega) | omega) ?_))) (hR'.below (by repeat (first | exact Below.refl _ _ | refine Below.drew ?_ | refine Below.alloc ?_ (by first | (simp; done) | (simp; omega) | omega) _ | refine Below.setCell ?_ (by first | (simp; done) | (simp; omega) | omega) _ | refine bstep (by assumption) (by first | (simp; done) | (simp; omega) | omega) ?_)))).mono ?_; rintro e w1 ⟨rfl, hb1⟩))
      go_wp2
      go_roundw
      case rel => exact ⟨k + 1, hlt, by simp, by repeat (first | exact Below.refl _ _ | refine Below.drew ?_ | refine Below.alloc ?_ (by first | (simp; done) | (simp; omega) | omega) _ | refine Below.setCell ?_ (by first | (simp; done) | (simp; omega) | omega) _ | refine bstep (by assumption) (by first | (simp; done) | (simp; omega) | omega) ?_)⟩
      case measure => simp [intOf]; omega
    · go_wp2
      go_returns
      exact ⟨rfl, hb⟩
end Go.Proofs.Ytmomffaceglibaa
