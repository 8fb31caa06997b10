/- Own texts, joined: contracts that the law's proof goes by. -/
import Derived.Test.YtdkbhoichmcodaaMa7
import Derived.Test.YtdkbhoichmcodaaStpSJ
import Derived.Handy
import Derived.Deep.RegionHeld3
import Derived.Test.YtdkbhoichmcodaaMa3
import Derived.Test.YtdkbhoichmcodaaMa9
import Derived.WalkKit
import Derived.WalkSpells
import Derived.WalkLawsBesides
import Derived.Below
import Derived.Deep.DeepCutAuto
/- Own text. The contract of spec.PutStep. -/
namespace Go.Proofs.Ytdkbhoichmcodaa
open Go.RowKit Go.Deep
set_option linter.unusedVariables false
/-- l10Size's answer as a text of so many bytes, whatever they are. -/
theorem l10Size_o (x : Int) (n : Nat) (h0 : 0 ≤ x) (hx : x ≤ 9223372036854775807) (hn : n ≤ 8) : ∃ r : ByteArray, Hid (r = strOfNums (szN x n)) ∧ r.size = n ∧
    Hid (∀ w, Calls Try.prog 74 #[.int .i64 x, .int .i64 n] w fun e w' => e = .returned (.string r) ∧ Below w.heap.size w w') :=
  ⟨_, rfl, by rw [nums_size, szN_len], fun w => l10Size_any x n w h0 hx hn⟩
theorem l10Text_o (s : ByteArray) (n : Nat) (hs : s.size ≤ 281474976710656) (hn : n ≤ 8) : ∃ r : ByteArray, Hid (r = strOfNums (tN s n)) ∧ r.size = n + s.size ∧
    Hid (∀ w, Calls Try.prog 75 #[.string s, .int .i64 n] w fun e w' => e = .returned (.string r) ∧ Below w.heap.size w w') :=
  ⟨_, rfl, by rw [nums_size, tN_len], fun w => l10Text_any s n w hs hn⟩
/-- the five cells of a step. -/
structure Bx5 (w : World) (B : Nat) (x : T5) (uc ur : Value) : Prop where
  c0 : w.cell? ⟨B, 0, none⟩ = some (.int .i64 x.k)
  c1 : w.cell? ⟨B, 1, none⟩ = some (.string x.s)
  c2 : w.cell? ⟨B, 2, none⟩ = some uc
  c3 : w.cell? ⟨B, 3, none⟩ = some (.string x.q)
  c4 : w.cell? ⟨B, 4, none⟩ = some ur
theorem Bx5.keep {w w' : World} {B : Nat} {x : T5} {uc ur : Value} (h : Bx5 w B x uc ur) (hlt : B < w.heap.size) (hb : Below w.heap.size w w') : Bx5 w' B x uc ur :=
  ⟨(hb.cell (p := ⟨B, _, none⟩) hlt).trans h.c0, (hb.cell (p := ⟨B, _, none⟩) hlt).trans h.c1, (hb.cell (p := ⟨B, _, none⟩) hlt).trans h.c2, (hb.cell (p := ⟨B, _, none⟩) hlt).trans h.c3, (hb.cell (p := ⟨B, _, none⟩) hlt).trans h.c4⟩
/-- the change's cell of a step, and a relation's three cells. -/
structure Bxr (w : World) (B : Nat) (ur : Value) (b q : Nat) (s : ByteArray) (W : Int) (v : Value) : Prop where
  c4 : w.cell? ⟨B, 4, none⟩ = some ur
  d0 : w.cell? ⟨b, q, none⟩ = some (.string s)
  d1 : w.cell? ⟨b, q + 1, none⟩ = some (.int .i64 W)
  d2 : w.cell? ⟨b, q + 2, none⟩ = some v
theorem Bxr.keep {w w' : World} {B b q : Nat} {ur v : Value} {s : ByteArray} {W : Int} (h : Bxr w B ur b q s W v) (hlt : B < w.heap.size) (hl2 : b < w.heap.size) (hb : Below w.heap.size w w') : Bxr w' B ur b q s W v :=
  ⟨(hb.cell (p := ⟨B, _, none⟩) hlt).trans h.c4, (hb.cell (p := ⟨b, _, none⟩) hl2).trans h.d0, (hb.cell (p := ⟨b, _, none⟩) hl2).trans h.d1, (hb.cell (p := ⟨b, _, none⟩) hl2).trans h.d2⟩
theorem spT_no {x : T5} (h : okStep x = false) : putT x = ⟨#[]⟩ := by simp [putT, h]
theorem spT_yes {x : T5} (h : okStep x = true) : putT x = strOfNums (stepL x) := by simp [putT, h]
set_option maxHeartbeats 4000000 in
set_option maxRecDepth 100000 in
theorem specPutStep_any (x : T5) (uc ur : Value) (w : World) (hw : x.wf) (hr : StpIs w uc ur x) :
    Calls Try.prog 29 #[(.agg #[.int .i64 x.k, .string x.s, uc, .string x.q, ur])] w fun e w' => e = .returned (.string (putT x)) ∧ Below w.heap.size w w' := by
  obtain ⟨⟨ac, cc, rfl, _, hcm⟩, ar, cr, rfl, _, hrm⟩ := hr.shape
  obtain ⟨bo, HO⟩ : ∃ b, Hid (okStep x = b) := ⟨_, rfl⟩
  unfold maxLen at hcm hrm
  go_enter Try.func29, Try.ntmps29
  go_wp2_with fail
  refine Calls.mono (specStepOk_any x (.slice ac x.cs.length cc) (.slice ar x.rs.length cr) _ hw (hr.below ?hb)) ?_
  case hb => repeat (first | (with_reducible exact Below.refl _ _) | (with_reducible refine Below.drew ?_) | (with_reducible refine Below.alloc ?_ ?hh _; case hh => first | (simp; done) | (simp; omega) | omega) | (with_reducible refine Below.setCell ?_ ?hh _; case hh => first | (simp; done) | (simp; omega) | omega) | refine bstep (by assumption) (by first | (simp; done) | (simp; omega) | omega) ?_)
  rw [HO.out]
  rintro e w1 ⟨rfl, hb1⟩
  have hz1 := hb1.size
  simp only [World.size_alloc] at hz1
  have b0 : w1.cell? ⟨w.heap.size, 0, none⟩ = some (.int .i64 x.k) := cell_later hb1 (by go_simp)
  have b1 : w1.cell? ⟨w.heap.size, 1, none⟩ = some (.string x.s) := cell_later hb1 (by go_simp)
  have b2 : w1.cell? ⟨w.heap.size, 2, none⟩ = some (.slice ac x.cs.length cc) := cell_later hb1 (by go_simp)
  have b3 : w1.cell? ⟨w.heap.size, 3, none⟩ = some (.string x.q) := cell_later hb1 (by go_simp)
  have b4 : w1.cell? ⟨w.heap.size, 4, none⟩ = some (.slice ar x.rs.length cr) := cell_later hb1 (by go_simp)
  have bel1 : Below w.heap.size w w1 := by repeat (first | (with_reducible exact Below.refl _ _) | (with_reducible refine Below.drew ?_) | (with_reducible refine Below.alloc ?_ ?hh _; case hh => first | (simp; done) | (simp; omega) | omega) | (with_reducible refine Below.setCell ?_ ?hh _; case hh => first | (simp; done) | (simp; omega) | omega) | refine bstep (by assumption) (by first | (simp; done) | (simp; omega) | omega) ?_)
  clear hb1
  have hN : w.heap.size < w1.heap.size := by omega
  cases bo with
  | false =>
    have HT : Hid (putT x = ⟨#[]⟩) := spT_no HO.out
    go_wp2_with fail
    go_returns
    exact ⟨by rw [HT.out]; rfl, bel1⟩
  | true =>
  have HT : Hid (putT x = strOfNums (stepL x)) := spT_yes HO.out
  have hB := okStep_bnd HO.out
  have hbs := hB.s
  have hbq := hB.q
  have hcl := hB.cl
  have hrl := hB.rl
  obtain ⟨⟨gs, hS⟩, hR⟩ := hr
  obtain ⟨r1, E1, z1, C1⟩ := l10Size_o x.k 1 hB.k0 (by have := hB.k3; omega) (by omega)
  obtain ⟨r2, E2, z2, C2⟩ := l10Text_o x.s 2 (by omega) (by omega)
  obtain ⟨r3, E3, z3, C3⟩ := l10Size_o x.cs.length 1 (by omega) (by omega) (by omega)
  have HD : Hid (r1 ++ r2 ++ r3 = strOfNums (hdL x)) := by
    show r1 ++ r2 ++ r3 = _
    rw [E1.out, E2.out, E3.out, ← nums_app, ← nums_app]; rfl
  have hs1 : (r1.size : Int) ≤ 10 := by omega
  have hs2 : (r2.size : Int) ≤ 20 := by omega
  have hs3 : (r3.size : Int) ≤ 10 := by omega
  clear z1 z2 z3 E1 E2 E3
  have hB5 : Bx5 w1 w.heap.size x (.slice ac x.cs.length cc) (.slice ar x.rs.length cr) := ⟨b0, b1, b2, b3, b4⟩
  go_wp2_with fail
  refine wp_region_held_drew (S := (fun w' => Bx5 w' w.heap.size x (.slice ac x.cs.length cc) (.slice ar x.rs.length cr))) (by kernel_rfl) ?_ (fun hHeld => ?_)
  · exact hB5.keep hN (by repeat (first | (with_reducible exact Below.refl _ _) | (with_reducible refine Below.drew ?_) | (with_reducible refine Below.alloc ?_ ?hh _; case hh => first | (simp; done) | (simp; omega) | omega) | (with_reducible refine Below.setCell ?_ ?hh _; case hh => first | (simp; done) | (simp; omega) | omega) | refine bstep (by assumption) (by first | (simp; done) | (simp; omega) | omega) ?_))
  refine takeYes (i := 0) (d := 9) (v := ?_) rfl rfl (by kernel_rfl) (by kernel_rfl) (by kernel_rfl) (fun _ _ _ h => h) (by rfl) (by assumption) ?_ ?_
  rotate_left
  · intro w' hSw; obtain ⟨x0, x1, x2, x3, x4⟩ := hSw; go_simp; (try rw [if_neg (by omega)]); try exact rfl
  try simp only [List.setIfInBounds_toArray, List.set_cons_zero, List.set_cons_succ]
  refine takeYes (i := 1) (d := 10) (v := ?_) rfl rfl (by kernel_rfl) (by kernel_rfl) (by kernel_rfl) (fun _ _ _ h => h) (by rfl) (by assumption) ?_ ?_
  rotate_left
  · intro w' hSw; obtain ⟨x0, x1, x2, x3, x4⟩ := hSw; go_simp; (try rw [if_neg (by omega)]); try exact rfl
  try simp only [List.setIfInBounds_toArray, List.set_cons_zero, List.set_cons_succ]
  refine takeYes (i := 3) (d := 12) (v := ?_) rfl rfl (by kernel_rfl) (by kernel_rfl) (by kernel_rfl) (fun _ _ _ h => h) (by rfl) (by assumption) ?_ ?_
  rotate_left
  · intro w' hSw; obtain ⟨x0, x1, x2, x3, x4⟩ := hSw; go_simp; (try rw [if_neg (by omega)]); try exact rfl
  try simp only [List.setIfInBounds_toArray, List.set_cons_zero, List.set_cons_succ]
  refine takeYes (i := 4) (d := 13) (v := ?_) rfl rfl (by kernel_rfl) (by kernel_rfl) (by kernel_rfl) (fun _ _ _ h => h) (by rfl) (by assumption) ?_ ?_
  rotate_left
  · intro w' hSw; obtain ⟨x0, x1, x2, x3, x4⟩ := hSw; go_simp; (try rw [if_neg (by omega)]); try exact rfl
  try simp only [List.setIfInBounds_toArray, List.set_cons_zero, List.set_cons_succ]
  refine takeYes (i := 7) (d := 16) (v := ?_) rfl rfl (by kernel_rfl) (by kernel_rfl) (by kernel_rfl) (fun _ _ _ h => h) (by rfl) (by assumption) ?_ ?_
  rotate_left
  · intro w' hSw; obtain ⟨x0, x1, x2, x3, x4⟩ := hSw; go_simp; (try rw [if_neg (by omega)]); try exact rfl
  try simp only [List.setIfInBounds_toArray, List.set_cons_zero, List.set_cons_succ]
  refine takeYes (i := 8) (d := 17) (v := ?_) rfl rfl (by kernel_rfl) (by kernel_rfl) (by kernel_rfl) (fun _ _ _ h => h) (by rfl) (by assumption) ?_ ?_
  rotate_left
  · intro w' hSw; obtain ⟨x0, x1, x2, x3, x4⟩ := hSw; go_simp; (try rw [if_neg (by omega)]); try exact rfl
  try simp only [List.setIfInBounds_toArray, List.set_cons_zero, List.set_cons_succ]
  refine takeYes (i := 9) (d := 18) (v := ?_) rfl rfl (by kernel_rfl) (by kernel_rfl) (by kernel_rfl) (fun _ _ _ h => h) (by rfl) (by assumption) ?_ ?_
  rotate_left
  · intro w' hSw; obtain ⟨x0, x1, x2, x3, x4⟩ := hSw; go_simp; (try rw [if_neg (by omega)]); try exact rfl
  try simp only [List.setIfInBounds_toArray, List.set_cons_zero, List.set_cons_succ]
  refine wpAnyH_ready (rs := [2]) (by kernel_rfl) (by simp) ?_
  refine AllReadyH.cons rfl (fun K hK => ?_) AllReadyH.nil
  go_simp
  go_at_call 74
  refine Calls.mono (C1.out _) ?_
  rintro e w2 ⟨rfl, hbw2⟩
  have hzw2 := hbw2.size
  (try simp at hzw2)
  try go_wp2_with fail
  refine hK.out _ _ ?_ (fun hHeld2 => ?_)
  · exact hB5.keep hN (by repeat (first | (with_reducible exact Below.refl _ _) | (with_reducible refine Below.drew ?_) | (with_reducible refine Below.alloc ?_ ?hh _; case hh => first | (simp; done) | (simp; omega) | omega) | (with_reducible refine Below.setCell ?_ ?hh _; case hh => first | (simp; done) | (simp; omega) | omega) | refine bstep (by assumption) (by first | (simp; done) | (simp; omega) | omega) ?_))
  clear hK
  refine wpAnyH_ready (rs := [5]) (by kernel_rfl) (by simp) ?_
  refine AllReadyH.cons rfl (fun K hK => ?_) AllReadyH.nil
  go_simp
  go_at_call 75
  refine Calls.mono (C2.out _) ?_
  rintro e w3 ⟨rfl, hbw3⟩
  have hzw3 := hbw3.size
  (try simp at hzw3)
  try go_wp2_with fail
  refine hK.out _ _ ?_ (fun hHeld5 => ?_)
  · exact hB5.keep hN (by repeat (first | (with_reducible exact Below.refl _ _) | (with_reducible refine Below.drew ?_) | (with_reducible refine Below.alloc ?_ ?hh _; case hh => first | (simp; done) | (simp; omega) | omega) | (with_reducible refine Below.setCell ?_ ?hh _; case hh => first | (simp; done) | (simp; omega) | omega) | refine bstep (by assumption) (by first | (simp; done) | (simp; omega) | omega) ?_))
  clear hK
  refine takeYes (i := 6) (d := 15) (v := ?_) rfl rfl (by kernel_rfl) (by kernel_rfl) (by kernel_rfl) (fun _ _ _ h => h) (by rfl) (by assumption) ?_ ?_
  rotate_left
  · intro w' hSw; obtain ⟨x0, x1, x2, x3, x4⟩ := hSw; go_simp; (try rw [if_neg (by omega)]); try exact rfl
  try simp only [List.setIfInBounds_toArray, List.set_cons_zero, List.set_cons_succ]
  refine wpAnyH_ready (rs := [10]) (by kernel_rfl) (by simp) ?_
  refine AllReadyH.cons rfl (fun K hK => ?_) AllReadyH.nil
  go_simp
  go_at_call 74
  refine Calls.mono (C3.out _) ?_
  rintro e w4 ⟨rfl, hbw4⟩
  have hzw4 := hbw4.size
  (try simp at hzw4)
  try go_wp2_with fail
  refine hK.out _ _ ?_ (fun hHeld10 => ?_)
  · exact hB5.keep hN (by repeat (first | (with_reducible exact Below.refl _ _) | (with_reducible refine Below.drew ?_) | (with_reducible refine Below.alloc ?_ ?hh _; case hh => first | (simp; done) | (simp; omega) | omega) | (with_reducible refine Below.setCell ?_ ?hh _; case hh => first | (simp; done) | (simp; omega) | omega) | refine bstep (by assumption) (by first | (simp; done) | (simp; omega) | omega) ?_))
  clear hK
  refine takeYes (i := 11) (d := 20) (v := ?_) rfl rfl (by kernel_rfl) (by kernel_rfl) (by kernel_rfl) (fun _ _ _ h => h) (by rfl) (by assumption) ?_ ?_
  rotate_left
  · intro w' hSw; obtain ⟨x0, x1, x2, x3, x4⟩ := hSw; go_simp; (try rw [if_neg (by omega)]); try exact rfl
  try simp only [List.setIfInBounds_toArray, List.set_cons_zero, List.set_cons_succ]
  refine takeYes (i := 12) (d := 3) (v := ?_) rfl rfl (by kernel_rfl) (by kernel_rfl) (by kernel_rfl) (fun _ _ _ h => h) (by rfl) (by assumption) ?_ ?_
  rotate_left
  · intro w' hSw; obtain ⟨x0, x1, x2, x3, x4⟩ := hSw; go_simp; (try rw [if_neg (by omega)]); try exact rfl
  try simp only [List.setIfInBounds_toArray, List.set_cons_zero, List.set_cons_succ]
  refine wpAnyH_done (by kernel_rfl) ?_ _
  have belW : Below w1.heap.size w1 w4 := by repeat (first | (with_reducible exact Below.refl _ _) | (with_reducible refine Below.drew ?_) | (with_reducible refine Below.alloc ?_ ?hh _; case hh => first | (simp; done) | (simp; omega) | omega) | (with_reducible refine Below.setCell ?_ ?hh _; case hh => first | (simp; done) | (simp; omega) | omega) | refine bstep (by assumption) (by first | (simp; done) | (simp; omega) | omega) ?_)
  have hsd : ((r1 ++ r2 ++ r3).size : Int) ≤ 40 := by rw [ByteArray.size_append, ByteArray.size_append]; omega
  generalize r1 ++ r2 ++ r3 = rd at HD hsd ⊢
  have HD2 : Hid (rd = strOfNums (hdL x)) := HD.out
  clear HD hbw2 hbw3 hbw4 hHeld hHeld2 hHeld5 hHeld10 C1 C2 C3 b0 b1 b2 b3 b4
  go_wp2_with fail
  go_loopw [3, 4] (fun a i wr => ∃ (k : Nat) (r : ByteArray), k ≤ x.cs.length ∧ i = .int .i64 k ∧ a = .string r ∧ Hid (r = strOfNums (hdL x ++ csL (x.cs.take k))) ∧ Below w1.heap.size w1 wr) (fun _ i _ => x.cs.length - (intOf i).toNat)
  case atStart => exact ⟨0, rd, Nat.zero_le _, rfl, rfl, by simpa [Hid, csL] using HD2.out, belW⟩
  case round =>
    clear belW HD2 hsd
    obtain ⟨k, r, hk, rfl, rfl, HR, hbN⟩ := hrel
    have hbw := bel1.trans (hbN.mono bel1.size)
    have hNr : w.heap.size < wr.heap.size := Nat.lt_of_lt_of_le hN hbN.size
    have hln := hc_len hB k
    have hrs : (r.size : Int) ≤ 158 := by rw [HR.out, nums_size]; omega
    have hB5r := hB5.keep hN hbN
    obtain ⟨c0, c1, c2, c3, c4⟩ := hB5.keep hN hbN
    by_cases hlt : k < x.cs.length
    · obtain ⟨a0, e0', b, o, e0, hl, hc, _, ha⟩ := hS.pick
      obtain ⟨rfl, rfl⟩ : ac = a0 ∧ cc = e0' := by simpa using e0
      obtain ⟨rfl, hblt, _, hcell⟩ := ha k hlt
      have hx : x.cs[k]? = some x.cs[k] := by simp
      have d0 := (hbw.cell (p := ⟨b, o + k, none⟩) hblt).trans (hcell k _ hx)
      have hms := hB.c _ (List.getElem_mem hlt)
      have HX : Hid (csL (x.cs.take (k + 1)) = csL (x.cs.take k) ++ tN x.cs[k] 2) := csL_take hx
      generalize x.cs[k] = m at d0 hms HX
      obtain ⟨r4, E4, z4, C4⟩ := l10Text_o m 2 (by omega) (by omega)
      have hs4 : (r4.size : Int) ≤ 20 := by omega
      have hbr : b < wr.heap.size := by have := hbw.size; omega
      clear hcell hx ha e0 z4 hB5r
      go_wp2_with fail
      refine Calls.mono (C4.out _) ?_
      rintro e w5 ⟨rfl, hb5⟩
      go_wp2_with fail
      refine ⟨⟨k + 1, r ++ r4, hlt, by simp, rfl, ?_, hbN.trans (hb5.mono hbN.size)⟩, by simp [intOf]; omega⟩
      show r ++ r4 = _
      rw [HX.out, HR.out, E4.out, ← List.append_assoc, ← nums_app]
    · obtain rfl : k = x.cs.length := by omega
      rw [List.take_length] at HR
      obtain ⟨r5, E5, z5, C5⟩ := l10Text_o x.q 2 (by omega) (by omega)
      obtain ⟨r6, E6, z6, C6⟩ := l10Size_o x.rs.length 1 (by omega) (by omega) (by omega)
      have HM : Hid (r ++ r5 ++ r6 = strOfNums (mdL x)) := by
        show r ++ r5 ++ r6 = _
        rw [HR.out, E5.out, E6.out, ← nums_app, ← nums_app]; rfl
      have hs5 : (r5.size : Int) ≤ 1010 := by omega
      have hs6 : (r6.size : Int) ≤ 10 := by omega
      clear z5 z6 E5 E6 HR c0 c1 c3 c4
      go_wp2_with fail
      clear c2
      refine wp_region_held_drew (S := (fun w' => Bx5 w' w.heap.size x (.slice ac x.cs.length cc) (.slice ar x.rs.length cr))) (by kernel_rfl) ?_ (fun hHeld => ?_)
      · exact hB5r.keep hNr (by repeat (first | (with_reducible exact Below.refl _ _) | (with_reducible refine Below.drew ?_) | (with_reducible refine Below.alloc ?_ ?hh _; case hh => first | (simp; done) | (simp; omega) | omega) | (with_reducible refine Below.setCell ?_ ?hh _; case hh => first | (simp; done) | (simp; omega) | omega) | refine bstep (by assumption) (by first | (simp; done) | (simp; omega) | omega) ?_))
      refine takeYes (i := 0) (d := 36) (v := ?_) rfl rfl (by kernel_rfl) (by kernel_rfl) (by kernel_rfl) (fun _ _ _ h => h) (by rfl) (by assumption) ?_ ?_
      rotate_left
      · intro w' hSw; obtain ⟨x0, x1, x2, x3, x4⟩ := hSw; go_simp; (try rw [if_neg (by omega)]); try exact rfl
      try simp only [List.setIfInBounds_toArray, List.set_cons_zero, List.set_cons_succ]
      refine takeYes (i := 1) (d := 37) (v := ?_) rfl rfl (by kernel_rfl) (by kernel_rfl) (by kernel_rfl) (fun _ _ _ h => h) (by rfl) (by assumption) ?_ ?_
      rotate_left
      · intro w' hSw; obtain ⟨x0, x1, x2, x3, x4⟩ := hSw; go_simp; (try rw [if_neg (by omega)]); try exact rfl
      try simp only [List.setIfInBounds_toArray, List.set_cons_zero, List.set_cons_succ]
      refine takeYes (i := 2) (d := 38) (v := ?_) rfl rfl (by kernel_rfl) (by kernel_rfl) (by kernel_rfl) (fun _ _ _ h => h) (by rfl) (by assumption) ?_ ?_
      rotate_left
      · intro w' hSw; obtain ⟨x0, x1, x2, x3, x4⟩ := hSw; go_simp; (try rw [if_neg (by omega)]); try exact rfl
      try simp only [List.setIfInBounds_toArray, List.set_cons_zero, List.set_cons_succ]
      refine takeYes (i := 5) (d := 41) (v := ?_) rfl rfl (by kernel_rfl) (by kernel_rfl) (by kernel_rfl) (fun _ _ _ h => h) (by rfl) (by assumption) ?_ ?_
      rotate_left
      · intro w' hSw; obtain ⟨x0, x1, x2, x3, x4⟩ := hSw; go_simp; (try rw [if_neg (by omega)]); try exact rfl
      try simp only [List.setIfInBounds_toArray, List.set_cons_zero, List.set_cons_succ]
      refine takeYes (i := 6) (d := 42) (v := ?_) rfl rfl (by kernel_rfl) (by kernel_rfl) (by kernel_rfl) (fun _ _ _ h => h) (by rfl) (by assumption) ?_ ?_
      rotate_left
      · intro w' hSw; obtain ⟨x0, x1, x2, x3, x4⟩ := hSw; go_simp; (try rw [if_neg (by omega)]); try exact rfl
      try simp only [List.setIfInBounds_toArray, List.set_cons_zero, List.set_cons_succ]
      refine takeYes (i := 7) (d := 43) (v := ?_) rfl rfl (by kernel_rfl) (by kernel_rfl) (by kernel_rfl) (fun _ _ _ h => h) (by rfl) (by assumption) ?_ ?_
      rotate_left
      · intro w' hSw; obtain ⟨x0, x1, x2, x3, x4⟩ := hSw; go_simp; (try rw [if_neg (by omega)]); try exact rfl
      try simp only [List.setIfInBounds_toArray, List.set_cons_zero, List.set_cons_succ]
      refine wpAnyH_ready (rs := [3]) (by kernel_rfl) (by simp) ?_
      refine AllReadyH.cons rfl (fun K hK => ?_) AllReadyH.nil
      go_simp
      go_at_call 75
      refine Calls.mono (C5.out _) ?_
      rintro e w5 ⟨rfl, hbw5⟩
      have hzw5 := hbw5.size
      (try simp at hzw5)
      try go_wp2_with fail
      refine hK.out _ _ ?_ (fun hHeld3 => ?_)
      · exact hB5r.keep hNr (by repeat (first | (with_reducible exact Below.refl _ _) | (with_reducible refine Below.drew ?_) | (with_reducible refine Below.alloc ?_ ?hh _; case hh => first | (simp; done) | (simp; omega) | omega) | (with_reducible refine Below.setCell ?_ ?hh _; case hh => first | (simp; done) | (simp; omega) | omega) | refine bstep (by assumption) (by first | (simp; done) | (simp; omega) | omega) ?_))
      clear hK
      refine takeYes (i := 4) (d := 40) (v := ?_) rfl rfl (by kernel_rfl) (by kernel_rfl) (by kernel_rfl) (fun _ _ _ h => h) (by rfl) (by assumption) ?_ ?_
      rotate_left
      · intro w' hSw; obtain ⟨x0, x1, x2, x3, x4⟩ := hSw; go_simp; (try rw [if_neg (by omega)]); try exact rfl
      try simp only [List.setIfInBounds_toArray, List.set_cons_zero, List.set_cons_succ]
      refine wpAnyH_ready (rs := [8]) (by kernel_rfl) (by simp) ?_
      refine AllReadyH.cons rfl (fun K hK => ?_) AllReadyH.nil
      go_simp
      go_at_call 74
      refine Calls.mono (C6.out _) ?_
      rintro e w6 ⟨rfl, hbw6⟩
      have hzw6 := hbw6.size
      (try simp at hzw6)
      try go_wp2_with fail
      refine hK.out _ _ ?_ (fun hHeld8 => ?_)
      · exact hB5r.keep hNr (by repeat (first | (with_reducible exact Below.refl _ _) | (with_reducible refine Below.drew ?_) | (with_reducible refine Below.alloc ?_ ?hh _; case hh => first | (simp; done) | (simp; omega) | omega) | (with_reducible refine Below.setCell ?_ ?hh _; case hh => first | (simp; done) | (simp; omega) | omega) | refine bstep (by assumption) (by first | (simp; done) | (simp; omega) | omega) ?_))
      clear hK
      refine takeYes (i := 9) (d := 45) (v := ?_) rfl rfl (by kernel_rfl) (by kernel_rfl) (by kernel_rfl) (fun _ _ _ h => h) (by rfl) (by assumption) ?_ ?_
      rotate_left
      · intro w' hSw; obtain ⟨x0, x1, x2, x3, x4⟩ := hSw; go_simp; (try rw [if_neg (by omega)]); try exact rfl
      try simp only [List.setIfInBounds_toArray, List.set_cons_zero, List.set_cons_succ]
      refine takeYes (i := 10) (d := 3) (v := ?_) rfl rfl (by kernel_rfl) (by kernel_rfl) (by kernel_rfl) (fun _ _ _ h => h) (by rfl) (by assumption) ?_ ?_
      rotate_left
      · intro w' hSw; obtain ⟨x0, x1, x2, x3, x4⟩ := hSw; go_simp; (try rw [if_neg (by omega)]); try exact rfl
      try simp only [List.setIfInBounds_toArray, List.set_cons_zero, List.set_cons_succ]
      refine wpAnyH_done (by kernel_rfl) ?_ _
      have belW : Below wr.heap.size wr w6 := by repeat (first | (with_reducible exact Below.refl _ _) | (with_reducible refine Below.drew ?_) | (with_reducible refine Below.alloc ?_ ?hh _; case hh => first | (simp; done) | (simp; omega) | omega) | (with_reducible refine Below.setCell ?_ ?hh _; case hh => first | (simp; done) | (simp; omega) | omega) | refine bstep (by assumption) (by first | (simp; done) | (simp; omega) | omega) ?_)
      have belV : Below w1.heap.size w1 w6 := hbN.trans (belW.mono hbN.size)
      generalize r ++ r5 ++ r6 = rm at HM ⊢
      have HM2 : Hid (rm = strOfNums (mdL x)) := HM.out
      clear HM hbw5 hbw6 hHeld hHeld3 hHeld8 C5 C6 belW hbN hB5r hNr
      go_wp2_with fail
      go_loopw [3, 5] (fun a i wr => ∃ (k : Nat) (r : ByteArray), k ≤ x.rs.length ∧ i = .int .i64 k ∧ a = .string r ∧ Hid (r = strOfNums (mdL x ++ rlsL (x.rs.take k))) ∧ Below w1.heap.size w1 wr) (fun _ i _ => x.rs.length - (intOf i).toNat)
      case atStart => exact ⟨0, rm, Nat.zero_le _, rfl, rfl, by simpa [Hid, rlsL] using HM2.out, belV⟩
      case round =>
        clear belV HM2 hbw hrs hln
        obtain ⟨k, r, hk, rfl, rfl, HR, hbN⟩ := hrel
        have hbw := bel1.trans (hbN.mono bel1.size)
        have hNr : w.heap.size < wr.heap.size := Nat.lt_of_lt_of_le hN hbN.size
        have hln := md_len hB k
        have hrs : (r.size : Int) ≤ 10000000 := by rw [HR.out, nums_size]; omega
        obtain ⟨c0, c1, c2, c3, c4⟩ := hB5.keep hN hbN
        by_cases hlt : k < x.rs.length
        · obtain ⟨a0, e0', b, o, e0, hl, hc, ha⟩ := hR.pick
          obtain ⟨rfl, rfl⟩ : ar = a0 ∧ cr = e0' := by simpa using e0
          obtain ⟨rfl, hblt, hL⟩ := ha k hlt
          have hx : x.rs[k]? = some x.rs[k] := by simp
          obtain ⟨v, q0, q1, q2, hRw⟩ := hL k x.rs[k] hx
          obtain ⟨av, lv, cv, rfl⟩ := hRw.shape
          have hBr : Bxr wr w.heap.size (.slice (some ⟨b, o, none⟩) x.rs.length cr) b (o + k * 3) x.rs[k].s x.rs[k].W (.slice av lv cv) := ⟨c4, (hbw.cell (p := ⟨b, _, none⟩) hblt).trans q0, (hbw.cell (p := ⟨b, _, none⟩) hblt).trans q1, (hbw.cell (p := ⟨b, _, none⟩) hblt).trans q2⟩
          have hms := hB.r _ (List.getElem_mem hlt)
          obtain ⟨_, _, hmw⟩ := hw.2.2.2.2 _ (List.getElem_mem hlt)
          have HX : Hid (rlsL (x.rs.take (k + 1)) = rlsL (x.rs.take k) ++ rlL x.rs[k]) := rlsL_take hx
          generalize x.rs[k] = m at hBr hms HX hRw hmw
          have hps := putB_size m.W m.cs
          have hRr := hRw.below hbw
          obtain ⟨r7, E7, z7, C7⟩ := l10Text_o m.s 2 (by omega) (by omega)
          obtain ⟨r8, E8, z8, C8⟩ := l10Text_o (putB m.W m.cs) 4 (by omega) (by omega)
          have hs7 : (r7.size : Int) ≤ 20 := by omega
          have hs8 : (r8.size : Int) ≤ 493210 := by omega
          have hbr : b < wr.heap.size := by have := hbw.size; omega
          have hk0 : (0 : Int) ≤ k := by omega
          have hk1 : (k : Int) < x.rs.length := by omega
          have HRr : Hid (r ++ r7 ++ r8 = strOfNums (mdL x ++ rlsL (x.rs.take (k + 1)))) := by
            show r ++ r7 ++ r8 = _
            rw [HX.out, HR.out, E7.out, E8.out, ← nums_app, ← nums_app]; congr 1; simp [rlL]
          clear hx ha e0 z7 z8 q0 q1 q2 hL c0 c1 c2 c3 HR HX E7 E8 hRw
          go_wp2_with fail
          clear c4
          refine wp_region_held_drew (S := (fun w' => Bxr w' w.heap.size (.slice (some ⟨b, o, none⟩) x.rs.length cr) b (o + k * 3) m.s m.W (.slice av lv cv))) (by kernel_rfl) ?_ (fun hHeld => ?_)
          · exact hBr.keep hNr hbr (by repeat (first | (with_reducible exact Below.refl _ _) | (with_reducible refine Below.drew ?_) | (with_reducible refine Below.alloc ?_ ?hh _; case hh => first | (simp; done) | (simp; omega) | omega) | (with_reducible refine Below.setCell ?_ ?hh _; case hh => first | (simp; done) | (simp; omega) | omega) | refine bstep (by assumption) (by first | (simp; done) | (simp; omega) | omega) ?_))
          refine takeYes (i := 0) (d := 53) (v := ?_) rfl rfl (by kernel_rfl) (by kernel_rfl) (by kernel_rfl) (fun _ _ _ h => h) (by rfl) (by assumption) ?_ ?_
          rotate_left
          · intro w' hSw; obtain ⟨x0, x1, x2, x3⟩ := hSw; go_simp; (try rw [if_neg (by omega)]); try exact rfl
          try simp only [List.setIfInBounds_toArray, List.set_cons_zero, List.set_cons_succ]
          refine takeYes (i := 1) (d := 54) (v := ?_) rfl rfl (by kernel_rfl) (by kernel_rfl) (by kernel_rfl) (fun _ _ _ h => h) (by rfl) (by assumption) ?_ ?_
          rotate_left
          · intro w' hSw; obtain ⟨x0, x1, x2, x3⟩ := hSw; go_simp; (try rw [if_neg (by omega)]); try exact rfl
          try simp only [List.setIfInBounds_toArray, List.set_cons_zero, List.set_cons_succ]
          refine takeYes (i := 2) (d := 55) (v := ?_) rfl rfl (by kernel_rfl) (by kernel_rfl) (by kernel_rfl) (fun _ _ _ h => h) (by rfl) (by assumption) ?_ ?_
          rotate_left
          · intro w' hSw; obtain ⟨x0, x1, x2, x3⟩ := hSw; go_simp; (try rw [if_neg (by omega)]); try exact rfl
          try simp only [List.setIfInBounds_toArray, List.set_cons_zero, List.set_cons_succ]
          refine takeYes (i := 3) (d := 56) (v := ?_) rfl rfl (by kernel_rfl) (by kernel_rfl) (by kernel_rfl) (fun _ _ _ h => h) (by rfl) (by assumption) ?_ ?_
          rotate_left
          · intro w' hSw; obtain ⟨x0, x1, x2, x3⟩ := hSw; go_simp; (try rw [if_neg (by omega)]); try exact rfl
          try simp only [List.setIfInBounds_toArray, List.set_cons_zero, List.set_cons_succ]
          refine takeYes (i := 4) (d := 57) (v := ?_) rfl rfl (by kernel_rfl) (by kernel_rfl) (by kernel_rfl) (fun _ _ _ h => h) (by rfl) (by assumption) ?_ ?_
          rotate_left
          · intro w' hSw; obtain ⟨x0, x1, x2, x3⟩ := hSw; go_simp; (try rw [if_neg (by omega)]); try exact rfl
          try simp only [List.setIfInBounds_toArray, List.set_cons_zero, List.set_cons_succ]
          refine takeYes (i := 5) (d := 58) (v := ?_) rfl rfl (by kernel_rfl) (by kernel_rfl) (by kernel_rfl) (fun _ _ _ h => h) (by rfl) (by assumption) ?_ ?_
          rotate_left
          · intro w' hSw; obtain ⟨x0, x1, x2, x3⟩ := hSw; go_simp; (try rw [if_neg (by omega)]); try exact rfl
          try simp only [List.setIfInBounds_toArray, List.set_cons_zero, List.set_cons_succ]
          refine takeYes (i := 6) (d := 59) (v := ?_) rfl rfl (by kernel_rfl) (by kernel_rfl) (by kernel_rfl) (fun _ _ _ h => h) (by rfl) (by assumption) ?_ ?_
          rotate_left
          · intro w' hSw; obtain ⟨x0, x1, x2, x3⟩ := hSw; go_simp; (try rw [if_neg (by omega)]); try exact rfl
          try simp only [List.setIfInBounds_toArray, List.set_cons_zero, List.set_cons_succ]
          refine takeYes (i := 9) (d := 62) (v := ?_) rfl rfl (by kernel_rfl) (by kernel_rfl) (by kernel_rfl) (fun _ _ _ h => h) (by rfl) (by assumption) ?_ ?_
          rotate_left
          · intro w' hSw; obtain ⟨x0, x1, x2, x3⟩ := hSw; go_simp; (try rw [if_neg (by omega)]); try exact rfl
          try simp only [List.setIfInBounds_toArray, List.set_cons_zero, List.set_cons_succ]
          refine takeYes (i := 10) (d := 63) (v := ?_) rfl rfl (by kernel_rfl) (by kernel_rfl) (by kernel_rfl) (fun _ _ _ h => h) (by rfl) (by assumption) ?_ ?_
          rotate_left
          · intro w' hSw; obtain ⟨x0, x1, x2, x3⟩ := hSw; go_simp; (try rw [if_neg (by omega)]); try exact rfl
          try simp only [List.setIfInBounds_toArray, List.set_cons_zero, List.set_cons_succ]
          refine takeYes (i := 11) (d := 64) (v := ?_) rfl rfl (by kernel_rfl) (by kernel_rfl) (by kernel_rfl) (fun _ _ _ h => h) (by rfl) (by assumption) ?_ ?_
          rotate_left
          · intro w' hSw; obtain ⟨x0, x1, x2, x3⟩ := hSw; go_simp; (try rw [if_neg (by omega)]); try exact rfl
          try simp only [List.setIfInBounds_toArray, List.set_cons_zero, List.set_cons_succ]
          refine takeYes (i := 12) (d := 65) (v := ?_) rfl rfl (by kernel_rfl) (by kernel_rfl) (by kernel_rfl) (fun _ _ _ h => h) (by rfl) (by assumption) ?_ ?_
          rotate_left
          · intro w' hSw; obtain ⟨x0, x1, x2, x3⟩ := hSw; go_simp; (try rw [if_neg (by omega)]); try exact rfl
          try simp only [List.setIfInBounds_toArray, List.set_cons_zero, List.set_cons_succ]
          refine takeYes (i := 13) (d := 66) (v := ?_) rfl rfl (by kernel_rfl) (by kernel_rfl) (by kernel_rfl) (fun _ _ _ h => h) (by rfl) (by assumption) ?_ ?_
          rotate_left
          · intro w' hSw; obtain ⟨x0, x1, x2, x3⟩ := hSw; go_simp; (try rw [if_neg (by omega)]); try exact rfl
          try simp only [List.setIfInBounds_toArray, List.set_cons_zero, List.set_cons_succ]
          refine takeYes (i := 14) (d := 67) (v := ?_) rfl rfl (by kernel_rfl) (by kernel_rfl) (by kernel_rfl) (fun _ _ _ h => h) (by rfl) (by assumption) ?_ ?_
          rotate_left
          · intro w' hSw; obtain ⟨x0, x1, x2, x3⟩ := hSw; go_simp; (try rw [if_neg (by omega)]); try exact rfl
          try simp only [List.setIfInBounds_toArray, List.set_cons_zero, List.set_cons_succ]
          refine wpAnyH_ready (rs := [7]) (by kernel_rfl) (by simp) ?_
          refine AllReadyH.cons rfl (fun K hK => ?_) AllReadyH.nil
          go_simp
          go_at_call 75
          refine Calls.mono (C7.out _) ?_
          rintro e w5 ⟨rfl, hbw5⟩
          have hzw5 := hbw5.size
          (try simp at hzw5)
          try go_wp2_with fail
          refine hK.out _ _ ?_ (fun hHeld7 => ?_)
          · exact hBr.keep hNr hbr (by repeat (first | (with_reducible exact Below.refl _ _) | (with_reducible refine Below.drew ?_) | (with_reducible refine Below.alloc ?_ ?hh _; case hh => first | (simp; done) | (simp; omega) | omega) | (with_reducible refine Below.setCell ?_ ?hh _; case hh => first | (simp; done) | (simp; omega) | omega) | refine bstep (by assumption) (by first | (simp; done) | (simp; omega) | omega) ?_))
          clear hK
          refine takeYes (i := 8) (d := 61) (v := ?_) rfl rfl (by kernel_rfl) (by kernel_rfl) (by kernel_rfl) (fun _ _ _ h => h) (by rfl) (by assumption) ?_ ?_
          rotate_left
          · intro w' hSw; obtain ⟨x0, x1, x2, x3⟩ := hSw; go_simp; (try rw [if_neg (by omega)]); try exact rfl
          try simp only [List.setIfInBounds_toArray, List.set_cons_zero, List.set_cons_succ]
          refine wpAnyH_ready (rs := [15]) (by kernel_rfl) (by simp) ?_
          refine AllReadyH.cons rfl (fun K hK => ?_) AllReadyH.nil
          go_simp
          go_at_call 76
          refine Calls.mono (specPutBag_any m.W (.slice av lv cv) m.cs _ hmw (hRr.below (by repeat (first | (with_reducible exact Below.refl _ _) | (with_reducible refine Below.drew ?_) | (with_reducible refine Below.alloc ?_ ?hh _; case hh => first | (simp; done) | (simp; omega) | omega) | (with_reducible refine Below.setCell ?_ ?hh _; case hh => first | (simp; done) | (simp; omega) | omega) | refine bstep (by assumption) (by first | (simp; done) | (simp; omega) | omega) ?_)))) ?_
          rintro e w6 ⟨rfl, hbw6⟩
          have hzw6 := hbw6.size
          (try simp at hzw6)
          try go_wp2_with fail
          refine hK.out _ _ ?_ (fun hHeld15 => ?_)
          · exact hBr.keep hNr hbr (by repeat (first | (with_reducible exact Below.refl _ _) | (with_reducible refine Below.drew ?_) | (with_reducible refine Below.alloc ?_ ?hh _; case hh => first | (simp; done) | (simp; omega) | omega) | (with_reducible refine Below.setCell ?_ ?hh _; case hh => first | (simp; done) | (simp; omega) | omega) | refine bstep (by assumption) (by first | (simp; done) | (simp; omega) | omega) ?_))
          clear hK
          refine wpAnyH_ready (rs := [16]) (by kernel_rfl) (by simp) ?_
          refine AllReadyH.cons rfl (fun K hK => ?_) AllReadyH.nil
          go_simp
          go_at_call 75
          refine Calls.mono (C8.out _) ?_
          rintro e w7 ⟨rfl, hbw7⟩
          have hzw7 := hbw7.size
          (try simp at hzw7)
          try go_wp2_with fail
          refine hK.out _ _ ?_ (fun hHeld16 => ?_)
          · exact hBr.keep hNr hbr (by repeat (first | (with_reducible exact Below.refl _ _) | (with_reducible refine Below.drew ?_) | (with_reducible refine Below.alloc ?_ ?hh _; case hh => first | (simp; done) | (simp; omega) | omega) | (with_reducible refine Below.setCell ?_ ?hh _; case hh => first | (simp; done) | (simp; omega) | omega) | refine bstep (by assumption) (by first | (simp; done) | (simp; omega) | omega) ?_))
          clear hK
          refine takeYes (i := 17) (d := 70) (v := ?_) rfl rfl (by kernel_rfl) (by kernel_rfl) (by kernel_rfl) (fun _ _ _ h => h) (by rfl) (by assumption) ?_ ?_
          rotate_left
          · intro w' hSw; obtain ⟨x0, x1, x2, x3⟩ := hSw; go_simp; (try rw [if_neg (by omega)]); try exact rfl
          try simp only [List.setIfInBounds_toArray, List.set_cons_zero, List.set_cons_succ]
          refine takeYes (i := 18) (d := 3) (v := ?_) rfl rfl (by kernel_rfl) (by kernel_rfl) (by kernel_rfl) (fun _ _ _ h => h) (by rfl) (by assumption) ?_ ?_
          rotate_left
          · intro w' hSw; obtain ⟨x0, x1, x2, x3⟩ := hSw; go_simp; (try rw [if_neg (by omega)]); try exact rfl
          try simp only [List.setIfInBounds_toArray, List.set_cons_zero, List.set_cons_succ]
          refine wpAnyH_done (by kernel_rfl) ?_ _
          have belW : Below wr.heap.size wr w7 := by repeat (first | (with_reducible exact Below.refl _ _) | (with_reducible refine Below.drew ?_) | (with_reducible refine Below.alloc ?_ ?hh _; case hh => first | (simp; done) | (simp; omega) | omega) | (with_reducible refine Below.setCell ?_ ?hh _; case hh => first | (simp; done) | (simp; omega) | omega) | refine bstep (by assumption) (by first | (simp; done) | (simp; omega) | omega) ?_)
          go_wp2_with fail
          exact ⟨⟨k + 1, r ++ r7 ++ r8, hlt, by simp, rfl, HRr, hbN.trans (belW.mono hbN.size)⟩, by simp [intOf]; omega⟩
        · obtain rfl : k = x.rs.length := by omega
          rw [List.take_length] at HR
          go_wp2_with fail
          go_returns
          exact ⟨by rw [HT.out, show stepL x = mdL x ++ rlsL x.rs from rfl, ← HR.out]; rfl, hbw⟩
end Go.Proofs.Ytdkbhoichmcodaa
/- Own text. The walk: For every argument, whatever memory it lies in, the statement's function on PutStep returns true, and each argument reads afterwards as it read before; no condition. -/
namespace Go.Proofs.Ytdkbhoichmcodaa.fnExactPutStep
open Go.RowKit
set_option linter.unusedVariables false
set_option maxHeartbeats 4000000 in
set_option maxRecDepth 100000 in
theorem walk (x : T5) (uc ur : Value) (hw : x.wf) (w : World) (hr : StpIs w uc ur x) :
    Calls Try.prog 6 #[(.agg #[.int .i64 x.k, .string x.s, uc, .string x.q, ur])] w fun e w' => e = .returned (.bool true) ∧ Below w.heap.size w w' := by
  obtain ⟨⟨ac, cc, rfl, _, _⟩, ar, cr, rfl, _, _⟩ := hr.shape
  obtain ⟨tb, hT⟩ : ∃ tb, Hid (putT x = tb) := ⟨_, rfl⟩
  go_enter Try.func6, Try.ntmps6
  go_wp2_with fail
  refine Calls.mono (szStep_any x (.slice ac x.cs.length cc) (.slice ar x.rs.length cr) 1048576 _ (hr.below ?hb) hw (by decide) (by decide)) ?_
  case hb => repeat (first | (with_reducible exact Below.refl _ _) | (with_reducible refine Below.drew ?_) | (with_reducible refine Below.alloc ?_ ?hh _; case hh => first | (simp; done) | (simp; omega) | omega) | (with_reducible refine Below.setCell ?_ ?hh _; case hh => first | (simp; done) | (simp; omega) | omega) | refine bstep (by assumption) (by first | (simp; done) | (simp; omega) | omega) ?_)
  rintro e w1 ⟨⟨z1, rfl, l1, g1, s1⟩, hb1⟩
  have hz1 := hb1.size
  simp only [World.size_alloc] at hz1
  have b0 : w1.cell? ⟨w.heap.size, 0, none⟩ = some (.int .i64 x.k) := cell_later hb1 (by go_simp)
  have b1 : w1.cell? ⟨w.heap.size, 1, none⟩ = some (.string x.s) := cell_later hb1 (by go_simp)
  have b2 : w1.cell? ⟨w.heap.size, 2, none⟩ = some (.slice ac x.cs.length cc) := cell_later hb1 (by go_simp)
  have b3 : w1.cell? ⟨w.heap.size, 3, none⟩ = some (.string x.q) := cell_later hb1 (by go_simp)
  have b4 : w1.cell? ⟨w.heap.size, 4, none⟩ = some (.slice ar x.rs.length cr) := cell_later hb1 (by go_simp)
  have hr1 := hr.below (show Below w.heap.size w w1 by repeat (first | (with_reducible exact Below.refl _ _) | (with_reducible refine Below.drew ?_) | (with_reducible refine Below.alloc ?_ ?hh _; case hh => first | (simp; done) | (simp; omega) | omega) | (with_reducible refine Below.setCell ?_ ?hh _; case hh => first | (simp; done) | (simp; omega) | omega) | refine bstep (by assumption) (by first | (simp; done) | (simp; omega) | omega) ?_))
  have bel1 : Below w.heap.size w w1 := by repeat (first | (with_reducible exact Below.refl _ _) | (with_reducible refine Below.drew ?_) | (with_reducible refine Below.alloc ?_ ?hh _; case hh => first | (simp; done) | (simp; omega) | omega) | (with_reducible refine Below.setCell ?_ ?hh _; case hh => first | (simp; done) | (simp; omega) | omega) | refine bstep (by assumption) (by first | (simp; done) | (simp; omega) | omega) ?_)
  by_cases hn1 : z1 < 0
  · go_wp2_with fail
    go_returns
    exact ⟨rfl, bel1⟩
  have hn : wtT x ≤ 1048576 := by have := s1 (by omega); omega
  clear s1 hr hb1
  go_wp2_with fail
  refine (toStep_is x (.slice ac x.cs.length cc) (.slice ar x.rs.length cr) w1 hr1 hn).mono ?_
  rintro e w2 ⟨⟨vc, vr, rfl, hU2⟩, hb2⟩
  obtain ⟨⟨a2, n2, rfl, _, _⟩, r2, m2, rfl, _, _⟩ := hU2.shape
  have hz2 := hb2.size
  have hr2 := hr1.below hb2
  have c0 : w2.cell? ⟨w.heap.size, 0, none⟩ = some (.int .i64 x.k) := cell_later hb2 (by go_simp)
  have c1 : w2.cell? ⟨w.heap.size, 1, none⟩ = some (.string x.s) := cell_later hb2 (by go_simp)
  have c2 : w2.cell? ⟨w.heap.size, 2, none⟩ = some (.slice ac x.cs.length cc) := cell_later hb2 (by go_simp)
  have c3 : w2.cell? ⟨w.heap.size, 3, none⟩ = some (.string x.q) := cell_later hb2 (by go_simp)
  have c4 : w2.cell? ⟨w.heap.size, 4, none⟩ = some (.slice ar x.rs.length cr) := cell_later hb2 (by go_simp)
  have bel2 : Below w.heap.size w w2 := bel1.trans (hb2.mono bel1.size)
  clear hr1 hb2 bel1
  clear b0 b1 b2 b3 b4
  go_wp2_with fail
  refine (specPutStep_any x (.slice a2 x.cs.length n2) (.slice r2 x.rs.length m2) w2 hw hU2).mono ?_
  rw [hT.out]
  rintro e w3 ⟨rfl, hb3⟩
  have hz3 := hb3.size
  have hr3 := hr2.below hb3
  have b0 : w3.cell? ⟨w.heap.size, 0, none⟩ = some (.int .i64 x.k) := cell_later hb3 (by go_simp)
  have b1 : w3.cell? ⟨w.heap.size, 1, none⟩ = some (.string x.s) := cell_later hb3 (by go_simp)
  have b2 : w3.cell? ⟨w.heap.size, 2, none⟩ = some (.slice ac x.cs.length cc) := cell_later hb3 (by go_simp)
  have b3 : w3.cell? ⟨w.heap.size, 3, none⟩ = some (.string x.q) := cell_later hb3 (by go_simp)
  have b4 : w3.cell? ⟨w.heap.size, 4, none⟩ = some (.slice ar x.rs.length cr) := cell_later hb3 (by go_simp)
  have bel3 : Below w.heap.size w w3 := bel2.trans (hb3.mono bel2.size)
  clear hr2 hU2 hb3 bel2
  clear c0 c1 c2 c3 c4
  go_wp2_with fail
  refine (toStep_is x (.slice ac x.cs.length cc) (.slice ar x.rs.length cr) w3 hr3 hn).mono ?_
  rintro e w4 ⟨⟨vc, vr, rfl, hU4⟩, hb4⟩
  obtain ⟨⟨a4, n4, rfl, _, _⟩, r4, m4, rfl, _, _⟩ := hU4.shape
  have hz4 := hb4.size
  have hy4 : w.heap.size < w4.heap.size := by omega
  have hr4 := hr3.below hb4
  have c0 : w4.cell? ⟨w.heap.size, 0, none⟩ = some (.int .i64 x.k) := cell_later hb4 (by go_simp)
  have c1 : w4.cell? ⟨w.heap.size, 1, none⟩ = some (.string x.s) := cell_later hb4 (by go_simp)
  have c2 : w4.cell? ⟨w.heap.size, 2, none⟩ = some (.slice ac x.cs.length cc) := cell_later hb4 (by go_simp)
  have c3 : w4.cell? ⟨w.heap.size, 3, none⟩ = some (.string x.q) := cell_later hb4 (by go_simp)
  have c4 : w4.cell? ⟨w.heap.size, 4, none⟩ = some (.slice ar x.rs.length cr) := cell_later hb4 (by go_simp)
  have bel4 : Below w.heap.size w w4 := bel3.trans (hb4.mono bel3.size)
  clear hr3 hb4 bel3
  clear b0 b1 b2 b3 b4
  go_wp2_with fail
  refine Calls.mono (implPutStep_any x (.slice a4 x.cs.length n4) (.slice r4 x.rs.length m4) _ hw (hU4.below ?hb)) ?_
  case hb => repeat (first | (with_reducible exact Below.refl _ _) | (with_reducible refine Below.drew ?_) | (with_reducible refine Below.alloc ?_ ?hh _; case hh => first | (simp; done) | (simp; omega) | omega) | (with_reducible refine Below.setCell ?_ ?hh _; case hh => first | (simp; done) | (simp; omega) | omega) | refine bstep (by assumption) (by first | (simp; done) | (simp; omega) | omega) ?_)
  rw [hT.out]
  rintro e w5 ⟨rfl, hb5⟩
  have hz5 := hb5.size
  simp at hz5
  have hr5 := hr4.below (show Below w4.heap.size w4 w5 by repeat (first | (with_reducible exact Below.refl _ _) | (with_reducible refine Below.drew ?_) | (with_reducible refine Below.alloc ?_ ?hh _; case hh => first | (simp; done) | (simp; omega) | omega) | (with_reducible refine Below.setCell ?_ ?hh _; case hh => first | (simp; done) | (simp; omega) | omega) | refine bstep (by assumption) (by first | (simp; done) | (simp; omega) | omega) ?_))
  have hU5 := hU4.below (show Below w4.heap.size w4 w5 by repeat (first | (with_reducible exact Below.refl _ _) | (with_reducible refine Below.drew ?_) | (with_reducible refine Below.alloc ?_ ?hh _; case hh => first | (simp; done) | (simp; omega) | omega) | (with_reducible refine Below.setCell ?_ ?hh _; case hh => first | (simp; done) | (simp; omega) | omega) | refine bstep (by assumption) (by first | (simp; done) | (simp; omega) | omega) ?_))
  have bel5 : Below w.heap.size w w5 := bel4.trans ((show Below w4.heap.size w4 w5 by repeat (first | (with_reducible exact Below.refl _ _) | (with_reducible refine Below.drew ?_) | (with_reducible refine Below.alloc ?_ ?hh _; case hh => first | (simp; done) | (simp; omega) | omega) | (with_reducible refine Below.setCell ?_ ?hh _; case hh => first | (simp; done) | (simp; omega) | omega) | refine bstep (by assumption) (by first | (simp; done) | (simp; omega) | omega) ?_)).mono bel4.size)
  have b0 : w5.cell? ⟨w.heap.size, 0, none⟩ = some (.int .i64 x.k) := cell_later hb5 (by go_simp)
  have b1 : w5.cell? ⟨w.heap.size, 1, none⟩ = some (.string x.s) := cell_later hb5 (by go_simp)
  have b2 : w5.cell? ⟨w.heap.size, 2, none⟩ = some (.slice ac x.cs.length cc) := cell_later hb5 (by go_simp)
  have b3 : w5.cell? ⟨w.heap.size, 3, none⟩ = some (.string x.q) := cell_later hb5 (by go_simp)
  have b4 : w5.cell? ⟨w.heap.size, 4, none⟩ = some (.slice ar x.rs.length cr) := cell_later hb5 (by go_simp)
  have y0 : w5.cell? ⟨w4.heap.size, 0, none⟩ = some (.int .i64 x.k) := cell_later hb5 (by go_simp)
  have y1 : w5.cell? ⟨w4.heap.size, 1, none⟩ = some (.string x.s) := cell_later hb5 (by go_simp)
  have y2 : w5.cell? ⟨w4.heap.size, 2, none⟩ = some (.slice a4 x.cs.length n4) := cell_later hb5 (by go_simp)
  have y3 : w5.cell? ⟨w4.heap.size, 3, none⟩ = some (.string x.q) := cell_later hb5 (by go_simp)
  have y4 : w5.cell? ⟨w4.heap.size, 4, none⟩ = some (.slice r4 x.rs.length m4) := cell_later hb5 (by go_simp)
  clear hr4 hU4 hb5 bel4
  clear c0 c1 c2 c3 c4
  have hy5 : w.heap.size < w5.heap.size := by omega
  have hy6 : w4.heap.size < w5.heap.size := by omega
  (
    go_wp2_with fail
    go_region_held3 (fun w' => w'.cell? ⟨w.heap.size, 0, none⟩ = some (.int .i64 x.k) ∧ w'.cell? ⟨w.heap.size, 1, none⟩ = some (.string x.s) ∧ w'.cell? ⟨w.heap.size, 2, none⟩ = some (.slice ac x.cs.length cc) ∧ w'.cell? ⟨w.heap.size, 3, none⟩ = some (.string x.q) ∧ w'.cell? ⟨w.heap.size, 4, none⟩ = some (.slice ar x.rs.length cr) ∧ w'.cell? ⟨w4.heap.size, 0, none⟩ = some (.int .i64 x.k) ∧ w'.cell? ⟨w4.heap.size, 1, none⟩ = some (.string x.s) ∧ w'.cell? ⟨w4.heap.size, 2, none⟩ = some (.slice a4 x.cs.length n4) ∧ w'.cell? ⟨w4.heap.size, 3, none⟩ = some (.string x.q) ∧ w'.cell? ⟨w4.heap.size, 4, none⟩ = some (.slice r4 x.rs.length m4)) (refine ⟨?_, ?_, ?_, ?_, ?_, ?_, ?_, ?_, ?_, ?_⟩ <;> first | (with_reducible assumption) | (go_simp; done) | (exact cell_later (by assumption) (by go_simp))) (first | (go_at_call 26; refine Calls.mono (toStep_is x (.slice ac x.cs.length cc) (.slice ar x.rs.length cr) _ (hr5.below (by repeat (first | (with_reducible exact Below.refl _ _) | (with_reducible refine Below.drew ?_) | (with_reducible refine Below.alloc ?_ ?hh _; case hh => first | (simp; done) | (simp; omega) | omega) | (with_reducible refine Below.setCell ?_ ?hh _; case hh => first | (simp; done) | (simp; omega) | omega) | refine bstep (by assumption) (by first | (simp; done) | (simp; omega) | omega) ?_))) hn) ?_; rintro e w6 ⟨⟨vc, vr, rfl, hU6⟩, hb6⟩; have hz6 := hb6.size; (try simp at hz6)) | (go_at_call 28; refine Calls.mono (eqStep_same x (.slice a4 x.cs.length n4) (.slice r4 x.rs.length m4) _ _ _ (hU5.below (by repeat (first | (with_reducible exact Below.refl _ _) | (with_reducible refine Below.drew ?_) | (with_reducible refine Below.alloc ?_ ?hh _; case hh => first | (simp; done) | (simp; omega) | omega) | (with_reducible refine Below.setCell ?_ ?hh _; case hh => first | (simp; done) | (simp; omega) | omega) | refine bstep (by assumption) (by first | (simp; done) | (simp; omega) | omega) ?_))) (by assumption)) ?_; rintro e w7 ⟨rfl, hb7⟩; have hz7 := hb7.size; (try simp at hz7)) | fail)
    all_goals go_wp2
    all_goals go_returns
    all_goals (refine ⟨rfl, bel5.trans (Below.mono (?_ : Below w5.heap.size w5 _) bel5.size)⟩; repeat (first | (with_reducible exact Below.refl _ _) | (with_reducible refine Below.drew ?_) | (with_reducible refine Below.alloc ?_ ?hh _; case hh => first | (simp; done) | (simp; omega) | omega) | (with_reducible refine Below.setCell ?_ ?hh _; case hh => first | (simp; done) | (simp; omega) | omega) | refine bstep (by assumption) (by first | (simp; done) | (simp; omega) | omega) ?_)))
end Go.Proofs.Ytdkbhoichmcodaa.fnExactPutStep
