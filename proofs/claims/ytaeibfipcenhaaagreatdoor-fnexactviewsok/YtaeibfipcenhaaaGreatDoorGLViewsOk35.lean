/- Own texts, joined: contracts that the law's proof goes by. -/
import Derived.Test.YtaeibfipcenhaaaGreatDoorGLViewsOk25
import Derived.Handy
import Derived.Test.YtaeibfipcenhaaaGreatDoorGLViewsOk39
import Derived.Test.YtaeibfipcenhaaaGreatDoorGLViewsOk33
import Derived.Test.YtaeibfipcenhaaaGreatDoorGLViewsOk34
import Derived.Test.YtaeibfipcenhaaaGreatDoorGLViewsOk38
namespace Go.Proofs.YtaeibfipcenhaaaGreatDoor
open Go.RowKit
set_option linter.unusedVariables false
set_option maxHeartbeats 1000000 in
theorem l01In_is (n a b : Int) (w : World) :
    Calls Tryz.prog 29 #[.int .i64 n, .int .i64 a, .int .i64 b] w fun e w' => e = .returned (.bool (decide (a ≤ n) && decide (n ≤ b))) ∧ Below w.heap.size w w' := by
  by_cases h1 : a ≤ n
  · go_enter Tryz.func29, Tryz.ntmps29
    go_wp2
    go_returns
    exact ⟨ret_bool (by simp [h1]), by go_grown⟩
  · go_enter Tryz.func29, Tryz.ntmps29
    go_wp2
    go_returns
    exact ⟨ret_bool (by simp; omega), by go_grown⟩
theorem colB_in (n : Int) : (decide (0 ≤ n) && decide (n ≤ 11)) = colB n := by unfold colB; congr 1; rw [decide_eq_decide]; omega
theorem l01In_col (n : Int) (w : World) :
    Calls Tryz.prog 29 #[.int .i64 n, .int .i64 0, .int .i64 11] w fun e w' => e = .returned (.bool (colB n)) ∧ Below w.heap.size w w' := by
  rw [← colB_in]
  exact l01In_is n 0 11 w
theorem l03Has_ops (b : Nat) (p : ByteArray) (w : World) (hlt : b < w.heap.size) (h : ∀ i q, ops9[i]? = some q → w.cell? ⟨b, 0 + i, none⟩ = some (.string q)) :
    Calls Tryz.prog 103 #[.slice (some ⟨b, 0, none⟩) 9 9, .string p] w fun e w' => e = .returned (.bool (opB p)) ∧ Below w.heap.size w w' :=
  l03Has_any b 0 9 ops9 p w (by decide) (by omega) hlt h
theorem cells9 {w : World} {b : Nat} {t : TypeId} {m : Nat × Nat} (h : w.heap[b]? = some (.cells #[.string ⟨#[43]⟩, .string ⟨#[45]⟩, .string ⟨#[42]⟩, .string ⟨#[47]⟩, .string ⟨#[61]⟩, .string ⟨#[60]⟩, .string ⟨#[126]⟩, .string ⟨#[97, 110, 100]⟩, .string ⟨#[111, 114]⟩] t m)) :
    ∀ i q, ops9[i]? = some q → w.cell? ⟨b, 0 + i, none⟩ = some (.string q) := by
  intro i q hq
  have hi : i < 9 := (List.getElem?_eq_some_iff.1 hq).1
  match i, hi with
  | 0, _ => cases hq; simp [World.cell?, h]
  | 1, _ => cases hq; simp [World.cell?, h]
  | 2, _ => cases hq; simp [World.cell?, h]
  | 3, _ => cases hq; simp [World.cell?, h]
  | 4, _ => cases hq; simp [World.cell?, h]
  | 5, _ => cases hq; simp [World.cell?, h]
  | 6, _ => cases hq; simp [World.cell?, h]
  | 7, _ => cases hq; simp [World.cell?, h]
  | 8, _ => cases hq; simp [World.cell?, h]
/-- l03Right where f - 1 more may stand below. -/
def OkS (f : Nat) : Prop := ∀ (e : E7) (u : Value) (F : List Nat) (d : Nat) (w : World), e.wf → KidsIs w d u e.ks F →
    Calls Tryz.prog 86 #[(.agg #[.int .i64 e.k, .int .i64 e.n, .int .i64 e.v.k, .int .i64 e.v.n, .string e.v.s, .string e.p, u]), .int .i64 (f - 1)] w fun x w' => x = .returned (.bool (okE f e)) ∧ Below w.heap.size w w'
set_option maxHeartbeats 2000000 in
set_option maxRecDepth 100000 in
theorem l03Right_zero : OkS 0 := by
  intro e u F d w hw hk
  obtain ⟨a, c, rfl, _, _⟩ := hk.shape
  simp only [okE]
  go_enter Tryz.func86, Tryz.ntmps86
  go_wp2
  go_returns
  exact ⟨rfl, by repeat (first | (with_reducible exact Below.refl _ _) | (with_reducible refine Below.drew ?_) | (with_reducible refine Below.alloc ?_ ?hh _; case hh => first | (simp; done) | (simp; omega) | omega) | (with_reducible refine Below.setCell ?_ ?hh _; case hh => first | (simp; done) | (simp; omega) | omega) | refine bstep (by assumption) (by first | (simp; done) | (simp; omega) | omega) ?_)⟩
set_option maxHeartbeats 1600000 in
set_option maxRecDepth 100000 in
theorem l03Right_step {f : Nat} (hf : f < 13) (hI : OkS f) : OkS (f + 1) := by
  intro e u F d w hw hk
  obtain ⟨d, rfl⟩ : ∃ d', d = d' + 1 := by cases d with | zero => exact hk.elim | succ d => exact ⟨d, rfl⟩
  obtain ⟨a, c, b, o, G, rfl, hl, hc, hG, _, ha⟩ := hk.pick
  have hml : e.ks.length ≤ maxLen := by omega
  have hsm : e.v.s.size ≤ maxLen := hw.2.2.1.2.2
  unfold maxLen at hc
  obtain ⟨t, ht⟩ : ∃ t : Int, t = ((f + 1 : Nat) : Int) - 1 := ⟨_, rfl⟩
  rw [← ht]
  have ht0 : 0 ≤ t := by omega
  have ht1 : t ≤ 12 := by omega
  have HT : Hid (t - 1 = (f : Int) - 1) := by show _ = _; omega
  have HO : Hid (okE (f + 1) e = (partsB e && e.ks.all (okE f))) := rfl
  have hI2 : ∀ (e : E7) (u : Value) (F : List Nat) (d : Nat) (w : World), e.wf → KidsIs w d u e.ks F →
    Calls Tryz.prog 86 #[(.agg #[.int .i64 e.k, .int .i64 e.n, .int .i64 e.v.k, .int .i64 e.v.n, .string e.v.s, .string e.p, u]), .int .i64 (t - 1)] w fun x w' => x = .returned (.bool (okE f e)) ∧ Below w.heap.size w w' := by rw [HT.out]; exact hI
  clear ht hf hI HT
  go_enter Tryz.func86, Tryz.ntmps86
  go_wp2
  go_loopw [5] (fun i wr => ∃ k : Nat, k ≤ e.ks.length ∧ i = .int .i64 k ∧ e.ks.all (okE f) = (e.ks.drop k).all (okE f) ∧ Below (w.alloc (.cells #[.int .i64 e.k, .int .i64 e.n, .int .i64 e.v.k, .int .i64 e.v.n, .string e.v.s, .string e.p, .slice a e.ks.length c] 59)).heap.size (w.alloc (.cells #[.int .i64 e.k, .int .i64 e.n, .int .i64 e.v.k, .int .i64 e.v.n, .string e.v.s, .string e.p, .slice a e.ks.length c] 59)) wr) (fun i _ => e.ks.length - (intOf i).toNat)
  case atStart => exact ⟨0, Nat.zero_le _, rfl, by simp, Below.refl _ _⟩
  case round =>
    obtain ⟨k, hkk, rfl, hal, hb⟩ := hrel
    have hzb := hb.size
    simp only [World.size_alloc] at hzb
    have q6 : wr.cell? ⟨w.heap.size, 6, none⟩ = some (.slice a e.ks.length c) := cell_later hb (by go_simp)
    have bel : Below w.heap.size w wr := by repeat (first | (with_reducible exact Below.refl _ _) | (with_reducible refine Below.drew ?_) | (with_reducible refine Below.alloc ?_ ?hh _; case hh => first | (simp; done) | (simp; omega) | omega) | (with_reducible refine Below.setCell ?_ ?hh _; case hh => first | (simp; done) | (simp; omega) | omega) | refine bstep (by assumption) (by first | (simp; done) | (simp; omega) | omega) ?_)
    by_cases hlt : k < e.ks.length
    · obtain ⟨rfl, hblt, _, hL⟩ := ha k hlt
      obtain ⟨x, g, u, hx, hg, hxw, ⟨c0, c1, c2, c3, c4, c5⟩, c6, hK, hbr⟩ := hL.at hG hblt bel hlt
      obtain ⟨ax, cx, rfl, _, _⟩ := hK.shape
      have HS : Hid (e.ks.all (okE f) = (okE f x && (e.ks.drop (k + 1)).all (okE f))) := by show _ = _; rw [hal, allE_step hx]
      clear ha hL hx hal
      go_wp2_with fail
      refine Calls.mono (hI2 x (.slice ax x.ks.length cx) g d _ hxw (hK.below ?hb)) ?_
      case hb => repeat (first | (with_reducible exact Below.refl _ _) | (with_reducible refine Below.drew ?_) | (with_reducible refine Below.alloc ?_ ?hh _; case hh => first | (simp; done) | (simp; omega) | omega) | (with_reducible refine Below.setCell ?_ ?hh _; case hh => first | (simp; done) | (simp; omega) | omega) | refine bstep (by assumption) (by first | (simp; done) | (simp; omega) | omega) ?_)
      rintro y w2 ⟨rfl, hb2⟩
      have hz2 := hb2.size
      have hbn := hb.trans (hb2.mono (by simp; omega))
      have bel2 : Below w.heap.size w w2 := by repeat (first | (with_reducible exact Below.refl _ _) | (with_reducible refine Below.drew ?_) | (with_reducible refine Below.alloc ?_ ?hh _; case hh => first | (simp; done) | (simp; omega) | omega) | (with_reducible refine Below.setCell ?_ ?hh _; case hh => first | (simp; done) | (simp; omega) | omega) | refine bstep (by assumption) (by first | (simp; done) | (simp; omega) | omega) ?_)
      cases hX : okE f x with
      | false =>
        have HX : Hid (okE (f + 1) e = false) := by show _ = _; rw [HO.out, HS.out, hX]; simp
        clear hX
        go_wp2
        go_returns
        exact ⟨ret_bool HX.out.symm, bel2⟩
      | true =>
        have HX : Hid (e.ks.all (okE f) = (e.ks.drop (k + 1)).all (okE f)) := by show _ = _; rw [HS.out, hX]; rfl
        clear hX
        go_wp2
        exact ⟨⟨k + 1, hlt, by simp, HX.out, hbn⟩, by simp [intOf]; omega⟩
    · have HP : Hid (okE (f + 1) e = partsB e) := by show _ = _; rw [HO.out, hal, List.drop_eq_nil_of_le (by omega)]; simp
      have q0 : wr.cell? ⟨w.heap.size, 0, none⟩ = some (.int .i64 e.k) := cell_later hb (by go_simp)
      have q1 : wr.cell? ⟨w.heap.size, 1, none⟩ = some (.int .i64 e.n) := cell_later hb (by go_simp)
      have q2 : wr.cell? ⟨w.heap.size, 2, none⟩ = some (.int .i64 e.v.k) := cell_later hb (by go_simp)
      have q3 : wr.cell? ⟨w.heap.size, 3, none⟩ = some (.int .i64 e.v.n) := cell_later hb (by go_simp)
      have q4 : wr.cell? ⟨w.heap.size, 4, none⟩ = some (.string e.v.s) := cell_later hb (by go_simp)
      have q5 : wr.cell? ⟨w.heap.size, 5, none⟩ = some (.string e.p) := cell_later hb (by go_simp)
      have hq := eqV
      have hy : w.heap.size < wr.heap.size := by omega
      obtain rfl : k = e.ks.length := by omega
      clear ha hb hI2 HO hal hkk hw hk
      by_cases h0 : e.k = 0
      · rw [partsB_0 h0] at HP
        rw [h0] at q0
        clear h0
        go_wp2_with fail
        all_goals (
          refine Calls.mono (l01In_col _ _) ?_
          rintro x w1 ⟨rfl, hb1⟩
          have hz1 := hb1.size
          have r2 : w1.cell? ⟨w.heap.size, 2, none⟩ = some (.int .i64 e.v.k) := cell_later hb1 (by go_simp)
          have r3 : w1.cell? ⟨w.heap.size, 3, none⟩ = some (.int .i64 e.v.n) := cell_later hb1 (by go_simp)
          have r4 : w1.cell? ⟨w.heap.size, 4, none⟩ = some (.string e.v.s) := cell_later hb1 (by go_simp)
          have r5 : w1.cell? ⟨w.heap.size, 5, none⟩ = some (.string e.p) := cell_later hb1 (by go_simp)
          have r6 : w1.cell? ⟨w.heap.size, 6, none⟩ = some (.slice a e.ks.length c) := cell_later hb1 (by go_simp)
          have bel1 : Below w.heap.size w w1 := by repeat (first | (with_reducible exact Below.refl _ _) | (with_reducible refine Below.drew ?_) | (with_reducible refine Below.alloc ?_ ?hh _; case hh => first | (simp; done) | (simp; omega) | omega) | (with_reducible refine Below.setCell ?_ ?hh _; case hh => first | (simp; done) | (simp; omega) | omega) | refine bstep (by assumption) (by first | (simp; done) | (simp; omega) | omega) ?_)
          generalize hB : colB _ = b1
          have HB : Hid _ := hB
          clear hb1 hB q0 q1 q2 q3 q4 q5 q6
          go_wp2
          all_goals (go_returns; exact ⟨ret_bool (by clear hq; have hB := HB.out; rw [HP.out]; simp_all [zeroV, mb0]), by repeat (first | (with_reducible exact Below.refl _ _) | (with_reducible refine Below.drew ?_) | (with_reducible refine Below.alloc ?_ ?hh _; case hh => first | (simp; done) | (simp; omega) | omega) | (with_reducible refine Below.setCell ?_ ?hh _; case hh => first | (simp; done) | (simp; omega) | omega) | refine bstep (by assumption) (by first | (simp; done) | (simp; omega) | omega) ?_)⟩))
      by_cases h1 : e.k = 1
      · rw [partsB_1 h1] at HP
        rw [h1] at q0
        clear h1 h0
        go_wp2_with fail
        all_goals (
          refine Calls.mono (specValueOk_any _ _ _ _ hsm) ?_
          rintro x w1 ⟨rfl, hb1⟩
          have hz1 := hb1.size
          have r1 : w1.cell? ⟨w.heap.size, 1, none⟩ = some (.int .i64 e.n) := cell_later hb1 (by go_simp)
          have r5 : w1.cell? ⟨w.heap.size, 5, none⟩ = some (.string e.p) := cell_later hb1 (by go_simp)
          have r6 : w1.cell? ⟨w.heap.size, 6, none⟩ = some (.slice a e.ks.length c) := cell_later hb1 (by go_simp)
          have bel1 : Below w.heap.size w w1 := by repeat (first | (with_reducible exact Below.refl _ _) | (with_reducible refine Below.drew ?_) | (with_reducible refine Below.alloc ?_ ?hh _; case hh => first | (simp; done) | (simp; omega) | omega) | (with_reducible refine Below.setCell ?_ ?hh _; case hh => first | (simp; done) | (simp; omega) | omega) | refine bstep (by assumption) (by first | (simp; done) | (simp; omega) | omega) ?_)
          generalize hB : okB _ _ _ = b1
          have HB : Hid _ := hB
          clear hb1 hB q0 q1 q2 q3 q4 q5 q6
          go_wp2
          all_goals (go_returns; exact ⟨ret_bool (by clear hq; have hB := HB.out; rw [HP.out]; simp_all [mb0]), by repeat (first | (with_reducible exact Below.refl _ _) | (with_reducible refine Below.drew ?_) | (with_reducible refine Below.alloc ?_ ?hh _; case hh => first | (simp; done) | (simp; omega) | omega) | (with_reducible refine Below.setCell ?_ ?hh _; case hh => first | (simp; done) | (simp; omega) | omega) | refine bstep (by assumption) (by first | (simp; done) | (simp; omega) | omega) ?_)⟩))
      by_cases h2 : e.k = 2
      · rw [partsB_2 h2] at HP
        rw [h2] at q0
        clear h2 h1 h0
        go_wp2_with fail
        · refine Calls.mono (l03Has_ops _ e.p _ ?hlt ?hcells) ?_
          case hlt => simp
          case hcells => exact cells9 (heap_alloc_new wr _)
          rintro x w1 ⟨rfl, hb1⟩
          have hz1 := hb1.size
          simp only [World.size_alloc] at hz1
          have bel1 : Below w.heap.size w w1 := by repeat (first | (with_reducible exact Below.refl _ _) | (with_reducible refine Below.drew ?_) | (with_reducible refine Below.alloc ?_ ?hh _; case hh => first | (simp; done) | (simp; omega) | omega) | (with_reducible refine Below.setCell ?_ ?hh _; case hh => first | (simp; done) | (simp; omega) | omega) | refine bstep (by assumption) (by first | (simp; done) | (simp; omega) | omega) ?_)
          generalize hB : opB e.p = b1
          have HB : Hid _ := hB
          clear hb1 hB q0 q1 q2 q3 q4 q5 q6
          go_wp2
          all_goals (go_returns; exact ⟨ret_bool (by clear hq; have hB := HB.out; rw [HP.out]; first | (simp_all [zeroV]; done) | (simp_all [zeroV]; intros; omega)), by repeat (first | (with_reducible exact Below.refl _ _) | (with_reducible refine Below.drew ?_) | (with_reducible refine Below.alloc ?_ ?hh _; case hh => first | (simp; done) | (simp; omega) | omega) | (with_reducible refine Below.setCell ?_ ?hh _; case hh => first | (simp; done) | (simp; omega) | omega) | refine bstep (by assumption) (by first | (simp; done) | (simp; omega) | omega) ?_)⟩)
        all_goals (go_returns; exact ⟨ret_bool (by clear hq; rw [HP.out]; first | (simp_all [zeroV]; done) | (simp_all [zeroV]; intros; omega)), by repeat (first | (with_reducible exact Below.refl _ _) | (with_reducible refine Below.drew ?_) | (with_reducible refine Below.alloc ?_ ?hh _; case hh => first | (simp; done) | (simp; omega) | omega) | (with_reducible refine Below.setCell ?_ ?hh _; case hh => first | (simp; done) | (simp; omega) | omega) | refine bstep (by assumption) (by first | (simp; done) | (simp; omega) | omega) ?_)⟩)
      by_cases h3 : e.k = 3
      · rw [partsB_3 h3] at HP
        rw [h3] at q0
        clear h3 h2 h1 h0
        go_wp2
        all_goals (go_returns; exact ⟨ret_bool (by clear hq; rw [HP.out]; simp_all [zeroV, mb1]), by repeat (first | (with_reducible exact Below.refl _ _) | (with_reducible refine Below.drew ?_) | (with_reducible refine Below.alloc ?_ ?hh _; case hh => first | (simp; done) | (simp; omega) | omega) | (with_reducible refine Below.setCell ?_ ?hh _; case hh => first | (simp; done) | (simp; omega) | omega) | refine bstep (by assumption) (by first | (simp; done) | (simp; omega) | omega) ?_)⟩)
      by_cases h4 : e.k = 4
      · rw [partsB_4 h4] at HP
        rw [h4] at q0
        clear h4 h3 h2 h1 h0
        go_wp2
        all_goals (go_returns; exact ⟨ret_bool (by clear hq; rw [HP.out]; simp_all [zeroV, mb1]), by repeat (first | (with_reducible exact Below.refl _ _) | (with_reducible refine Below.drew ?_) | (with_reducible refine Below.alloc ?_ ?hh _; case hh => first | (simp; done) | (simp; omega) | omega) | (with_reducible refine Below.setCell ?_ ?hh _; case hh => first | (simp; done) | (simp; omega) | omega) | refine bstep (by assumption) (by first | (simp; done) | (simp; omega) | omega) ?_)⟩)
      rw [partsB_x h0 h1 h2 h3 h4] at HP
      go_wp2
      all_goals (go_returns; exact ⟨ret_bool HP.out.symm, by repeat (first | (with_reducible exact Below.refl _ _) | (with_reducible refine Below.drew ?_) | (with_reducible refine Below.alloc ?_ ?hh _; case hh => first | (simp; done) | (simp; omega) | omega) | (with_reducible refine Below.setCell ?_ ?hh _; case hh => first | (simp; done) | (simp; omega) | omega) | refine bstep (by assumption) (by first | (simp; done) | (simp; omega) | omega) ?_)⟩)
theorem l03Right_any : ∀ f, f ≤ 13 → OkS f
  | 0, _ => l03Right_zero
  | f + 1, h => l03Right_step (by omega) (l03Right_any f (by omega))
set_option maxHeartbeats 1000000 in
set_option maxRecDepth 100000 in
theorem specExpOk_any (e : E7) (u : Value) (F : List Nat) (d : Nat) (w : World) (hw : e.wf) (hk : KidsIs w d u e.ks F) :
    Calls Tryz.prog 67 #[(.agg #[.int .i64 e.k, .int .i64 e.n, .int .i64 e.v.k, .int .i64 e.v.n, .string e.v.s, .string e.p, u])] w fun x w' => x = .returned (.bool (okE 13 e)) ∧ Below w.heap.size w w' := by
  have hI := l03Right_any 13 (Nat.le_refl _)
  have hI2 : ∀ (e : E7) (u : Value) (F : List Nat) (d : Nat) (w : World), e.wf → KidsIs w d u e.ks F →
    Calls Tryz.prog 86 #[(.agg #[.int .i64 e.k, .int .i64 e.n, .int .i64 e.v.k, .int .i64 e.v.n, .string e.v.s, .string e.p, u]), .int .i64 12] w fun x w' => x = .returned (.bool (okE 13 e)) ∧ Below w.heap.size w w' := hI
  clear hI
  obtain ⟨a, c, rfl, _, _⟩ := hk.shape
  go_enter Tryz.func67, Tryz.ntmps67
  go_wp2_with fail
  refine Calls.mono (hI2 e (.slice a e.ks.length c) F d _ hw (hk.below ?hb)) ?_
  case hb => repeat (first | (with_reducible exact Below.refl _ _) | (with_reducible refine Below.drew ?_) | (with_reducible refine Below.alloc ?_ ?hh _; case hh => first | (simp; done) | (simp; omega) | omega) | (with_reducible refine Below.setCell ?_ ?hh _; case hh => first | (simp; done) | (simp; omega) | omega) | refine bstep (by assumption) (by first | (simp; done) | (simp; omega) | omega) ?_)
  rintro y w2 ⟨rfl, hb2⟩
  have hz2 := hb2.size
  simp at hz2
  go_wp2
  go_returns
  exact ⟨rfl, by repeat (first | (with_reducible exact Below.refl _ _) | (with_reducible refine Below.drew ?_) | (with_reducible refine Below.alloc ?_ ?hh _; case hh => first | (simp; done) | (simp; omega) | omega) | (with_reducible refine Below.setCell ?_ ?hh _; case hh => first | (simp; done) | (simp; omega) | omega) | refine bstep (by assumption) (by first | (simp; done) | (simp; omega) | omega) ?_)⟩
end Go.Proofs.YtaeibfipcenhaaaGreatDoor
namespace Go.Proofs.YtaeibfipcenhaaaGreatDoor
open Go.RowKit
set_option linter.unusedVariables false
/-- block b has the twelve cells of p; ue, us, u: its three lists' slices. -/
def BxP (w : World) (b : Nat) (p : P12) (ue us u : Value) : Prop :=
  b < w.heap.size ∧ w.cell? ⟨b, 0, none⟩ = some (.int .i64 p.k) ∧ w.cell? ⟨b, 1, none⟩ = some (.string p.s) ∧ w.cell? ⟨b, 2, none⟩ = some (.int .i64 p.e.k) ∧ w.cell? ⟨b, 3, none⟩ = some (.int .i64 p.e.n) ∧ w.cell? ⟨b, 4, none⟩ = some (.int .i64 p.e.v.k) ∧ w.cell? ⟨b, 5, none⟩ = some (.int .i64 p.e.v.n) ∧ w.cell? ⟨b, 6, none⟩ = some (.string p.e.v.s) ∧ w.cell? ⟨b, 7, none⟩ = some (.string p.e.p) ∧ w.cell? ⟨b, 8, none⟩ = some ue ∧ w.cell? ⟨b, 9, none⟩ = some us ∧ w.cell? ⟨b, 10, none⟩ = some (.int .i64 p.n) ∧ w.cell? ⟨b, 11, none⟩ = some u
theorem BxP.cellsP {w : World} {b : Nat} {p : P12} {ue us u : Value} (h : BxP w b p ue us u) : cellsP w b 0 p ue us u := by
  obtain ⟨hl, h0, h1, h2, h3, h4, h5, h6, h7, h8, h9, h10, h11⟩ := h
  exact ⟨h0, h1, h2, h3, h4, h5, h6, h7, h8, h9, h10, h11⟩
theorem BxP.below {w w' : World} {b : Nat} {p : P12} {ue us u : Value} (h : BxP w b p ue us u) (hb : Below w.heap.size w w') : BxP w' b p ue us u := by
  have hk := hb.block b h.1
  obtain ⟨hl, h0, h1, h2, h3, h4, h5, h6, h7, h8, h9, h10, h11⟩ := h
  exact ⟨Nat.lt_of_lt_of_le hl hb.size, (cell_blk hk).trans h0, (cell_blk hk).trans h1, (cell_blk hk).trans h2, (cell_blk hk).trans h3, (cell_blk hk).trans h4, (cell_blk hk).trans h5, (cell_blk hk).trans h6, (cell_blk hk).trans h7, (cell_blk hk).trans h8, (cell_blk hk).trans h9, (cell_blk hk).trans h10, (cell_blk hk).trans h11⟩
theorem bxP_new (w : World) (p : P12) (ue us u : Value) (t : TypeId) : BxP (w.alloc (.cells #[.int .i64 p.k, .string p.s, .int .i64 p.e.k, .int .i64 p.e.n, .int .i64 p.e.v.k, .int .i64 p.e.v.n, .string p.e.v.s, .string p.e.p, ue, us, .int .i64 p.n, u] t)) w.heap.size p ue us u := by
  refine ⟨by simp, ?_, ?_, ?_, ?_, ?_, ?_, ?_, ?_, ?_, ?_, ?_, ?_⟩ <;> go_simp
end Go.Proofs.YtaeibfipcenhaaaGreatDoor
namespace Go.Proofs.YtaeibfipcenhaaaGreatDoor
open Go.RowKit
set_option linter.unusedVariables false
set_option linter.unusedSimpArgs false
theorem belowE_no {e : E7} {W : Int} (h : okE 13 e = false) : belowE e W = false := by rw [belowE, h, Bool.false_and]
theorem belowE_nil {e : E7} {W : Int} {w : World} {D : Nat} {u : Value} {F : List Nat} (hk : KidsIs w D u e.ks F) (h : okE 13 e = true) (hc : colsL D e = []) : belowE e W = true := by
  rw [belowE, h, Bool.true_and]
  exact (colsBelow_iff W 13 e w D u F hk h).2 fun x hx => by rw [hc] at hx; cases hx
theorem belowE_last {e : E7} {W x : Int} {w : World} {D : Nat} {u : Value} {F : List Nat} (hk : KidsIs w D u e.ks F) (h : okE 13 e = true) (hx : (colsL D e)[(colsL D e).length - 1]? = some x) : belowE e W = decide (x < W) := by
  rw [belowE, h, Bool.true_and]
  have hne : colsL D e ≠ [] := by intro h0; rw [h0] at hx; simp at hx
  have hl : (colsL D e).getLast hne = x := by
    rw [List.getLast_eq_getElem]
    obtain ⟨h1, h2⟩ := List.getElem?_eq_some_iff.1 hx
    exact h2
  rw [Bool.eq_iff_iff, colsBelow_iff W 13 e w D u F hk h, asc_last (asc_colsL D e) hne, hl, decide_eq_true_eq]
set_option maxHeartbeats 4000000 in
set_option maxRecDepth 100000 in
theorem l04Below_any (e : E7) (u : Value) (F : List Nat) (D : Nat) (W : Int) (w : World) (he : e.wf) (hk : KidsIs w D u e.ks F) (hn : wtE e ≤ 1048576) :
    Calls Tryz.prog 47 #[(.agg #[.int .i64 e.k, .int .i64 e.n, .int .i64 e.v.k, .int .i64 e.v.n, .string e.v.s, .string e.p, u]), .int .i64 W] w fun x w' => x = .returned (.bool (belowE e W)) ∧ Below w.heap.size w w' := by
  obtain ⟨a, c, rfl, hl, hc⟩ := hk.shape
  have hC := fun w2 (hb : Below w.heap.size w w2) => specCols_any D e _ F w2 (hk.below hb) hn
  have hX := fun w2 (hb : Below w.heap.size w w2) => specExpOk_any e _ F D w2 he (hk.below hb)
  have hB := box7_new w e (.slice a e.ks.length c) 59
  have hlen : (colsL D e).length ≤ 1 + wtE e := colsL_len D e
  obtain ⟨bo, HO⟩ : ∃ b, Hid (okE 13 e = b) := ⟨_, rfl⟩
  rw [HO.out] at hX
  go_enter Tryz.func47, Tryz.ntmps47
  go_wp2_with fail
  refine Calls.mono (hC _ (by repeat (first | (with_reducible exact Below.refl _ _) | (with_reducible refine Below.drew ?_) | (with_reducible refine Below.alloc ?_ ?hh _; case hh => first | (simp; done) | (simp; omega) | omega) | (with_reducible refine Below.setCell ?_ ?hh _; case hh => first | (simp; done) | (simp; omega) | omega) | refine bstep (by assumption) (by first | (simp; done) | (simp; omega) | omega) ?_))) ?_
  rintro x w1 ⟨⟨v, rfl, hI⟩, hb1⟩
  obtain ⟨yb, yo, yc, rfl, hyl, hyc, hylt, hcell⟩ := hI
  have hB1 := hB.below hb1
  have bel1 : Below w.heap.size w w1 := by repeat (first | (with_reducible exact Below.refl _ _) | (with_reducible refine Below.drew ?_) | (with_reducible refine Below.alloc ?_ ?hh _; case hh => first | (simp; done) | (simp; omega) | omega) | (with_reducible refine Below.setCell ?_ ?hh _; case hh => first | (simp; done) | (simp; omega) | omega) | refine bstep (by assumption) (by first | (simp; done) | (simp; omega) | omega) ?_)
  obtain ⟨_, b0, b1, b2, b3, b4, b5, b6⟩ := hB1
  clear hB hb1 hC
  go_wp2_with fail
  refine Calls.mono (hX _ bel1) ?_
  rintro x w2 ⟨rfl, hb2⟩
  have bel2 : Below w.heap.size w w2 := bel1.trans (hb2.mono bel1.size)
  clear hX b0 b1 b2 b3 b4 b5 b6
  cases bo with
  | false =>
    have HF : Hid (belowE e W = false) := belowE_no HO.out
    clear hcell hk
    go_wp2
    go_returns
    exact ⟨by rw [HF.out]; rfl, by repeat (first | (with_reducible exact Below.refl _ _) | (with_reducible refine Below.drew ?_) | (with_reducible refine Below.alloc ?_ ?hh _; case hh => first | (simp; done) | (simp; omega) | omega) | (with_reducible refine Below.setCell ?_ ?hh _; case hh => first | (simp; done) | (simp; omega) | omega) | refine bstep (by assumption) (by first | (simp; done) | (simp; omega) | omega) ?_)⟩
  | true =>
    by_cases h0 : (colsL D e).length = 0
    · have HF : Hid (belowE e W = true) := belowE_nil hk HO.out (List.eq_nil_of_length_eq_zero h0)
      rw [h0]
      clear hcell hk hyl hlen
      clear h0
      go_wp2
      go_returns
      exact ⟨by rw [HF.out]; rfl, by repeat (first | (with_reducible exact Below.refl _ _) | (with_reducible refine Below.drew ?_) | (with_reducible refine Below.alloc ?_ ?hh _; case hh => first | (simp; done) | (simp; omega) | omega) | (with_reducible refine Below.setCell ?_ ?hh _; case hh => first | (simp; done) | (simp; omega) | omega) | refine bstep (by assumption) (by first | (simp; done) | (simp; omega) | omega) ?_)⟩
    · obtain ⟨z, hz⟩ : ∃ z, (colsL D e)[(colsL D e).length - 1]? = some z := ⟨(colsL D e)[(colsL D e).length - 1]'(by omega), by simp⟩
      have HF : Hid (belowE e W = decide (z < W)) := belowE_last hk HO.out hz
      have hcz := ((bcell hb2).1 _ _ hylt).trans (hcell _ z hz)
      clear hcell hk hz
      generalize hm : (colsL D e).length = m at *
      obtain ⟨m, rfl⟩ : ∃ j, m = j + 1 := ⟨m - 1, by omega⟩
      rw [Nat.add_sub_cancel] at hcz
      unfold maxLen at hyc
      have hm2 : m ≤ 1048576 := by omega
      clear hm h0 hlen
      go_wp2
      go_returns
      exact ⟨by rw [HF.out]; rfl, by repeat (first | (with_reducible exact Below.refl _ _) | (with_reducible refine Below.drew ?_) | (with_reducible refine Below.alloc ?_ ?hh _; case hh => first | (simp; done) | (simp; omega) | omega) | (with_reducible refine Below.setCell ?_ ?hh _; case hh => first | (simp; done) | (simp; omega) | omega) | refine bstep (by assumption) (by first | (simp; done) | (simp; omega) | omega) ?_)⟩
theorem allB_step {es : List E7} {k : Nat} {x : E7} {q : E7 → Bool} (h : es[k]? = some x) : (es.drop k).all q = (q x && (es.drop (k + 1)).all q) := by
  obtain ⟨hk, rfl⟩ := List.getElem?_eq_some_iff.1 h
  rw [List.drop_eq_getElem_cons hk, List.all_cons]
set_option maxHeartbeats 4000000 in
set_option maxRecDepth 100000 in
theorem l04All_any (v : Value) (es : List E7) (F : List Nat) (D : Nat) (W : Int) (w : World) (hk : KidsIs w D v es F) (hn : wtEs es ≤ 1048576) :
    Calls Tryz.prog 48 #[v, .int .i64 W] w fun x w' => x = .returned (.bool (es.all (belowE · W))) ∧ Below w.heap.size w w' := by
  obtain ⟨D, rfl⟩ := hk.succ
  obtain ⟨a, c, b, o, G, rfl, hl, hc, hG, _, ha⟩ := hk.pick
  unfold maxLen at hc
  clear hk
  go_enter Tryz.func48, Tryz.ntmps48
  go_wp2_with fail
  go_loopw [5] (fun i wr => ∃ k : Nat, k ≤ es.length ∧ i = .int .i64 k ∧ es.all (belowE · W) = (es.drop k).all (belowE · W) ∧ Below w.heap.size w wr) (fun i _ => es.length - (intOf i).toNat)
  case atStart => exact ⟨0, Nat.zero_le _, rfl, by simp, by repeat (first | (with_reducible exact Below.refl _ _) | (with_reducible refine Below.drew ?_) | (with_reducible refine Below.alloc ?_ ?hh _; case hh => first | (simp; done) | (simp; omega) | omega) | (with_reducible refine Below.setCell ?_ ?hh _; case hh => first | (simp; done) | (simp; omega) | omega) | refine bstep (by assumption) (by first | (simp; done) | (simp; omega) | omega) ?_)⟩
  case round =>
    obtain ⟨k, hk, rfl, heq, hb⟩ := hrel
    have HE : Hid (es.all (belowE · W) = (es.drop k).all (belowE · W)) := heq
    have hzb := hb.size
    clear heq
    by_cases hlt : k < es.length
    · obtain ⟨rfl, hblt, _, hL⟩ := ha k hlt
      obtain ⟨x, g, u, hx, hg, hxw, ⟨c0, c1, c2, c3, c4, c5⟩, c6, hK, hbr⟩ := hL.at hG hblt hb hlt
      obtain ⟨ax, cx, rfl, _, _⟩ := hK.shape
      have HS : Hid ((es.drop k).all (belowE · W) = (belowE x W && (es.drop (k + 1)).all (belowE · W))) := allB_step hx
      have hxn : wtE x ≤ 1048576 := by have := wtE_mem (List.mem_of_getElem? hx); omega
      have hV := l04Below_any x _ g D W wr hxw hK hxn
      obtain ⟨bo, HO⟩ : ∃ b, Hid (belowE x W = b) := ⟨_, rfl⟩
      rw [HO.out] at hV
      clear ha hL hx hg hK hxw hxn
      go_wp2_with fail
      refine Calls.mono hV ?_
      rintro y w1 ⟨rfl, hb1⟩
      have bel1 : Below w.heap.size w w1 := hb.trans (hb1.mono hzb)
      clear hV hb1 c0 c1 c2 c3 c4 c5 c6
      cases bo with
      | false =>
        have HF : Hid (es.all (belowE · W) = false) := by show _ = _; rw [HE.out, HS.out, HO.out, Bool.false_and]
        go_wp2
        go_returns
        exact ⟨by rw [HF.out]; rfl, bel1⟩
      | true =>
        have HF : Hid (es.all (belowE · W) = (es.drop (k + 1)).all (belowE · W)) := by show _ = _; rw [HE.out, HS.out, HO.out, Bool.true_and]
        go_wp2_with fail
        exact ⟨⟨k + 1, hlt, by simp, HF.out, bel1⟩, by simp [intOf]; omega⟩
    · obtain rfl : k = es.length := by omega
      have HF : Hid (es.all (belowE · W) = true) := by show _ = _; rw [HE.out, List.drop_length]; rfl
      clear ha
      go_wp2
      go_returns
      exact ⟨by rw [HF.out]; rfl, hb⟩
set_option maxHeartbeats 4000000 in
set_option maxRecDepth 100000 in
theorem l04None_any (e : E7) (a : Option Addr) (c : Nat) (w : World) (hs : e.v.s.size ≤ maxLen) (hc : e.ks.length ≤ maxLen) :
    Calls Tryz.prog 64 #[(.agg #[.int .i64 e.k, .int .i64 e.n, .int .i64 e.v.k, .int .i64 e.v.n, .string e.v.s, .string e.p, (.slice a e.ks.length c)])] w fun x w' => x = .returned (.bool (noneE e)) ∧ Below w.heap.size w w' := by
  have hq := eqV
  unfold noneE
  unfold maxLen at hc
  generalize e.ks.length = m at *
  generalize e.k = k at *
  generalize e.n = n at *
  generalize e.v = v at *
  generalize e.p = p at *
  obtain ⟨vk, vn, vs⟩ := v
  dsimp only at *
  go_enter Tryz.func64, Tryz.ntmps64
  go_wp2
  all_goals (go_returns; exact ⟨ret_bool (by clear hq; simp_all [zeroV, mb0]), by repeat (first | (with_reducible exact Below.refl _ _) | (with_reducible refine Below.drew ?_) | (with_reducible refine Below.alloc ?_ ?hh _; case hh => first | (simp; done) | (simp; omega) | omega) | (with_reducible refine Below.setCell ?_ ?hh _; case hh => first | (simp; done) | (simp; omega) | omega) | refine bstep (by assumption) (by first | (simp; done) | (simp; omega) | omega) ?_)⟩)
set_option maxHeartbeats 4000000 in
set_option maxRecDepth 100000 in
theorem l04Kids_any (k : Int) (w : World) : Calls Tryz.prog 65 #[.int .i64 k] w fun e w' => e = .returned (.int .i64 (kidsK k)) ∧ Below w.heap.size w w' := by
  by_cases h : 0 ≤ k ∧ k ≤ 6
  · have h : k = 0 ∨ k = 1 ∨ k = 2 ∨ k = 3 ∨ k = 4 ∨ k = 5 ∨ k = 6 := by omega
    rcases h with rfl | rfl | rfl | rfl | rfl | rfl | rfl <;> (
      go_enter Tryz.func65, Tryz.ntmps65
      go_wp2
      go_returns
      exact ⟨rfl, by repeat (first | (with_reducible exact Below.refl _ _) | (with_reducible refine Below.drew ?_) | (with_reducible refine Below.alloc ?_ ?hh _; case hh => first | (simp; done) | (simp; omega) | omega) | (with_reducible refine Below.setCell ?_ ?hh _; case hh => first | (simp; done) | (simp; omega) | omega) | refine bstep (by assumption) (by first | (simp; done) | (simp; omega) | omega) ?_)⟩)
  · have hI := fun w2 => l01In_is k 0 6 w2
    have e : (decide (0 ≤ k) && decide (k ≤ 6)) = false := by
      rw [Bool.and_eq_false_iff]
      by_cases h : 0 ≤ k
      · exact .inr (by rw [decide_eq_false_iff_not]; omega)
      · exact .inl (by rw [decide_eq_false_iff_not]; exact h)
    rw [e] at hI
    have HF : Hid (kidsK k = -1) := by
      show _ = _
      unfold kidsK
      rw [if_neg (by omega), if_neg (by omega), if_neg (by omega), if_neg (by omega), if_neg (by omega), if_neg (by omega), if_neg (by omega)]
    clear h e
    go_enter Tryz.func65, Tryz.ntmps65
    go_wp2_with fail
    refine Calls.mono (hI _) ?_
    rintro x w1 ⟨rfl, hb1⟩
    go_wp2_with fail
    go_returns
    exact ⟨by rw [HF.out]; rfl, hb1⟩
end Go.Proofs.YtaeibfipcenhaaaGreatDoor
