/- Own texts, joined: contracts that the law's proof goes by. -/
import Derived.Test.YtaeibfipcenhaaaGreatDoorGLViewsOk10
import Derived.Test.YtaeibfipcenhaaaGreatDoorGLViewsOk11
import Derived.Handy
import Derived.Deep.RegionHeld3
import Derived.Test.YtaeibfipcenhaaaGreatDoorGLViewsOk21
import Derived.Test.YtaeibfipcenhaaaGreatDoorGLViewsOk17
namespace Go.Proofs.YtaeibfipcenhaaaGreatDoor
open Go.RowKit
set_option linter.unusedVariables false
/-- whether the row before, if there is one, is less. -/
def okPrev (p : Option C2) (x : C2) : Bool := match p with
  | none => true
  | some y => decide (cmpRow y.r x.r < 0)
/-- whether rows are right, and ascend. -/
def okCs (W : Int) : Option C2 → List C2 → Bool
  | _, [] => true
  | p, x :: xs => okRow x.r W && okN x.n && okPrev p x && okCs W (some x) xs
def prev (cs : List C2) (k : Nat) : Option C2 := if k = 0 then none else cs[k - 1]?
/-- whether a bag is right. -/
def okBag (W : Int) (cs : List C2) : Bool := decide (0 ≤ W) && decide (W ≤ 12) && decide (cs.length ≤ 400) && okCs W none cs
theorem okCs_step {W : Int} {cs : List C2} {k : Nat} {x : C2} (h : cs[k]? = some x) :
    okCs W (prev cs k) (cs.drop k) = (okRow x.r W && okN x.n && okPrev (prev cs k) x && okCs W (prev cs (k + 1)) (cs.drop (k + 1))) := by
  obtain ⟨hk, rfl⟩ := List.getElem?_eq_some_iff.1 h
  rw [List.drop_eq_getElem_cons hk]
  simp [okCs, prev, hk]
theorem prev_zero (cs : List C2) : prev cs 0 = none := rfl
theorem prev_succ {cs : List C2} {j : Nat} {y : C2} (h : cs[j]? = some y) : prev cs (j + 1) = some y := by simp [prev, h]
set_option maxHeartbeats 4000000 in
set_option maxRecDepth 100000 in
theorem implBagOk_any (W : Int) (v : Value) (cs : List C2) (w : World) (hw : CsWf cs) (hr : RowsIs w v cs) :
    Calls Tryz.prog 54 #[.agg #[.int .i64 W, v]] w fun e w' => e = .returned (.bool (okBag W cs)) ∧ Below w.heap.size w w' := by
  obtain ⟨a, c, b, o, rfl, hl, hc, ha⟩ := hr.pick
  unfold maxLen at hc
  clear hr
  by_cases h0 : W < 0
  · go_enter Tryz.func54, Tryz.ntmps54
    go_wp2
    go_returns
    exact ⟨ret_bool (by simp [okBag, show ¬ 0 ≤ W from by omega]), by go_grown⟩
  by_cases h1 : 12 < W
  · go_enter Tryz.func54, Tryz.ntmps54
    go_wp2
    go_returns
    exact ⟨ret_bool (by simp [okBag, show ¬ W ≤ 12 from by omega]), by go_grown⟩
  by_cases h2 : 400 < (cs.length : Int)
  · go_enter Tryz.func54, Tryz.ntmps54
    go_wp2
    go_returns
    exact ⟨ret_bool (by simp [okBag, show ¬ cs.length ≤ 400 from by omega]), by go_grown⟩
  have HB : Hid (okBag W cs = okCs W none cs) := by simp [Hid, okBag, show 0 ≤ W from by omega, show W ≤ 12 from by omega, show cs.length ≤ 400 from by omega]
  go_enter Tryz.func54, Tryz.ntmps54
  go_wp2
  go_loopw [22] (fun i wr => ∃ (k : Nat) (q : Int), k ≤ cs.length ∧ q = k ∧ i = .int .i64 q ∧ Below w.heap.size w wr ∧ w.heap.size < wr.heap.size ∧ wr.cell? ⟨w.heap.size, 0, none⟩ = some (.int .i64 W) ∧ wr.cell? ⟨w.heap.size, 1, none⟩ = some (.slice a cs.length c) ∧ okCs W none cs = okCs W (prev cs k) (cs.drop k)) (fun i _ => cs.length - (intOf i).toNat)
  case atStart => exact ⟨0, 0, Nat.zero_le _, rfl, rfl, by go_grown, by simp, by go_simp, by go_simp, by simp [prev]⟩
  case round =>
    obtain ⟨k, q, hk, hq, rfl, hb, hsz, p0, p1, heq⟩ := hrel
    have HE : Hid (okCs W none cs = okCs W (prev cs k) (cs.drop k)) := heq
    have hzb := hb.size
    clear heq
    by_cases hlt : k < cs.length
    · obtain ⟨rfl, hblt, hL⟩ := ha k hlt
      obtain ⟨x, u, hx, c0, hR, c1, hbr⟩ := hL.at hblt hb hlt
      obtain ⟨ur, lr, cr, rfl⟩ := hR.shape
      have hxw : VsWf x.r := (hw x (List.mem_of_getElem? hx)).1
      have HS : Hid (okCs W (prev cs k) (cs.drop k) = (okRow x.r W && okN x.n && okPrev (prev cs k) x && okCs W (prev cs (k + 1)) (cs.drop (k + 1)))) := okCs_step hx
      by_cases hok : okRow x.r W = true
      · by_cases hcn : okN x.n = true
        · rcases Nat.eq_zero_or_pos k with hk0 | hk0
          · subst hk0
            obtain rfl : q = 0 := by simpa using hq
            rw [Nat.zero_mul, Nat.add_zero] at c0
            rw [Nat.zero_mul, Nat.add_zero] at c1
            clear ha hw hL hx hq
            go_wp2_with (first | (go_at_call 72; refine Calls.mono (rowOk_any _ x.r W _ (hR.below (by repeat (first | exact Below.refl _ _ | refine Below.drew ?_ | refine Below.alloc ?_ (by first | (simp; done) | (simp; omega) | omega) _ | refine Below.setCell ?_ (by first | (simp; done) | (simp; omega) | omega) _ | refine bstep (by assumption) (by first | (simp; done) | (simp; omega) | omega) ?_))) hxw) ?_; rintro e w1 ⟨rfl, hb1⟩; have hz1 := hb1.size; (try simp at hz1); have hf1 := (bcell hb1).2; have q0 : w1.cell? ⟨wr.heap.size, 0, none⟩ = some (.slice ur lr cr) := cell_later hb1 (by go_simp); have q1 : w1.cell? ⟨wr.heap.size, 1, none⟩ = some (.int .i64 x.n) := cell_later hb1 (by go_simp); have p0' : w1.cell? ⟨w.heap.size, 0, none⟩ = some (.int .i64 W) := cell_later hb1 (by go_simp); have p1' : w1.cell? ⟨w.heap.size, 1, none⟩ = some (.slice (some ⟨b, o, none⟩) cs.length c) := cell_later hb1 (by go_simp)) | (go_at_call 73; refine (countOk_any _ _).mono ?_; rintro e w2 ⟨rfl, hb2⟩; have hz2 := hb2.size; (try simp at hz2); have q0'' : w2.cell? ⟨wr.heap.size, 0, none⟩ = some (.slice ur lr cr) := cell_later hb2 (by go_simp); have p0'' : w2.cell? ⟨w.heap.size, 0, none⟩ = some (.int .i64 W) := cell_later hb2 (by go_simp); have p1'' : w2.cell? ⟨w.heap.size, 1, none⟩ = some (.slice (some ⟨b, o, none⟩) cs.length c) := cell_later hb2 (by go_simp)) | fail)
            go_region
            go_wp2
            go_roundw
            case rel =>
              refine ⟨1, 1, hlt, rfl, by simp, by repeat (first | exact Below.refl _ _ | refine Below.drew ?_ | refine Below.alloc ?_ (by first | (simp; done) | (simp; omega) | omega) _ | refine Below.setCell ?_ (by first | (simp; done) | (simp; omega) | omega) _ | refine bstep (by assumption) (by first | (simp; done) | (simp; omega) | omega) ?_), by (first | omega | (simp; omega)), p0'', p1'', ?_⟩
              rw [HE.out, HS.out, hok, hcn, prev_zero]
              simp [okPrev]
            case measure => simp [intOf]; omega
          · obtain ⟨j, rfl⟩ : ∃ j, k = j + 1 := ⟨k - 1, by omega⟩
            obtain rfl : q = (j : Int) + 1 := by omega
            obtain ⟨y, t, hy, d0, hT, d1, _⟩ := hL.at hblt hb (show j < cs.length by omega)
            have HP : Hid (prev cs (j + 1) = some y) := prev_succ hy
            clear ha hw hL hx hy hq
            go_wp2_with (first | (go_at_call 72; refine Calls.mono (rowOk_any _ x.r W _ (hR.below (by repeat (first | exact Below.refl _ _ | refine Below.drew ?_ | refine Below.alloc ?_ (by first | (simp; done) | (simp; omega) | omega) _ | refine Below.setCell ?_ (by first | (simp; done) | (simp; omega) | omega) _ | refine bstep (by assumption) (by first | (simp; done) | (simp; omega) | omega) ?_))) hxw) ?_; rintro e w1 ⟨rfl, hb1⟩; have hz1 := hb1.size; (try simp at hz1); have hf1 := (bcell hb1).2; have q0 : w1.cell? ⟨wr.heap.size, 0, none⟩ = some (.slice ur lr cr) := cell_later hb1 (by go_simp); have q1 : w1.cell? ⟨wr.heap.size, 1, none⟩ = some (.int .i64 x.n) := cell_later hb1 (by go_simp); have p0' : w1.cell? ⟨w.heap.size, 0, none⟩ = some (.int .i64 W) := cell_later hb1 (by go_simp); have p1' : w1.cell? ⟨w.heap.size, 1, none⟩ = some (.slice (some ⟨b, o, none⟩) cs.length c) := cell_later hb1 (by go_simp); have d1' : w1.cell? ⟨b, o + j * 2, none⟩ = some t := cell_later hb1 (by go_simp)) | (go_at_call 73; refine (countOk_any _ _).mono ?_; rintro e w2 ⟨rfl, hb2⟩; have hz2 := hb2.size; (try simp at hz2); have q0'' : w2.cell? ⟨wr.heap.size, 0, none⟩ = some (.slice ur lr cr) := cell_later hb2 (by go_simp); have p0'' : w2.cell? ⟨w.heap.size, 0, none⟩ = some (.int .i64 W) := cell_later hb2 (by go_simp); have p1'' : w2.cell? ⟨w.heap.size, 1, none⟩ = some (.slice (some ⟨b, o, none⟩) cs.length c) := cell_later hb2 (by go_simp); have d2 : w2.cell? ⟨b, o + j * 2, none⟩ = some t := cell_later hb2 (by go_simp)) | fail)
            have hT2 : RowIs w2 t y.r := hT.below (by repeat (first | exact Below.refl _ _ | refine Below.drew ?_ | refine Below.alloc ?_ (by first | (simp; done) | (simp; omega) | omega) _ | refine Below.setCell ?_ (by first | (simp; done) | (simp; omega) | omega) _ | refine bstep (by assumption) (by first | (simp; done) | (simp; omega) | omega) ?_))
            have hR2 : RowIs w2 (.slice ur lr cr) x.r := hR.below (by repeat (first | exact Below.refl _ _ | refine Below.drew ?_ | refine Below.alloc ?_ (by first | (simp; done) | (simp; omega) | omega) _ | refine Below.setCell ?_ (by first | (simp; done) | (simp; omega) | omega) _ | refine bstep (by assumption) (by first | (simp; done) | (simp; omega) | omega) ?_))
            have hw1 : IntKind.i64.wrap (j : Int) = j := by rw [IntKind.wrap_i64]; omega
            have hw2 : IntKind.i64.wrap ((j : Int) + 1 - 1) = j := by rw [IntKind.wrap_i64]; omega
            have hi0 : (0 : Int) ≤ j := by omega
            have hi1 : (j : Int) < cs.length := by omega
            have hi2 : (0 : Int) < (j : Int) + 1 := by omega
            go_region_held3 (fun w' => w'.cell? ⟨w.heap.size, 0, none⟩ = some (.int .i64 W) ∧ w'.cell? ⟨w.heap.size, 1, none⟩ = some (.slice (some ⟨b, o, none⟩) cs.length c) ∧ w'.cell? ⟨wr.heap.size, 0, none⟩ = some (.slice ur lr cr) ∧ w'.cell? ⟨b, o + j * 2, none⟩ = some t) (refine ⟨?_, ?_, ?_, ?_⟩ <;> first | (go_simp; done) | (exact cell_later (by assumption) (by go_simp))) (first | (go_at_call 74; refine Calls.mono (implRow_any t (.slice ur lr cr) y.r x.r _ (hT2.below (by repeat (first | exact Below.refl _ _ | refine Below.drew ?_ | refine Below.alloc ?_ (by first | (simp; done) | (simp; omega) | omega) _ | refine Below.setCell ?_ (by first | (simp; done) | (simp; omega) | omega) _ | refine bstep (by assumption) (by first | (simp; done) | (simp; omega) | omega) ?_))) (hR2.below (by repeat (first | exact Below.refl _ _ | refine Below.drew ?_ | refine Below.alloc ?_ (by first | (simp; done) | (simp; omega) | omega) _ | refine Below.setCell ?_ (by first | (simp; done) | (simp; omega) | omega) _ | refine bstep (by assumption) (by first | (simp; done) | (simp; omega) | omega) ?_)))) ?_; rintro e w3 ⟨rfl, hb3⟩))
            have hz3 := hb3.size
            simp at hz3
            have HQ : Hid (okPrev (prev cs (j + 1)) x = decide (cmpRow y.r x.r < 0)) := by rw [HP.out]; rfl
            have r0 : w3.cell? ⟨w.heap.size, 0, none⟩ = some (.int .i64 W) := cell_later hb3 (by go_simp)
            have r1 : w3.cell? ⟨w.heap.size, 1, none⟩ = some (.slice (some ⟨b, o, none⟩) cs.length c) := cell_later hb3 (by go_simp)
            by_cases hcmp : 0 ≤ cmpRow y.r x.r
            · go_wp2
              go_returns
              refine ⟨ret_bool ?_, by repeat (first | exact Below.refl _ _ | refine Below.drew ?_ | refine Below.alloc ?_ (by first | (simp; done) | (simp; omega) | omega) _ | refine Below.setCell ?_ (by first | (simp; done) | (simp; omega) | omega) _ | refine bstep (by assumption) (by first | (simp; done) | (simp; omega) | omega) ?_)⟩
              rw [HB.out, HE.out, HS.out, HQ.out]
              simp [show ¬ cmpRow y.r x.r < 0 from by omega]
            · go_wp2
              go_roundw
              case rel =>
                refine ⟨j + 1 + 1, (j : Int) + 1 + 1, hlt, by omega, by simp, by repeat (first | exact Below.refl _ _ | refine Below.drew ?_ | refine Below.alloc ?_ (by first | (simp; done) | (simp; omega) | omega) _ | refine Below.setCell ?_ (by first | (simp; done) | (simp; omega) | omega) _ | refine bstep (by assumption) (by first | (simp; done) | (simp; omega) | omega) ?_), by (first | omega | (simp; omega)), r0, r1, ?_⟩
                rw [HE.out, HS.out, HQ.out, hok, hcn]
                simp [show cmpRow y.r x.r < 0 from by omega]
              case measure => simp [intOf]; omega
        · clear ha hw hL hx
          go_wp2_with (first | (go_at_call 72; refine Calls.mono (rowOk_any _ x.r W _ (hR.below (by repeat (first | exact Below.refl _ _ | refine Below.drew ?_ | refine Below.alloc ?_ (by first | (simp; done) | (simp; omega) | omega) _ | refine Below.setCell ?_ (by first | (simp; done) | (simp; omega) | omega) _ | refine bstep (by assumption) (by first | (simp; done) | (simp; omega) | omega) ?_))) hxw) ?_; rintro e w1 ⟨rfl, hb1⟩; have hz1 := hb1.size; (try simp at hz1); have hf1 := (bcell hb1).2; have q0 : w1.cell? ⟨wr.heap.size, 0, none⟩ = some (.slice ur lr cr) := cell_later hb1 (by go_simp); have q1 : w1.cell? ⟨wr.heap.size, 1, none⟩ = some (.int .i64 x.n) := cell_later hb1 (by go_simp); have p0' : w1.cell? ⟨w.heap.size, 0, none⟩ = some (.int .i64 W) := cell_later hb1 (by go_simp); have p1' : w1.cell? ⟨w.heap.size, 1, none⟩ = some (.slice (some ⟨b, o, none⟩) cs.length c) := cell_later hb1 (by go_simp)) | (go_at_call 73; refine (countOk_any _ _).mono ?_; rintro e w2 ⟨rfl, hb2⟩; have hz2 := hb2.size; (try simp at hz2); have q0'' : w2.cell? ⟨wr.heap.size, 0, none⟩ = some (.slice ur lr cr) := cell_later hb2 (by go_simp); have p0'' : w2.cell? ⟨w.heap.size, 0, none⟩ = some (.int .i64 W) := cell_later hb2 (by go_simp); have p1'' : w2.cell? ⟨w.heap.size, 1, none⟩ = some (.slice (some ⟨b, o, none⟩) cs.length c) := cell_later hb2 (by go_simp)) | fail)
          go_returns
          refine ⟨ret_bool ?_, by repeat (first | exact Below.refl _ _ | refine Below.drew ?_ | refine Below.alloc ?_ (by first | (simp; done) | (simp; omega) | omega) _ | refine Below.setCell ?_ (by first | (simp; done) | (simp; omega) | omega) _ | refine bstep (by assumption) (by first | (simp; done) | (simp; omega) | omega) ?_)⟩
          have hf : okN x.n = false := by simpa using hcn
          rw [HB.out, HE.out, HS.out, hf]
          simp
      · clear ha hw hL hx
        go_wp2_with (first | (go_at_call 72; refine Calls.mono (rowOk_any _ x.r W _ (hR.below (by repeat (first | exact Below.refl _ _ | refine Below.drew ?_ | refine Below.alloc ?_ (by first | (simp; done) | (simp; omega) | omega) _ | refine Below.setCell ?_ (by first | (simp; done) | (simp; omega) | omega) _ | refine bstep (by assumption) (by first | (simp; done) | (simp; omega) | omega) ?_))) hxw) ?_; rintro e w1 ⟨rfl, hb1⟩; have hz1 := hb1.size; (try simp at hz1); have hf1 := (bcell hb1).2; have q0 : w1.cell? ⟨wr.heap.size, 0, none⟩ = some (.slice ur lr cr) := cell_later hb1 (by go_simp); have q1 : w1.cell? ⟨wr.heap.size, 1, none⟩ = some (.int .i64 x.n) := cell_later hb1 (by go_simp); have p0' : w1.cell? ⟨w.heap.size, 0, none⟩ = some (.int .i64 W) := cell_later hb1 (by go_simp); have p1' : w1.cell? ⟨w.heap.size, 1, none⟩ = some (.slice (some ⟨b, o, none⟩) cs.length c) := cell_later hb1 (by go_simp)) | (go_at_call 73; refine (countOk_any _ _).mono ?_; rintro e w2 ⟨rfl, hb2⟩; have hz2 := hb2.size; (try simp at hz2); have q0'' : w2.cell? ⟨wr.heap.size, 0, none⟩ = some (.slice ur lr cr) := cell_later hb2 (by go_simp); have p0'' : w2.cell? ⟨w.heap.size, 0, none⟩ = some (.int .i64 W) := cell_later hb2 (by go_simp); have p1'' : w2.cell? ⟨w.heap.size, 1, none⟩ = some (.slice (some ⟨b, o, none⟩) cs.length c) := cell_later hb2 (by go_simp)) | fail)
        go_returns
        refine ⟨ret_bool ?_, by repeat (first | exact Below.refl _ _ | refine Below.drew ?_ | refine Below.alloc ?_ (by first | (simp; done) | (simp; omega) | omega) _ | refine Below.setCell ?_ (by first | (simp; done) | (simp; omega) | omega) _ | refine bstep (by assumption) (by first | (simp; done) | (simp; omega) | omega) ?_)⟩
        have hf : okRow x.r W = false := by simpa using hok
        rw [HB.out, HE.out, HS.out, hf]
        simp
    · clear ha hw
      go_wp2
      go_returns
      refine ⟨ret_bool ?_, hb⟩
      rw [HB.out, HE.out, List.drop_eq_nil_of_le (by omega)]
      rfl
end Go.Proofs.YtaeibfipcenhaaaGreatDoor
namespace Go.Proofs.YtaeibfipcenhaaaGreatDoor
open Go.RowKit
set_option linter.unusedVariables false
theorem okCs_all : ∀ {W : Int} {p : Option C2} {cs : List C2}, okCs W p cs = true → Asc cs ∧ (∀ y, p = some y → ∀ c ∈ cs, cmpRow y.r c.r < 0) ∧ ∀ c ∈ cs, okRow c.r W = true ∧ okN c.n = true
  | W, p, [], _ => ⟨List.Pairwise.nil, fun _ _ _ h => (by cases h), fun _ h => (by cases h)⟩
  | W, p, x :: xs, h => by
    simp only [okCs, Bool.and_eq_true] at h
    obtain ⟨⟨⟨h1, h2⟩, h3⟩, h4⟩ := h
    obtain ⟨a1, a2, a3⟩ := okCs_all h4
    refine ⟨List.pairwise_cons.2 ⟨a2 x rfl, a1⟩, fun y hy c hc => ?_, fun c hc => ?_⟩
    · subst hy
      have h5 : cmpRow y.r x.r < 0 := by simpa [okPrev] using h3
      rcases List.mem_cons.1 hc with rfl | hc
      · exact h5
      · exact cmpRow_trans h5 (a2 x rfl c hc)
    · rcases List.mem_cons.1 hc with rfl | hc
      · exact ⟨h1, h2⟩
      · exact a3 c hc
theorem okBag_all {W : Int} {cs : List C2} (h : okBag W cs = true) (hw : CsWf cs) : 0 ≤ W ∧ W ≤ 12 ∧ cs.length ≤ 400 ∧ Asc cs ∧ ∀ c ∈ cs, GoodRow W c.r ∧ c.n ≠ 0 ∧ -1000000000 ≤ c.n ∧ c.n ≤ 1000000000 := by
  simp only [okBag, Bool.and_eq_true, decide_eq_true_eq] at h
  obtain ⟨⟨⟨h1, h2⟩, h3⟩, h4⟩ := h
  obtain ⟨a1, _, a3⟩ := okCs_all h4
  refine ⟨h1, h2, h3, a1, fun c hc => ?_⟩
  obtain ⟨b1, b2⟩ := a3 c hc
  simp only [okN, Bool.and_eq_true, decide_eq_true_eq] at b2
  exact ⟨⟨b1, (hw c hc).1⟩, b2.1.1, b2.1.2, b2.2⟩
theorem wf_small {n : Int} (h : -9223372036854775808 ≤ n ∧ n ≤ 9223372036854775807) : (Lit.int .i64 n).wf = true := by
  have e1 : IntKind.i64.min = -9223372036854775808 := rfl
  have e2 : IntKind.i64.max = 9223372036854775807 := rfl
  simp [Lit.wf, e1, e2]
  omega
end Go.Proofs.YtaeibfipcenhaaaGreatDoor
