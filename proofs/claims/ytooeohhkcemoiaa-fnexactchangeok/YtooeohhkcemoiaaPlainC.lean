/- Own text. Whether a bag is plain: the contracts of both Plain. -/
import Derived.Test.YtooeohhkcemoiaaBagOkS
import Derived.Handy
namespace Go.Proofs.Ytooeohhkcemoiaa
open Go.RowKit
set_option linter.unusedVariables false
def noLess (cs : List C2) : Bool := cs.all fun x => decide (0 ≤ x.n)
def okPlain (W : Int) (cs : List C2) : Bool := noLess cs && okBag W cs
theorem noLess_step {cs : List C2} {k : Nat} {x : C2} (h : cs[k]? = some x) : noLess (cs.drop k) = (decide (0 ≤ x.n) && noLess (cs.drop (k + 1))) := by
  obtain ⟨hk, rfl⟩ := List.getElem?_eq_some_iff.1 h
  rw [List.drop_eq_getElem_cons hk]
  rfl
set_option maxHeartbeats 4000000 in
set_option maxRecDepth 100000 in
theorem specPlain_any (W : Int) (v : Value) (cs : List C2) (w : World) (hw : CsWf cs) (hr : RowsIs w v cs) :
    Calls Try.prog 13 #[.agg #[.int .i64 W, v]] w fun e w' => e = .returned (.bool (okPlain W cs)) ∧ Below w.heap.size w w' := by
  obtain ⟨a, c, b, o, rfl, hl, hc, ha⟩ := hr.pick
  unfold maxLen at hc
  go_enter Try.func13, Try.ntmps13
  go_wp2
  go_loop [3] (fun i => ∃ k : Nat, k ≤ cs.length ∧ i = .int .i64 k ∧ noLess cs = noLess (cs.drop k)) (fun i => cs.length - (intOf i).toNat)
  case atStart => exact ⟨0, Nat.zero_le _, rfl, by simp⟩
  case round =>
    obtain ⟨k, hk, rfl, heq⟩ := hrel
    have HE : Hid (noLess cs = noLess (cs.drop k)) := heq
    clear heq
    by_cases hlt : k < cs.length
    · obtain ⟨rfl, hblt, hL⟩ := ha k hlt
      obtain ⟨x, u, hx, c0, hR, c1, hbr⟩ := hL.at hblt (Below.refl _ _) hlt
      have HS : Hid (noLess (cs.drop k) = (decide (0 ≤ x.n) && noLess (cs.drop (k + 1)))) := noLess_step hx
      clear ha hL hx hR hr hw
      by_cases hn : x.n < 0
      · go_wp2
        go_returns
        refine ⟨ret_bool ?_, by go_grown⟩
        unfold okPlain
        rw [HE.out, HS.out, show decide (0 ≤ x.n) = false from by simp; omega, Bool.false_and, Bool.false_and]
      · go_wp2
        go_roundw
        case rel =>
          refine ⟨k + 1, hlt, by simp, ?_⟩
          rw [HE.out, HS.out, show decide (0 ≤ x.n) = true from by simp; omega, Bool.true_and]
        case measure => simp [intOf]; omega
    · have HN : Hid (noLess cs = true) := by rw [HE.out, List.drop_eq_nil_of_le (by omega)]; exact rfl
      clear ha
      go_wp2_with fail
      refine Calls.mono (specBagOk_any W (.slice a cs.length c) cs _ hw (hr.below ?hb)) ?_
      case hb => repeat (first | exact Below.refl _ _ | refine Below.drew ?_ | refine Below.alloc ?_ (by first | (simp; done) | (simp; omega) | omega) _ | refine Below.setCell ?_ (by first | (simp; done) | (simp; omega) | omega) _ | refine bstep (by assumption) (by first | (simp; done) | (simp; omega) | omega) ?_)
      rintro e w1 ⟨rfl, hb1⟩
      have hz1 := hb1.size
      simp only [World.size_alloc] at hz1
      go_wp2
      go_returns
      refine ⟨ret_bool ?_, by repeat (first | exact Below.refl _ _ | refine Below.drew ?_ | refine Below.alloc ?_ (by first | (simp; done) | (simp; omega) | omega) _ | refine Below.setCell ?_ (by first | (simp; done) | (simp; omega) | omega) _ | refine bstep (by assumption) (by first | (simp; done) | (simp; omega) | omega) ?_)⟩
      unfold okPlain
      rw [HN.out, Bool.true_and]
set_option maxHeartbeats 4000000 in
set_option maxRecDepth 100000 in
theorem implPlain_any (W : Int) (v : Value) (cs : List C2) (w : World) (hw : CsWf cs) (hr : RowsIs w v cs) :
    Calls Try.prog 20 #[.agg #[.int .i64 W, v]] w fun e w' => e = .returned (.bool (okPlain W cs)) ∧ Below w.heap.size w w' := by
  obtain ⟨a, c, b, o, rfl, hl, hc, ha⟩ := hr.pick
  unfold maxLen at hc
  go_enter Try.func20, Try.ntmps20
  go_wp2
  go_loopw [8] (fun i wr => ∃ k : Nat, k ≤ cs.length ∧ i = .int .i64 k ∧ noLess cs = noLess (cs.drop k) ∧ Below w.heap.size w wr ∧ w.heap.size < wr.heap.size ∧ wr.cell? ⟨w.heap.size, 0, none⟩ = some (.int .i64 W) ∧ wr.cell? ⟨w.heap.size, 1, none⟩ = some (.slice a cs.length c)) (fun i _ => cs.length - (intOf i).toNat)
  case atStart => exact ⟨0, Nat.zero_le _, rfl, by simp, by go_grown, by simp, by go_simp, by go_simp⟩
  case round =>
    obtain ⟨k, hk, rfl, heq, hb, hsz, p0, p1⟩ := hrel
    have HE : Hid (noLess cs = noLess (cs.drop k)) := heq
    have hzb := hb.size
    clear heq
    by_cases hlt : k < cs.length
    · obtain ⟨rfl, hblt, hL⟩ := ha k hlt
      obtain ⟨x, u, hx, c0, hR, c1, hbr⟩ := hL.at hblt hb hlt
      obtain ⟨ur, lr, cr, rfl⟩ := hR.shape
      have HS : Hid (noLess (cs.drop k) = (decide (0 ≤ x.n) && noLess (cs.drop (k + 1)))) := noLess_step hx
      clear ha hL hx hR hr hw
      by_cases hn : x.n < 0
      · go_wp2
        go_returns
        refine ⟨ret_bool ?_, by repeat (first | exact Below.refl _ _ | refine Below.drew ?_ | refine Below.alloc ?_ (by first | (simp; done) | (simp; omega) | omega) _ | refine Below.setCell ?_ (by first | (simp; done) | (simp; omega) | omega) _ | refine bstep (by assumption) (by first | (simp; done) | (simp; omega) | omega) ?_)⟩
        unfold okPlain
        rw [HE.out, HS.out, show decide (0 ≤ x.n) = false from by simp; omega, Bool.false_and, Bool.false_and]
      · go_wp2
        go_roundw
        case rel =>
          refine ⟨k + 1, hlt, by simp, ?_, by repeat (first | exact Below.refl _ _ | refine Below.drew ?_ | refine Below.alloc ?_ (by first | (simp; done) | (simp; omega) | omega) _ | refine Below.setCell ?_ (by first | (simp; done) | (simp; omega) | omega) _ | refine bstep (by assumption) (by first | (simp; done) | (simp; omega) | omega) ?_), by (first | omega | (simp; omega)), by go_simp, by go_simp⟩
          rw [HE.out, HS.out, show decide (0 ≤ x.n) = true from by simp; omega, Bool.true_and]
        case measure => simp [intOf]; omega
    · have HN : Hid (noLess cs = true) := by rw [HE.out, List.drop_eq_nil_of_le (by omega)]; exact rfl
      clear ha
      go_wp2_with fail
      refine Calls.mono (implBagOk_any W (.slice a cs.length c) cs _ hw (hr.below ?hb)) ?_
      case hb => repeat (first | exact Below.refl _ _ | refine Below.drew ?_ | refine Below.alloc ?_ (by first | (simp; done) | (simp; omega) | omega) _ | refine Below.setCell ?_ (by first | (simp; done) | (simp; omega) | omega) _ | refine bstep (by assumption) (by first | (simp; done) | (simp; omega) | omega) ?_)
      rintro e w1 ⟨rfl, hb1⟩
      have hz1 := hb1.size
      go_wp2
      go_returns
      refine ⟨ret_bool ?_, by repeat (first | exact Below.refl _ _ | refine Below.drew ?_ | refine Below.alloc ?_ (by first | (simp; done) | (simp; omega) | omega) _ | refine Below.setCell ?_ (by first | (simp; done) | (simp; omega) | omega) _ | refine bstep (by assumption) (by first | (simp; done) | (simp; omega) | omega) ?_)⟩
      unfold okPlain
      rw [HN.out, Bool.true_and]
end Go.Proofs.Ytooeohhkcemoiaa
