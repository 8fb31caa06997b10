/- Own text. The contract of impl.ExpOk. -/
import Derived.Test.YtlpgkhdmilnbgaaDoorParts
import Derived.Test.YtlpgkhdmilnbgaaDoorExpC
import Derived.Handy
namespace Go.Proofs.YtlpgkhdmilnbgaaDoor
open Go.RowKit
set_option linter.unusedVariables false
/-- whether an expression is right, and nothing stands as many as f below it. -/
def okE : Nat → E7 → Bool
  | 0, _ => false
  | f + 1, e => partsB e && e.ks.all (okE f)
theorem allE_step {es : List E7} {k : Nat} {x : E7} {q : E7 → Bool} (h : es[k]? = some x) : (es.drop k).all q = (q x && (es.drop (k + 1)).all q) := by
  obtain ⟨hk, rfl⟩ := List.getElem?_eq_some_iff.1 h
  rw [List.drop_eq_getElem_cons hk, List.all_cons]
/-- expOkAt where f - 1 more may stand below. -/
def OkI (f : Nat) : Prop := ∀ (e : E7) (u : Value) (F : List Nat) (d : Nat) (w : World), e.wf → KidsIs w d u e.ks F →
    Calls Tryd.prog 41 #[(.agg #[.int .i64 e.k, .int .i64 e.n, .int .i64 e.v.k, .int .i64 e.v.n, .string e.v.s, .string e.p, u]), .int .i64 (13 - f)] w fun x w' => x = .returned (.bool (okE f e)) ∧ Below w.heap.size w w'
set_option maxHeartbeats 2000000 in
set_option maxRecDepth 100000 in
theorem expOkAt_zero : OkI 0 := by
  intro e u F d w hw hk
  obtain ⟨a, c, rfl, _, _⟩ := hk.shape
  simp only [okE]
  go_enter Tryd.func41, Tryd.ntmps41
  go_wp2
  go_returns
  exact ⟨rfl, by repeat (first | (with_reducible exact Below.refl _ _) | (with_reducible refine Below.drew ?_) | (with_reducible refine Below.alloc ?_ ?hh _; case hh => first | (simp; done) | (simp; omega) | omega) | (with_reducible refine Below.setCell ?_ ?hh _; case hh => first | (simp; done) | (simp; omega) | omega) | refine bstep (by assumption) (by first | (simp; done) | (simp; omega) | omega) ?_)⟩
set_option maxHeartbeats 2000000 in
set_option maxRecDepth 100000 in
theorem expOkAt_step {f : Nat} (hf : f < 13) (hI : OkI f) : OkI (f + 1) := by
  intro e u F d w hw hk
  obtain ⟨d, rfl⟩ : ∃ d', d = d' + 1 := by cases d with | zero => exact hk.elim | succ d => exact ⟨d, rfl⟩
  obtain ⟨a, c, b, o, G, rfl, hl, hc, hG, _, ha⟩ := hk.pick
  have hml : e.ks.length ≤ maxLen := by omega
  have hsm : e.v.s.size ≤ maxLen := hw.2.2.1.2.2
  unfold maxLen at hc
  obtain ⟨t, ht⟩ : ∃ t : Int, t = 13 - ((f + 1 : Nat) : Int) := ⟨_, rfl⟩
  rw [← ht]
  have ht0 : 0 ≤ t := by omega
  have ht1 : t ≤ 12 := by omega
  have HT : Hid (t + 1 = 13 - (f : Int)) := by show _ = _; omega
  have HO : Hid (okE (f + 1) e = (partsB e && e.ks.all (okE f))) := rfl
  have hI2 : ∀ (e : E7) (u : Value) (F : List Nat) (d : Nat) (w : World), e.wf → KidsIs w d u e.ks F →
    Calls Tryd.prog 41 #[(.agg #[.int .i64 e.k, .int .i64 e.n, .int .i64 e.v.k, .int .i64 e.v.n, .string e.v.s, .string e.p, u]), .int .i64 (t + 1)] w fun x w' => x = .returned (.bool (okE f e)) ∧ Below w.heap.size w w' := by rw [HT.out]; exact hI
  clear ht hf hI HT
  go_enter Tryd.func41, Tryd.ntmps41
  go_wp2_with fail
  refine Calls.mono (partsOk_any e a c _ hsm hml) ?_
  rintro x w1 ⟨rfl, hb1⟩
  have hz1 := hb1.size
  simp at hz1
  have q6 : w1.cell? ⟨w.heap.size, 6, none⟩ = some (.slice a e.ks.length c) := cell_later hb1 (by go_simp)
  have bel : Below w.heap.size w w1 := by repeat (first | (with_reducible exact Below.refl _ _) | (with_reducible refine Below.drew ?_) | (with_reducible refine Below.alloc ?_ ?hh _; case hh => first | (simp; done) | (simp; omega) | omega) | (with_reducible refine Below.setCell ?_ ?hh _; case hh => first | (simp; done) | (simp; omega) | omega) | refine bstep (by assumption) (by first | (simp; done) | (simp; omega) | omega) ?_)
  cases hB : partsB e with
  | false =>
    have HB : Hid (okE (f + 1) e = false) := by show _ = _; rw [HO.out, hB]; rfl
    clear hB
    go_wp2
    go_returns
    exact ⟨ret_bool HB.out.symm, bel⟩
  | true =>
    have HB : Hid (okE (f + 1) e = e.ks.all (okE f)) := by show _ = _; rw [HO.out, hB]; rfl
    clear hB HO hb1
    go_wp2
    go_loopw [17] (fun i wr => ∃ k : Nat, k ≤ e.ks.length ∧ i = .int .i64 k ∧ e.ks.all (okE f) = (e.ks.drop k).all (okE f) ∧ Below w.heap.size w wr) (fun i _ => e.ks.length - (intOf i).toNat)
    case atStart => exact ⟨0, Nat.zero_le _, rfl, by simp, by repeat (first | (with_reducible exact Below.refl _ _) | (with_reducible refine Below.drew ?_) | (with_reducible refine Below.alloc ?_ ?hh _; case hh => first | (simp; done) | (simp; omega) | omega) | (with_reducible refine Below.setCell ?_ ?hh _; case hh => first | (simp; done) | (simp; omega) | omega) | refine bstep (by assumption) (by first | (simp; done) | (simp; omega) | omega) ?_)⟩
    case round =>
      obtain ⟨k, hkk, rfl, hal, hb⟩ := hrel
      have hzb := hb.size
      by_cases hlt : k < e.ks.length
      · obtain ⟨rfl, hblt, _, hL⟩ := ha k hlt
        obtain ⟨x, g, u, hx, hg, hxw, ⟨c0, c1, c2, c3, c4, c5⟩, c6, hK, hbr⟩ := hL.at hG hblt hb hlt
        obtain ⟨ax, cx, rfl, _, _⟩ := hK.shape
        have HS : Hid (e.ks.all (okE f) = (okE f x && (e.ks.drop (k + 1)).all (okE f))) := by show _ = _; rw [hal, allE_step hx]
        clear ha hL hx hal
        go_wp2_with fail
        refine Calls.mono (hI2 x (.slice ax x.ks.length cx) g d _ hxw (hK.below ?hb)) ?_
        case hb => repeat (first | (with_reducible exact Below.refl _ _) | (with_reducible refine Below.drew ?_) | (with_reducible refine Below.alloc ?_ ?hh _; case hh => first | (simp; done) | (simp; omega) | omega) | (with_reducible refine Below.setCell ?_ ?hh _; case hh => first | (simp; done) | (simp; omega) | omega) | refine bstep (by assumption) (by first | (simp; done) | (simp; omega) | omega) ?_)
        rintro y w2 ⟨rfl, hb2⟩
        have hz2 := hb2.size
        simp at hz2
        have bel2 : Below w.heap.size w w2 := by repeat (first | (with_reducible exact Below.refl _ _) | (with_reducible refine Below.drew ?_) | (with_reducible refine Below.alloc ?_ ?hh _; case hh => first | (simp; done) | (simp; omega) | omega) | (with_reducible refine Below.setCell ?_ ?hh _; case hh => first | (simp; done) | (simp; omega) | omega) | refine bstep (by assumption) (by first | (simp; done) | (simp; omega) | omega) ?_)
        cases hX : okE f x with
        | false =>
          have HX : Hid (okE (f + 1) e = false) := by show _ = _; rw [HB.out, HS.out, hX]; rfl
          clear hX
          go_wp2
          go_returns
          exact ⟨ret_bool HX.out.symm, bel2⟩
        | true =>
          have HX : Hid (e.ks.all (okE f) = (e.ks.drop (k + 1)).all (okE f)) := by show _ = _; rw [HS.out, hX]; rfl
          clear hX
          go_wp2
          exact ⟨⟨k + 1, hlt, by simp, HX.out, bel2⟩, by simp [intOf]; omega⟩
      · go_wp2
        go_returns
        refine ⟨ret_bool ?_, hb⟩
        rw [HB.out, hal, List.drop_eq_nil_of_le (by omega)]
        rfl
theorem expOkAt_any : ∀ f, f ≤ 13 → OkI f
  | 0, _ => expOkAt_zero
  | f + 1, h => expOkAt_step (by omega) (expOkAt_any f (by omega))
set_option maxHeartbeats 1000000 in
set_option maxRecDepth 100000 in
theorem implExpOk_any (e : E7) (u : Value) (F : List Nat) (d : Nat) (w : World) (hw : e.wf) (hk : KidsIs w d u e.ks F) :
    Calls Tryd.prog 35 #[(.agg #[.int .i64 e.k, .int .i64 e.n, .int .i64 e.v.k, .int .i64 e.v.n, .string e.v.s, .string e.p, u])] w fun x w' => x = .returned (.bool (okE 13 e)) ∧ Below w.heap.size w w' := by
  have hI := expOkAt_any 13 (Nat.le_refl _)
  have hI2 : ∀ (e : E7) (u : Value) (F : List Nat) (d : Nat) (w : World), e.wf → KidsIs w d u e.ks F →
    Calls Tryd.prog 41 #[(.agg #[.int .i64 e.k, .int .i64 e.n, .int .i64 e.v.k, .int .i64 e.v.n, .string e.v.s, .string e.p, u]), .int .i64 0] w fun x w' => x = .returned (.bool (okE 13 e)) ∧ Below w.heap.size w w' := hI
  clear hI
  obtain ⟨a, c, rfl, _, _⟩ := hk.shape
  go_enter Tryd.func35, Tryd.ntmps35
  go_wp2_with fail
  refine Calls.mono (hI2 e (.slice a e.ks.length c) F d _ hw (hk.below ?hb)) ?_
  case hb => repeat (first | (with_reducible exact Below.refl _ _) | (with_reducible refine Below.drew ?_) | (with_reducible refine Below.alloc ?_ ?hh _; case hh => first | (simp; done) | (simp; omega) | omega) | (with_reducible refine Below.setCell ?_ ?hh _; case hh => first | (simp; done) | (simp; omega) | omega) | refine bstep (by assumption) (by first | (simp; done) | (simp; omega) | omega) ?_)
  rintro y w2 ⟨rfl, hb2⟩
  have hz2 := hb2.size
  simp at hz2
  go_wp2
  go_returns
  exact ⟨rfl, by repeat (first | (with_reducible exact Below.refl _ _) | (with_reducible refine Below.drew ?_) | (with_reducible refine Below.alloc ?_ ?hh _; case hh => first | (simp; done) | (simp; omega) | omega) | (with_reducible refine Below.setCell ?_ ?hh _; case hh => first | (simp; done) | (simp; omega) | omega) | refine bstep (by assumption) (by first | (simp; done) | (simp; omega) | omega) ?_)⟩
end Go.Proofs.YtlpgkhdmilnbgaaDoor
