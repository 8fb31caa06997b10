/- Own text. The contracts of markExp and heldExp; lists of numbers: how they lie in memory, eqIntS, markIntS, heldIntS. -/
import Derived.Test.YtpkebpbflfhbnaaMarkEW
import Derived.Handy
namespace Go.Proofs.Ytpkebpbflfhbnaa
open Go.RowKit Go.Deep
set_option linter.unusedVariables false
set_option maxHeartbeats 1000000 in
set_option maxRecDepth 100000 in
theorem markExp_any (d k : Nat) (e : E7) (u : Value) (F : List Nat) (w : World) (hr : KidsIs w d u e.ks F) (hnd : F.Nodup) (hf : FreeE w F) (h0 : 0 < k) (h1 : k + 6 * nK d e.ks ≤ 999999900) :
    Calls Try.prog 13 #[(.agg #[.int .i64 e.k, .int .i64 e.n, .int .i64 e.v.k, .int .i64 e.v.n, .string e.v.s, .string e.p, u]), .int .i64 k] w fun x w' => x = .returned (.int .i64 ((k + 6 * nK d e.ks : Nat) : Int)) ∧ KidsIs w' d u (mK d k e.ks) F ∧ ChgE F w w' := by
  have hlt := hr.lt
  obtain ⟨a, c, rfl, _, _⟩ := hr.shape
  have hb1 : Below w.heap.size w (w.alloc (.cells #[.int .i64 e.k, .int .i64 e.n, .int .i64 e.v.k, .int .i64 e.v.n, .string e.v.s, .string e.p, .slice a e.ks.length c] 33)) := (Below.refl _ _).alloc (Nat.le_refl _) _
  have hc1 := ChgE.of_below hb1 hlt
  have hI := markExpS_any d k (.slice a e.ks.length c) e.ks F _ (hr.below hb1) hnd (hc1.free hf) h0 h1
  go_enter Try.func13, Try.ntmps13
  go_wp2_with fail
  refine Calls.mono hI ?_
  rintro x w2 ⟨rfl, hR2, hc2⟩
  have hch := hc1.trans hc2
  clear hc1 hc2 hb1 hf hr hI
  go_wp2
  go_returns
  exact ⟨rfl, hR2, hch⟩
set_option maxHeartbeats 1000000 in
set_option maxRecDepth 100000 in
theorem heldExp_any (d k : Nat) (e : E7) (ks : List E7) (u : Value) (F : List Nat) (w : World) (he : e.ks = mK d k ks) (hr : KidsIs w d u (mK d k ks) F) (h0 : 0 < k) (h1 : k + 6 * nK d ks ≤ 999999900) :
    Calls Try.prog 18 #[(.agg #[.int .i64 e.k, .int .i64 e.n, .int .i64 e.v.k, .int .i64 e.v.n, .string e.v.s, .string e.p, u]), .int .i64 k] w fun x w' => x = .returned (.int .i64 ((k + 6 * nK d ks : Nat) : Int)) ∧ Below w.heap.size w w' := by
  obtain ⟨a, c, rfl, _, _⟩ := hr.shape
  have hb1 : Below w.heap.size w (w.alloc (.cells #[.int .i64 e.k, .int .i64 e.n, .int .i64 e.v.k, .int .i64 e.v.n, .string e.v.s, .string e.p, .slice a (mK d k ks).length c] 33)) := (Below.refl _ _).alloc (Nat.le_refl _) _
  have hI := heldExpS_any d k (.slice a (mK d k ks).length c) ks F _ (hr.below hb1) h0 h1
  generalize (mK d k ks).length = lk at *
  generalize k + 6 * nK d ks = z at *
  go_enter Try.func18, Try.ntmps18
  go_wp2_with fail
  refine Calls.mono hI ?_
  rintro x w2 ⟨rfl, hb2⟩
  have bel : Below w.heap.size w w2 := by repeat (first | (with_reducible exact Below.refl _ _) | (with_reducible refine Below.drew ?_) | (with_reducible refine Below.alloc ?_ ?hh _; case hh => first | (simp; done) | (simp; omega) | omega) | (with_reducible refine Below.setCell ?_ ?hh _; case hh => first | (simp; done) | (simp; omega) | omega) | refine bstep (by assumption) (by first | (simp; done) | (simp; omega) | omega) ?_)
  clear hb2 hb1 hI hr
  go_wp2
  go_returns
  exact ⟨rfl, bel⟩
/-- the slice value v has the numbers ns; g: the block that they lie in. -/
def IntsF (w : World) (v : Value) (ns : List Int) (g : List Nat) : Prop :=
  ∃ (a : Option Addr) (c : Nat), v = .slice a ns.length c ∧ ns.length ≤ c ∧ c ≤ maxLen ∧ (ns = [] → g = []) ∧ (ns ≠ [] → ∃ b o, a = some ⟨b, o, none⟩ ∧ b < w.heap.size ∧ g = [b] ∧ ∀ i n, ns[i]? = some n → w.cell? ⟨b, o + i, none⟩ = some (.int .i64 n))
theorem IntsF.lt {w : World} {v : Value} {ns : List Int} {g : List Nat} (h : IntsF w v ns g) : ∀ b ∈ g, b < w.heap.size := by
  obtain ⟨a, c, _, _, _, h0, h⟩ := h
  by_cases hne : ns = []
  · rw [h0 hne]; intro b hb; cases hb
  · obtain ⟨b, o, _, hlt, rfl, _⟩ := h hne
    intro x hx
    rcases List.mem_singleton.1 hx with rfl
    exact hlt
theorem IntsF.keep {w w' : World} {v : Value} {ns : List Int} {g : List Nat} (h : IntsF w v ns g) (hs : w.heap.size ≤ w'.heap.size) (hg : ∀ b ∈ g, w'.heap[b]? = w.heap[b]?) : IntsF w' v ns g := by
  obtain ⟨a, c, e, hl, hc, h0, h⟩ := h
  refine ⟨a, c, e, hl, hc, h0, fun hne => ?_⟩
  obtain ⟨b, o, ea, hlt, rfl, hC⟩ := h hne
  exact ⟨b, o, ea, by omega, rfl, fun i n hn => (cell_blk (hg b (by simp))).trans (hC i n hn)⟩
theorem IntsF.below {w w' : World} {v : Value} {ns : List Int} {g : List Nat} (h : IntsF w v ns g) (hb : Below w.heap.size w w') : IntsF w' v ns g := h.keep hb.size fun b hg => hb.block b (h.lt b hg)
theorem IntsF.pick {w : World} {v : Value} {ns : List Int} {g : List Nat} (h : IntsF w v ns g) :
    ∃ a c b o, v = .slice a ns.length c ∧ ns.length ≤ c ∧ c ≤ maxLen ∧ (ns = [] → g = []) ∧ ∀ k, k < ns.length → a = some ⟨b, o, none⟩ ∧ b < w.heap.size ∧ g = [b] ∧ ∀ i n, ns[i]? = some n → w.cell? ⟨b, o + i, none⟩ = some (.int .i64 n) := by
  obtain ⟨a, c, rfl, hl, hc, h0, h⟩ := h
  by_cases hne : ns = []
  · exact ⟨a, c, 0, 0, rfl, hl, hc, h0, fun k hk => by rw [hne] at hk; simp at hk⟩
  · obtain ⟨b, o, h⟩ := h hne
    exact ⟨a, c, b, o, rfl, hl, hc, h0, fun _ _ => h⟩
set_option maxHeartbeats 1000000 in
set_option maxRecDepth 100000 in
theorem eqIntS_same (v u : Value) (ns : List Int) (g g' : List Nat) (w : World) (hr : IntsF w v ns g) (hu : IntsF w u ns g') :
    Calls Try.prog 11 #[v, u] w fun e w' => e = .returned (.bool true) ∧ Below w.heap.size w w' := by
  obtain ⟨a, c, b, o, rfl, hl, hc, _, ha⟩ := hr.pick
  obtain ⟨a', c', b', o', rfl, hl', hc', _, ha'⟩ := hu.pick
  unfold maxLen at hc hc'
  clear hr hu
  go_enter Try.func11, Try.ntmps11
  go_wp2
  go_loopw [5] (fun i wr => ∃ n : Nat, n ≤ ns.length ∧ i = .int .i64 n ∧ Below w.heap.size w wr) (fun i _ => ns.length - (intOf i).toNat)
  case atStart => exact ⟨0, Nat.zero_le _, rfl, by go_grown⟩
  case round =>
    obtain ⟨n, hn, rfl, hb⟩ := hrel
    by_cases hlt : n < ns.length
    · obtain ⟨rfl, hblt, _, hC⟩ := ha n hlt
      obtain ⟨rfl, hblt', _, hC'⟩ := ha' n hlt
      have hzb := hb.size
      have c0 := (hb.cell (p := ⟨b, _, none⟩) hblt).trans (hC n ns[n] (by simp))
      have c1 := (hb.cell (p := ⟨b', _, none⟩) hblt').trans (hC' n ns[n] (by simp))
      generalize ns[n] = z at c0 c1
      clear ha ha' hC hC'
      have hbr : b < wr.heap.size := by omega
      have hbr' : b' < wr.heap.size := by omega
      go_wp2_with fail
      go_region_with fail
      all_goals go_wp2
      all_goals exact ⟨⟨n + 1, hlt, by simp, by repeat (first | (with_reducible exact Below.refl _ _) | (with_reducible refine Below.drew ?_) | (with_reducible refine Below.alloc ?_ ?hh _; case hh => first | (simp; done) | (simp; omega) | omega) | (with_reducible refine Below.setCell ?_ ?hh _; case hh => first | (simp; done) | (simp; omega) | omega) | refine bstep (by assumption) (by first | (simp; done) | (simp; omega) | omega) ?_)⟩, by simp [intOf]; omega⟩
    · go_wp2
      go_returns
      exact ⟨rfl, hb⟩
/-- numbers that are marked from k on, the first n of them. -/
def mNi (k n : Nat) (ns : List Int) : List Int := ns.mapIdx fun i x => if i < n then ((k + i : Nat) : Int) else x
theorem mNi_len (k n : Nat) (ns : List Int) : (mNi k n ns).length = ns.length := by simp [mNi]
theorem mNi_at {k n i : Nat} {ns : List Int} {x : Int} (h : ns[i]? = some x) : (mNi k n ns)[i]? = some (if i < n then ((k + i : Nat) : Int) else x) := by simp [mNi, h]
theorem mNi_zero (k : Nat) (ns : List Int) : mNi k 0 ns = ns := by
  apply List.ext_getElem?
  intro i
  cases h : ns[i]? with
  | none => have := List.getElem?_eq_none_iff.1 h; rw [List.getElem?_eq_none (by rw [mNi_len]; exact this)]
  | some x => rw [mNi_at h, if_neg (by omega)]
def mN (k : Nat) (ns : List Int) : List Int := mNi k ns.length ns
set_option maxHeartbeats 1000000 in
set_option maxRecDepth 100000 in
theorem markIntS_any (k : Nat) (v : Value) (ns : List Int) (g : List Nat) (w : World) (hr : IntsF w v ns g) (hf : FreeE w g) (h0 : 0 < k) (h1 : k + ns.length ≤ 999999900) :
    Calls Try.prog 14 #[v, .int .i64 k] w fun e w' => e = .returned (.int .i64 ((k + ns.length : Nat) : Int)) ∧ IntsF w' v (mN k ns) g ∧ ChgE g w w' := by
  obtain ⟨a, c, b, o, rfl, hl, hc, hg0, ha⟩ := hr.pick
  have hcm := hc
  unfold maxLen at hc
  clear hr
  go_enter Try.func14, Try.ntmps14
  go_wp2
  go_loopw [1, 5] (fun kk i wr => ∃ n : Nat, n ≤ ns.length ∧ i = .int .i64 n ∧ kk = .int .i64 ((k + n : Nat) : Int) ∧ (∀ i x, (mNi k n ns)[i]? = some x → wr.cell? ⟨b, o + i, none⟩ = some (.int .i64 x)) ∧ ChgE g w wr) (fun _ i _ => ns.length - (intOf i).toNat)
  case atStart =>
    refine ⟨0, Nat.zero_le _, rfl, rfl, fun i x hx => ?_, ChgE.refl _ _⟩
    rw [mNi_zero] at hx
    exact (ha i (List.getElem?_eq_some_iff.1 hx).1).2.2.2 i x hx
  case round =>
    obtain ⟨n, hn, rfl, rfl, hH, hch⟩ := hrel
    by_cases hlt : n < ns.length
    · obtain ⟨rfl, hblt, rfl, _⟩ := ha n hlt
      have hzb := hch.size
      have hbr : b < wr.heap.size := by omega
      have hfr : ∀ i, wr.frozen? ⟨b, i, none⟩ = false := hch.free hf b (by simp)
      obtain ⟨x, hx⟩ : ∃ x, ns[n]? = some x := ⟨ns[n], by simp [hlt]⟩
      have c0 := hH n _ (mNi_at hx)
      rw [if_neg (by omega)] at c0
      have e0 : ((k + n : Nat) : Int) = (k : Int) + (n : Int) := by omega
      have hnew : ∀ i y, (mNi k (n + 1) ns)[i]? = some y → (wr.setCell ⟨b, o + n, none⟩ (.int .i64 ((k : Int) + (n : Int)))).cell? ⟨b, o + i, none⟩ = some (.int .i64 y) := by
        intro i y hy
        have hi : i < ns.length := by have := (List.getElem?_eq_some_iff.1 hy).1; rwa [mNi_len] at this
        obtain ⟨z, hz⟩ : ∃ z, ns[i]? = some z := ⟨ns[i], by simp [hi]⟩
        rw [mNi_at hz] at hy
        have hy := (Option.some.inj hy).symm
        by_cases ei : i = n
        · subst ei
          rw [if_pos (by omega)] at hy
          subst hy
          rw [e0]
          exact World.cell?_setCell_same _ _ _ c0
        · rw [far_set (by omega), hH i _ (mNi_at hz), hy]
          by_cases hin : i < n
          · rw [if_pos hin, if_pos (by omega)]
          · rw [if_neg hin, if_neg (by omega)]
      have hch2 : ChgE [b] w (wr.setCell ⟨b, o + n, none⟩ (.int .i64 ((k : Int) + (n : Int)))) := hch.setCell (p := ⟨b, _, none⟩) (by simp) _
      clear ha hH hch hf
      go_wp2
      exact ⟨⟨n + 1, hlt, by simp, by congr 1, hnew, hch2⟩, by simp [intOf]; omega⟩
    · go_wp2
      go_returns
      obtain rfl : n = ns.length := by omega
      refine ⟨rfl, ⟨a, c, by rw [mN, mNi_len], by rw [mN, mNi_len]; exact hl, hcm, fun e => hg0 (by have := congrArg List.length e; rw [mN, mNi_len] at this; exact List.length_eq_zero_iff.1 this), fun hne => ?_⟩, hch⟩
      have hp : 0 < ns.length := by have := List.length_pos_iff.2 hne; rwa [mN, mNi_len] at this
      obtain ⟨e, hlt, hF, _⟩ := ha 0 hp
      exact ⟨b, o, e, by have := hch.size; omega, hF, hH⟩
set_option maxHeartbeats 1000000 in
set_option maxRecDepth 100000 in
theorem heldIntS_any (k : Nat) (v : Value) (ns : List Int) (g : List Nat) (w : World) (hr : IntsF w v (mN k ns) g) (h0 : 0 < k) (h1 : k + ns.length ≤ 999999900) :
    Calls Try.prog 15 #[v, .int .i64 k] w fun e w' => e = .returned (.int .i64 ((k + ns.length : Nat) : Int)) ∧ Below w.heap.size w w' := by
  obtain ⟨a, c, b, o, rfl, hl, hc, _, ha⟩ := hr.pick
  have hln : (mN k ns).length = ns.length := mNi_len _ _ _
  rw [hln] at hl ha
  rw [hln]
  unfold maxLen at hc
  clear hr hln
  go_enter Try.func15, Try.ntmps15
  go_wp2
  go_loopw [1, 5] (fun kk i wr => ∃ n : Nat, n ≤ ns.length ∧ i = .int .i64 n ∧ kk = .int .i64 ((k + n : Nat) : Int) ∧ Below w.heap.size w wr) (fun _ i _ => ns.length - (intOf i).toNat)
  case atStart => exact ⟨0, Nat.zero_le _, rfl, rfl, by go_grown⟩
  case round =>
    obtain ⟨n, hn, rfl, rfl, hb⟩ := hrel
    by_cases hlt : n < ns.length
    · obtain ⟨rfl, hblt, _, hC⟩ := ha n hlt
      have hzb := hb.size
      obtain ⟨x, hx⟩ : ∃ x, ns[n]? = some x := ⟨ns[n], by simp [hlt]⟩
      have c0 := (hb.cell (p := ⟨b, _, none⟩) hblt).trans (hC n _ (mNi_at hx))
      rw [if_pos hlt] at c0
      have e0 : ((k + n : Nat) : Int) = (k : Int) + (n : Int) := by omega
      rw [e0] at c0
      have hbr : b < wr.heap.size := by omega
      clear ha hC
      go_wp2
      exact ⟨⟨n + 1, hlt, by simp, by congr 1, hb⟩, by simp [intOf]; omega⟩
    · go_wp2
      go_returns
      obtain rfl : n = ns.length := by omega
      exact ⟨rfl, hb⟩
end Go.Proofs.Ytpkebpbflfhbnaa
