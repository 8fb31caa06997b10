/- Own text. Lists of texts: eqStringS, markStringS, heldStringS. -/
import Derived.Test.YtjhcachbaebhfaaMarkX
import Derived.Test.YtjhcachbaebhfaaNmT
import Derived.Handy
import Derived.Deep.RegionHeld3
namespace Go.Proofs.Ytjhcachbaebhfaa
open Go.RowKit Go.Deep
set_option linter.unusedVariables false
set_option maxHeartbeats 1000000 in
set_option maxRecDepth 100000 in
theorem eqStringS_same (v u : Value) (ns : List ByteArray) (g g' : List Nat) (w : World) (hr : StrsF w v ns g) (hu : StrsF w u ns g') :
    Calls Try.prog 57 #[v, u] w fun e w' => e = .returned (.bool true) ∧ Below w.heap.size w w' := by
  obtain ⟨a, c, b, o, rfl, hl, hc, _, ha⟩ := hr.pick
  obtain ⟨a', c', b', o', rfl, hl', hc', _, ha'⟩ := hu.pick
  unfold maxLen at hc hc'
  clear hr hu
  go_enter Try.func57, Try.ntmps57
  go_wp2
  go_loopw [5] (fun i wr => ∃ n : Nat, n ≤ ns.length ∧ i = .int .i64 n ∧ Below w.heap.size w wr) (fun i _ => ns.length - (intOf i).toNat)
  case atStart => exact ⟨0, Nat.zero_le _, rfl, by go_grown⟩
  case round =>
    obtain ⟨n, hn, rfl, hb⟩ := hrel
    by_cases hlt : n < ns.length
    · obtain ⟨rfl, hblt, _, hC⟩ := ha n hlt
      obtain ⟨rfl, hblt', _, hC'⟩ := ha' n hlt
      have hzb := hb.size
      have c0 := (hb.cell (p := ⟨b, _, none⟩) hblt).trans (hC n ns[n] (by simp))
      have c1 := (hb.cell (p := ⟨b', _, none⟩) hblt').trans (hC' n ns[n] (by simp))
      generalize ns[n] = z at c0 c1
      clear ha ha' hC hC'
      have hbr : b < wr.heap.size := by omega
      have hbr' : b' < wr.heap.size := by omega
      go_wp2_with fail
      go_region_with fail
      all_goals go_wp2
      all_goals exact ⟨⟨n + 1, hlt, by simp, by repeat (first | (with_reducible exact Below.refl _ _) | (with_reducible refine Below.drew ?_) | (with_reducible refine Below.alloc ?_ ?hh _; case hh => first | (simp; done) | (simp; omega) | omega) | (with_reducible refine Below.setCell ?_ ?hh _; case hh => first | (simp; done) | (simp; omega) | omega) | refine bstep (by assumption) (by first | (simp; done) | (simp; omega) | omega) ?_)⟩, by simp [intOf]; omega⟩
    · go_wp2
      go_returns
      exact ⟨rfl, hb⟩
/-- numbers that are marked from k on, the first n of them. -/
def mSi (k n : Nat) (ns : List ByteArray) : List ByteArray := ns.mapIdx fun i x => if i < n then mt ((k + i : Nat) : Int) else x
theorem mSi_len (k n : Nat) (ns : List ByteArray) : (mSi k n ns).length = ns.length := by simp [mSi]
theorem mSi_at {k n i : Nat} {ns : List ByteArray} {x : ByteArray} (h : ns[i]? = some x) : (mSi k n ns)[i]? = some (if i < n then mt ((k + i : Nat) : Int) else x) := by simp [mSi, h]
theorem mSi_zero (k : Nat) (ns : List ByteArray) : mSi k 0 ns = ns := by
  apply List.ext_getElem?
  intro i
  cases h : ns[i]? with
  | none => have := List.getElem?_eq_none_iff.1 h; rw [List.getElem?_eq_none (by rw [mSi_len]; exact this)]
  | some x => rw [mSi_at h, if_neg (by omega)]
def mS (k : Nat) (ns : List ByteArray) : List ByteArray := mSi k ns.length ns
set_option maxHeartbeats 1000000 in
set_option maxRecDepth 100000 in
theorem markStringS_any (k : Nat) (v : Value) (ns : List ByteArray) (g : List Nat) (w : World) (hr : StrsF w v ns g) (hf : FreeE w g) (h0 : 0 < k) (h1 : k + ns.length ≤ 999999900) :
    Calls Try.prog 59 #[v, .int .i64 k] w fun e w' => e = .returned (.int .i64 ((k + ns.length : Nat) : Int)) ∧ StrsF w' v (mS k ns) g ∧ ChgE g w w' := by
  obtain ⟨a, c, b, o, rfl, hl, hc, hg0, ha⟩ := hr.pick
  have hcm := hc
  unfold maxLen at hc
  clear hr
  go_enter Try.func59, Try.ntmps59
  go_wp2
  go_loopw [1, 5] (fun kk i wr => ∃ n : Nat, n ≤ ns.length ∧ i = .int .i64 n ∧ kk = .int .i64 ((k + n : Nat) : Int) ∧ (∀ i x, (mSi k n ns)[i]? = some x → wr.cell? ⟨b, o + i, none⟩ = some (.string x)) ∧ ChgE g w wr) (fun _ i _ => ns.length - (intOf i).toNat)
  case atStart =>
    refine ⟨0, Nat.zero_le _, rfl, rfl, fun i x hx => ?_, ChgE.refl _ _⟩
    rw [mSi_zero] at hx
    exact (ha i (List.getElem?_eq_some_iff.1 hx).1).2.2.2 i x hx
  case round =>
    obtain ⟨n, hn, rfl, rfl, hH, hch⟩ := hrel
    by_cases hlt : n < ns.length
    · obtain ⟨rfl, hblt, rfl, _⟩ := ha n hlt
      have hzb := hch.size
      have hbr : b < wr.heap.size := by omega
      have hfr : ∀ i, wr.frozen? ⟨b, i, none⟩ = false := hch.free hf b (by simp)
      obtain ⟨x, hx⟩ : ∃ x, ns[n]? = some x := ⟨ns[n], by simp [hlt]⟩
      have c0 := hH n _ (mSi_at hx)
      rw [if_neg (by omega)] at c0
      have e0 : ((k + n : Nat) : Int) = (k : Int) + (n : Int) := by omega
      have hM := fun w => markText_any (k + n) w (by omega) (by omega)
      rw [e0] at hM
      have hnI : (k : Int) + (n : Int) ≤ 999999900 := by omega
      have hnP : (0 : Int) < (k : Int) + (n : Int) := by omega
      go_wp2_with fail
      refine Calls.mono (hM _) ?_
      rintro e wA ⟨rfl, hbA⟩
      rw [← e0]
      have hzA := hbA.size
      have cA := ((bcell hbA).1 b _ hbr).trans c0
      have fA : ∀ i, wA.frozen? ⟨b, i, none⟩ = false := fun i => ((bcell hbA).2 b i hbr).trans (hfr i)
      have hbrA : b < wA.heap.size := by omega
      have hnew : ∀ i y, (mSi k (n + 1) ns)[i]? = some y → (wA.setCell ⟨b, o + n, none⟩ (.string (mt ((k + n : Nat) : Int)))).cell? ⟨b, o + i, none⟩ = some (.string y) := by
        intro i y hy
        have hi : i < ns.length := by have := (List.getElem?_eq_some_iff.1 hy).1; rwa [mSi_len] at this
        obtain ⟨z, hz⟩ : ∃ z, ns[i]? = some z := ⟨ns[i], by simp [hi]⟩
        rw [mSi_at hz] at hy
        have hy := (Option.some.inj hy).symm
        by_cases ei : i = n
        · subst ei
          rw [if_pos (by omega)] at hy
          subst hy
          exact World.cell?_setCell_same _ _ _ cA
        · rw [far_set (by omega), (bcell hbA).1 b _ hbr, hH i _ (mSi_at hz), hy]
          by_cases hin : i < n
          · rw [if_pos hin, if_pos (by omega)]
          · rw [if_neg hin, if_neg (by omega)]
      have hch2 : ChgE [b] w (wA.setCell ⟨b, o + n, none⟩ (.string (mt ((k + n : Nat) : Int)))) := (hch.trans (ChgE.of_below hbA (fun y hy => by rcases List.mem_singleton.1 hy with rfl; exact hbr))).setCell (p := ⟨b, _, none⟩) (by simp) _
      generalize mt ((k + n : Nat) : Int) = tx at *
      clear ha hH hch hf hM hbA c0 hfr
      go_wp2
      exact ⟨⟨n + 1, hlt, by simp, by congr 1, hnew, hch2⟩, by simp [intOf]; omega⟩
    · go_wp2
      go_returns
      obtain rfl : n = ns.length := by omega
      refine ⟨rfl, ⟨a, c, by rw [mS, mSi_len], by rw [mS, mSi_len]; exact hl, hcm, fun e => hg0 (by have := congrArg List.length e; rw [mS, mSi_len] at this; exact List.length_eq_zero_iff.1 this), fun hne => ?_⟩, hch⟩
      have hp : 0 < ns.length := by have := List.length_pos_iff.2 hne; rwa [mS, mSi_len] at this
      obtain ⟨e, hlt, hF, _⟩ := ha 0 hp
      exact ⟨b, o, e, by have := hch.size; omega, hF, hH⟩
set_option maxHeartbeats 1000000 in
set_option maxRecDepth 100000 in
theorem heldStringS_any (k : Nat) (v : Value) (ns : List ByteArray) (g : List Nat) (w : World) (hr : StrsF w v (mS k ns) g) (h0 : 0 < k) (h1 : k + ns.length ≤ 999999900) :
    Calls Try.prog 60 #[v, .int .i64 k] w fun e w' => e = .returned (.int .i64 ((k + ns.length : Nat) : Int)) ∧ Below w.heap.size w w' := by
  obtain ⟨a, c, b, o, rfl, hl, hc, _, ha⟩ := hr.pick
  have hln : (mS k ns).length = ns.length := mSi_len _ _ _
  rw [hln] at hl ha
  rw [hln]
  unfold maxLen at hc
  clear hr hln
  go_enter Try.func60, Try.ntmps60
  go_wp2
  go_loopw [1, 5] (fun kk i wr => ∃ n : Nat, n ≤ ns.length ∧ i = .int .i64 n ∧ kk = .int .i64 ((k + n : Nat) : Int) ∧ Below w.heap.size w wr) (fun _ i _ => ns.length - (intOf i).toNat)
  case atStart => exact ⟨0, Nat.zero_le _, rfl, rfl, by go_grown⟩
  case round =>
    obtain ⟨n, hn, rfl, rfl, hb⟩ := hrel
    by_cases hlt : n < ns.length
    · obtain ⟨rfl, hblt, _, hC⟩ := ha n hlt
      have hzb := hb.size
      obtain ⟨x, hx⟩ : ∃ x, ns[n]? = some x := ⟨ns[n], by simp [hlt]⟩
      have c0 := (hb.cell (p := ⟨b, _, none⟩) hblt).trans (hC n _ (mSi_at hx))
      rw [if_pos hlt] at c0
      have e0 : ((k + n : Nat) : Int) = (k : Int) + (n : Int) := by omega
      have hbr : b < wr.heap.size := by omega
      clear ha hC
      have hM := fun w => markText_any (k + n) w (by omega) (by omega)
      rw [e0] at hM c0
      have hnI : (k : Int) + (n : Int) ≤ 999999900 := by omega
      have hnP : (0 : Int) < (k : Int) + (n : Int) := by omega
      generalize mt ((k : Int) + (n : Int)) = tx at *
      go_wp2_with fail
      go_region_held3 (fun w' => w'.cell? ⟨b, o + n, none⟩ = some (.string tx)) (first | (go_simp; done) | (exact cell_later (by assumption) (by go_simp))) (first | (go_at_call 100; refine Calls.mono (hM _) ?_; rintro e wA ⟨rfl, hbA⟩; have hzA := hbA.size; have belA : Below wr.heap.size wr wA := (by repeat (first | (with_reducible exact Below.refl _ _) | (with_reducible refine Below.drew ?_) | (with_reducible refine Below.alloc ?_ ?hh _; case hh => first | (simp; done) | (simp; omega) | omega) | (with_reducible refine Below.setCell ?_ ?hh _; case hh => first | (simp; done) | (simp; omega) | omega) | refine bstep (by assumption) (by first | (simp; done) | (simp; omega) | omega) ?_))))
      have bel3 : Below w.heap.size w wA := hb.trans (belA.mono hzb)
      clear c0 hM hbA
      go_wp2_with fail
      exact ⟨⟨n + 1, hlt, by simp, by congr 1, bel3⟩, by simp [intOf]; omega⟩
    · go_wp2
      go_returns
      obtain rfl : n = ns.length := by omega
      exact ⟨rfl, hb⟩
end Go.Proofs.Ytjhcachbaebhfaa
