/- Own text. The contracts of markExpS and heldExpS, markExp and heldExp: walks. -/
import Derived.Test.YtjblljggmjbalaaMarkE
import Derived.Handy
import Derived.Deep.RegionHeld3
namespace Go.Proofs.Ytjblljggmjbalaa
open Go.RowKit Go.Deep
set_option linter.unusedVariables false
theorem mt_size (u : Nat) (h : u ≤ 999999999) : (mt (u : Int)).size ≤ maxLen := by
  have h1 := dg_len u
  unfold mt
  rw [Int.toNat_natCast]
  have h2 : (strOfNums (dg u)).size = (dg u).length := by simp [strOfNums, ByteArray.size]
  rw [ByteArray.size_append, h2]
  have h3 : (⟨#[109]⟩ : ByteArray).size = 1 := rfl
  rw [h3]
  unfold maxLen
  omega
def MkS (d : Nat) : Prop := ∀ (k : Nat) (v : Value) (es : List E7) (F : List Nat) (w : World), KidsIs w d v es F → F.Nodup → FreeE w F → 0 < k → k + 6 * nK d es ≤ 999999900 →
    Calls Try.prog 11 #[v, .int .i64 k] w fun e w' => e = .returned (.int .i64 ((k + 6 * nK d es : Nat) : Int)) ∧ KidsIs w' d v (mK d k es) F ∧ ChgE F w w'
set_option maxHeartbeats 4000000 in
set_option maxRecDepth 100000 in
theorem markExpS_any : ∀ d, MkS d
  | 0 => fun k v es F w hr => hr.elim
  | d + 1 => by
    have ih := markExpS_any d
    intro k v es F w hr hnd hf h0 h1
    have hlt0 := hr.lt
    obtain ⟨a, c, b, o, G, rfl, hl, hc, hG, hF0, ha⟩ := hr.pick
    have hcm := hc
    unfold maxLen at hc
    have hoff := offE_le d k es
    have hpos := fun i => offE_pos d k es i h0
    have hend := offE_end d k es
    clear hr
    go_enter Try.func11, Try.ntmps11
    go_wp2
    go_loopw [1, 5] (fun kk i wr => ∃ n : Nat, n ≤ es.length ∧ i = .int .i64 n ∧ kk = .int .i64 ((offE d k es n : Nat) : Int) ∧ (∀ j, j < es.length → ELies wr d b o (mKi d k n es) G) ∧ ChgE F w wr) (fun _ i _ => es.length - (intOf i).toNat)
    case atStart => exact ⟨0, Nat.zero_le _, rfl, by rw [offE_zero], fun j hj => by rw [mKi_zero]; exact (ha j hj).2.2.2, ChgE.refl _ _⟩
    case round =>
      obtain ⟨n, hn, rfl, rfl, hH0, hch⟩ := hrel
      by_cases hlt : n < es.length
      · have hH := hH0 n hlt
        obtain ⟨rfl, hblt, rfl, _⟩ := ha n hlt
        have hzb := hch.size
        have hbr : b < wr.heap.size := by omega
        have hlt' : n < G.length := by omega
        obtain ⟨x, hx⟩ : ∃ x, es[n]? = some x := ⟨es[n], by simp [hlt]⟩
        obtain ⟨g, hg⟩ : ∃ g, G[n]? = some g := ⟨G[n], by simp [hlt']⟩
        obtain ⟨hw, ⟨c0, c1, c2, c3, c4, c5⟩, u, c6, hK⟩ := hH n _ g (mKi_at hx) hg
        rw [if_neg (by omega)] at hw c0 c1 c2 c3 c4 c5 hK
        have hgF : ∀ y ∈ g, y ∈ G.flatten := fun y hy => List.mem_flatten.2 ⟨g, List.mem_of_getElem? hg, hy⟩
        have hfr := hch.free hf
        have hfr0 : ∀ i, wr.frozen? ⟨b, i, none⟩ = false := hfr b (by simp)
        have hgb : b ∉ g := headE hnd hg
        have hgn : g.Nodup := by
          have h2 := (List.nodup_cons.1 hnd).2
          rw [List.Nodup, List.pairwise_flatten] at h2
          exact h2.1 g (List.mem_of_getElem? hg)
        have hs := offE_succ (d := d) (k := k) hx
        have ho1 := hoff n
        have ho2 := hoff (n + 1)
        have HS : Hid (offE d k es (n + 1) = offE d k es n + 6 + 6 * nK d x.ks) := hs
        have hko := hpos n
        have hkn := fun w3 => ELies.mark (w3 := w3) hH hG hnd hx hg c6
        obtain ⟨au, cu, rfl, _, _⟩ := hK.shape
        have hKlt := hK.lt
        have hgfr : FreeE wr g := fun y hy => hfr y (List.mem_cons_of_mem _ (hgF y hy))
        generalize offE d k es n = t at *
        have ht : t + 6 + 6 * nK d x.ks ≤ 999999900 := by omega
        have htI : (t : Int) ≤ 999999894 := by omega
        have htP : (0 : Int) < (t : Int) := by omega
        have e4 : ((t + 4 : Nat) : Int) = (t : Int) + 1 + 1 + 1 + 1 := by omega
        have e5 : ((t + 5 : Nat) : Int) = (t : Int) + 1 + 1 + 1 + 1 + 1 := by omega
        have e6 : ((t + 6 : Nat) : Int) = (t : Int) + 1 + 1 + 1 + 1 + 1 + 1 := by omega
        have hM4 := fun w => markText_any (t + 4) w (by omega) (by omega)
        have hM5 := fun w => markText_any (t + 5) w (by omega) (by omega)
        have hI := fun w hk hf => ih (t + 6) (.slice au x.ks.length cu) x.ks g w hk hgn hf (by omega) (by omega)
        have s4 := mt_size (t + 4) (by omega)
        have s5 := mt_size (t + 5) (by omega)
        rw [e4] at hM4 s4
        rw [e5] at hM5 s5
        rw [e6] at hI
        have hwf := mE_wf d t x (by omega) s4 s5
        clear e4 e5 e6 s4 s5 hs ho1 ho2 hoff hpos hend ih hH hH0 ha hf hw
        go_wp2_with fail
        refine Calls.mono (hM4 _) ?_
        rintro e wA ⟨rfl, hbA⟩
        have hzA := hbA.size
        simp only [World.size_setCell] at hzA
        have A0 : wA.cell? ⟨b, o + n * 7, none⟩ = some (.int .i64 (t : Int)) := cell_later hbA (by go_simp)
        have A1 : wA.cell? ⟨b, o + n * 7 + 1, none⟩ = some (.int .i64 ((t : Int) + 1)) := cell_later hbA (by go_simp)
        have A2 : wA.cell? ⟨b, o + n * 7 + 2, none⟩ = some (.int .i64 ((t : Int) + 1 + 1)) := cell_later hbA (by go_simp)
        have A3 : wA.cell? ⟨b, o + n * 7 + 3, none⟩ = some (.int .i64 ((t : Int) + 1 + 1 + 1)) := cell_later hbA (by go_simp)
        have A4 : wA.cell? ⟨b, o + n * 7 + 4, none⟩ = some (.string x.v.s) := cell_later hbA (by go_simp)
        have A5 : wA.cell? ⟨b, o + n * 7 + 5, none⟩ = some (.string x.p) := cell_later hbA (by go_simp)
        have A6 : wA.cell? ⟨b, o + n * 7 + 6, none⟩ = some (.slice au x.ks.length cu) := cell_later hbA (by go_simp)
        have Af : ∀ i, wA.frozen? ⟨b, i, none⟩ = false := fun i => ((bcell hbA).2 b i (by simpa using hbr)).trans (by simpa using hfr0 i)
        have Ac : ∀ q, (∀ p, p < 6 → q ≠ o + n * 7 + p) → wA.cell? ⟨b, q, none⟩ = wr.cell? ⟨b, q, none⟩ := by
          intro q hq
          refine ((bcell hbA).1 b q (by simpa using hbr)).trans ?_
          have q0 := hq 0 (by omega)
          have q1 := hq 1 (by omega)
          have q2 := hq 2 (by omega)
          have q3 := hq 3 (by omega)
          rw [far_set (by omega), far_set (by omega), far_set (by omega), far_set (by omega)]
        have Ab : ∀ y, y < wr.heap.size → y ≠ b → wA.heap[y]? = wr.heap[y]? := by
          intro y hy hyb
          refine (hbA.block y (by simpa using hy)).trans ?_
          repeat rw [Below.heap_setCell _ _ _ _ (by simpa using hyb)]
        have hchA : ChgE (b :: G.flatten) wr wA := ((((((ChgE.refl _ wr).setCell (p := ⟨b, _, none⟩) (by simp) _).setCell (p := ⟨b, _, none⟩) (by simp) _).setCell (p := ⟨b, _, none⟩) (by simp) _).setCell (p := ⟨b, _, none⟩) (by simp) _)).trans (ChgE.of_below hbA (fun y hy => by have := hlt0 y hy; simp; omega))
        have hbrA : b < wA.heap.size := by omega
        clear hbA hM4 c0 c1 c2 c3 c4 c5
        go_wp2_with fail
        refine Calls.mono (hM5 _) ?_
        rintro e wB ⟨rfl, hbB⟩
        have hzB := hbB.size
        simp only [World.size_setCell] at hzB
        have B0 : wB.cell? ⟨b, o + n * 7, none⟩ = some (.int .i64 (t : Int)) := cell_later hbB (by go_simp)
        have B1 : wB.cell? ⟨b, o + n * 7 + 1, none⟩ = some (.int .i64 ((t : Int) + 1)) := cell_later hbB (by go_simp)
        have B2 : wB.cell? ⟨b, o + n * 7 + 2, none⟩ = some (.int .i64 ((t : Int) + 1 + 1)) := cell_later hbB (by go_simp)
        have B3 : wB.cell? ⟨b, o + n * 7 + 3, none⟩ = some (.int .i64 ((t : Int) + 1 + 1 + 1)) := cell_later hbB (by go_simp)
        have B4 : wB.cell? ⟨b, o + n * 7 + 4, none⟩ = some (.string (mt ((t : Int) + 1 + 1 + 1 + 1))) := cell_later hbB (by go_simp)
        have B5 : wB.cell? ⟨b, o + n * 7 + 5, none⟩ = some (.string x.p) := cell_later hbB (by go_simp)
        have B6 : wB.cell? ⟨b, o + n * 7 + 6, none⟩ = some (.slice au x.ks.length cu) := cell_later hbB (by go_simp)
        have Bf : ∀ i, wB.frozen? ⟨b, i, none⟩ = false := fun i => ((bcell hbB).2 b i (by simpa using hbrA)).trans (by simpa using Af i)
        have Bc : ∀ q, (∀ p, p < 6 → q ≠ o + n * 7 + p) → wB.cell? ⟨b, q, none⟩ = wr.cell? ⟨b, q, none⟩ := by
          intro q hq
          refine ((bcell hbB).1 b q (by simpa using hbrA)).trans ?_
          have q4 := hq 4 (by omega)
          rw [far_set (by omega)]
          exact Ac q hq
        have Bb : ∀ y, y < wr.heap.size → y ≠ b → wB.heap[y]? = wr.heap[y]? := by
          intro y hy hyb
          refine (hbB.block y (by simp; omega)).trans ?_
          rw [Below.heap_setCell _ _ _ _ (by simpa using hyb)]
          exact Ab y hy hyb
        have hchB : ChgE (b :: G.flatten) wr wB := (hchA.setCell (p := ⟨b, _, none⟩) (by simp) _).trans (ChgE.of_below hbB (fun y hy => by have := hlt0 y hy; simp; omega))
        have hbrB : b < wB.heap.size := by omega
        clear hbB hM5 A0 A1 A2 A3 A4 A5 A6 Af Ac Ab hchA
        have hkC : KidsIs (wB.setCell ⟨b, o + n * 7 + 5, none⟩ (.string (mt ((t : Int) + 1 + 1 + 1 + 1 + 1)))) d (.slice au x.ks.length cu) x.ks g := hK.keep (by simp; omega) fun y hy => by
          have hyb : y ≠ b := by rintro rfl; exact hgb hy
          rw [Below.heap_setCell _ _ _ _ (by simpa using hyb)]
          exact Bb y (hKlt y hy) hyb
        have hfC : FreeE (wB.setCell ⟨b, o + n * 7 + 5, none⟩ (.string (mt ((t : Int) + 1 + 1 + 1 + 1 + 1)))) g := fun y hy o' => by
          have hyb : y ≠ b := by rintro rfl; exact hgb hy
          rw [World.frozen?_setCell]
          exact (frozen_blk (Bb y (hKlt y hy) hyb)).trans (hgfr y hy o')
        have hchC : ChgE (b :: G.flatten) wr (wB.setCell ⟨b, o + n * 7 + 5, none⟩ (.string (mt ((t : Int) + 1 + 1 + 1 + 1 + 1)))) := hchB.setCell (p := ⟨b, _, none⟩) (by simp) _
        go_wp2_with fail
        refine Calls.mono (hI _ hkC hfC) ?_
        rintro e w3 ⟨rfl, hK3, hc3⟩
        have hz3 := hc3.size
        simp only [World.size_setCell] at hz3
        have hbb : w3.heap[b]? = (wB.setCell ⟨b, o + n * 7 + 5, none⟩ (.string (mt ((t : Int) + 1 + 1 + 1 + 1 + 1)))).heap[b]? := hc3.block b (by simpa using hbrB) hgb
        have D : ∀ q, w3.cell? ⟨b, q, none⟩ = (wB.setCell ⟨b, o + n * 7 + 5, none⟩ (.string (mt ((t : Int) + 1 + 1 + 1 + 1 + 1)))).cell? ⟨b, q, none⟩ := fun q => cell_blk hbb
        have hnew := hkn w3 (by omega) (fun y hy hyg => by
            have hyb : y ≠ b := by rintro rfl; exact (List.nodup_cons.1 hnd).1 hy
            have hylt : y < wr.heap.size := by have := hlt0 y (List.mem_cons_of_mem _ hy); omega
            rw [hc3.block y (by simp; omega) hyg, Below.heap_setCell _ _ _ _ (by simpa using hyb)]
            exact Bb y hylt hyb)
          (fun q hq => by
            have q5 := hq 5 (by omega)
            rw [D q, far_set (by omega)]
            exact Bc q hq)
          ⟨by rw [D, far_set (by omega)]; exact B0, by rw [D, far_set (by omega)]; exact B1, by rw [D, far_set (by omega)]; exact B2, by rw [D, far_set (by omega)]; exact B3, by rw [D, far_set (by omega)]; exact B4, by rw [D]; exact World.cell?_setCell_same _ _ _ B5⟩ hwf hK3
        have hch3 : ChgE (b :: G.flatten) w w3 := hch.trans (hchC.trans (hc3.wide (fun y hy => List.mem_cons_of_mem _ (hgF y hy)) fun y hy _ => by have := hlt0 y hy; simp; omega))
        clear hkn hI hc3 hK3 hch hfr hfr0 hgfr hK B0 B1 B2 B3 B4 B5 B6 Bf Bc Bb hchB hchC hkC hfC D hbb c6
        go_wp2_with fail
        exact ⟨⟨n + 1, hlt, by simp, by rw [HS.out]; congr 1, fun _ _ => hnew, hch3⟩, by simp [intOf]; omega⟩
      · go_wp2
        go_returns
        obtain rfl : n = es.length := by omega
        refine ⟨by rw [hend]; rfl, ⟨a, c, G, by rw [mK_len], by rw [mK_len]; exact hl, hcm, by rw [mK_len]; exact hG, fun e => hF0 (by have := congrArg List.length e; rw [mK_len] at this; exact List.length_eq_zero_iff.1 this), fun hne => ?_⟩, hch⟩
        have hp : 0 < es.length := by have := List.length_pos_iff.2 hne; rwa [mK_len] at this
        obtain ⟨e, hlt, hF, _⟩ := ha 0 hp
        have hH := hH0 0 hp
        rw [mKi_all] at hH
        exact ⟨b, o, e, by have := hch.size; omega, hF, hH⟩
/-- heldExpS at marked kids that are at most d deep. -/
def HdS (d : Nat) : Prop := ∀ (k : Nat) (v : Value) (es : List E7) (F : List Nat) (w : World), KidsIs w d v (mK d k es) F → 0 < k → k + 6 * nK d es ≤ 999999900 →
    Calls Try.prog 12 #[v, .int .i64 k] w fun e w' => e = .returned (.int .i64 ((k + 6 * nK d es : Nat) : Int)) ∧ Below w.heap.size w w'
set_option maxHeartbeats 4000000 in
set_option maxRecDepth 100000 in
theorem heldExpS_any : ∀ d, HdS d
  | 0 => fun k v es F w hr => hr.elim
  | d + 1 => by
    have ih := heldExpS_any d
    intro k v es F w hr h0 h1
    obtain ⟨a, c, b, o, G, rfl, hl, hc, hG, hF0, ha⟩ := hr.pick
    rw [mK_len] at hl hG ha
    rw [mK_len]
    unfold maxLen at hc
    have hoff := offE_le d k es
    have hpos := fun i => offE_pos d k es i h0
    have hend := offE_end d k es
    clear hr hF0
    go_enter Try.func12, Try.ntmps12
    go_wp2
    go_loopw [1, 5] (fun kk i wr => ∃ n : Nat, n ≤ es.length ∧ i = .int .i64 n ∧ kk = .int .i64 ((offE d k es n : Nat) : Int) ∧ Below w.heap.size w wr) (fun _ i _ => es.length - (intOf i).toNat)
    case atStart => exact ⟨0, Nat.zero_le _, rfl, by rw [offE_zero], by go_grown⟩
    case round =>
      obtain ⟨n, hn, rfl, rfl, hb⟩ := hrel
      by_cases hlt : n < es.length
      · obtain ⟨rfl, hblt, rfl, hL⟩ := ha n hlt
        have hzb := hb.size
        have hbr : b < wr.heap.size := by omega
        have hlt' : n < G.length := by omega
        obtain ⟨x, hx⟩ : ∃ x, es[n]? = some x := ⟨es[n], by simp [hlt]⟩
        obtain ⟨g, hg⟩ : ∃ g, G[n]? = some g := ⟨G[n], by simp [hlt']⟩
        obtain ⟨hw, hcc, u, c6', hK⟩ := hL n _ g (mK_at hx) hg
        obtain ⟨c0, c1, c2, c3, c4, c5⟩ := hcc.keep (hb.block b hblt)
        have c6 := (hb.cell (p := ⟨b, _, none⟩) hblt).trans c6'
        replace hK := hK.keep hzb fun y hy => hb.block y (hK.lt y hy)
        have hs := offE_succ (d := d) (k := k) hx
        have ho1 := hoff n
        have ho2 := hoff (n + 1)
        have HS : Hid (offE d k es (n + 1) = offE d k es n + 6 + 6 * nK d x.ks) := hs
        have hko := hpos n
        generalize offE d k es n = t at *
        replace hK : KidsIs wr d u (mK d (t + 6) x.ks) g := hK
        obtain ⟨au, cu, rfl, _, _⟩ := hK.shape
        have hlen : (mK d (t + 6) x.ks).length ≤ (mK d (t + 6) x.ks).length := Nat.le_refl _
        generalize (mK d (t + 6) x.ks).length = lk at *
        have ht : t + 6 + 6 * nK d x.ks ≤ 999999900 := by omega
        have htI : (t : Int) ≤ 999999894 := by omega
        have htP : (0 : Int) < (t : Int) := by omega
        have e4 : ((t + 4 : Nat) : Int) = (t : Int) + 1 + 1 + 1 + 1 := by omega
        have e5 : ((t + 5 : Nat) : Int) = (t : Int) + 1 + 1 + 1 + 1 + 1 := by omega
        have e6 : ((t + 6 : Nat) : Int) = (t : Int) + 1 + 1 + 1 + 1 + 1 + 1 := by omega
        have hM4 := fun w => markText_any (t + 4) w (by omega) (by omega)
        have hM5 := fun w => markText_any (t + 5) w (by omega) (by omega)
        have hI := fun w hk => ih (t + 6) (.slice au lk cu) x.ks g w hk (by omega) (by omega)
        rw [e4] at hM4
        rw [e5] at hM5
        rw [e6] at hI
        simp only [mE, E7.mk_k, E7.mk_n, E7.mk_v, E7.mk_p] at c0 c1 c2 c3 c4 c5
        clear e4 e5 e6 hs ho1 ho2 hoff hpos hend ih ha hw hcc c6' hL hx hlen
        generalize hnk : 6 * nK d x.ks = nk at *
        generalize mt ((t : Int) + 1 + 1 + 1 + 1) = m4 at *
        generalize mt ((t : Int) + 1 + 1 + 1 + 1 + 1) = m5 at *
        go_wp2_with fail
        go_region_held3 (fun w' => w'.cell? ⟨b, o + n * 7 + 4, none⟩ = some (.string m4)) (first | (go_simp; done) | (exact cell_later (by assumption) (by go_simp))) (first | (go_at_call 20; refine Calls.mono (hM4 _) ?_; rintro e wA ⟨rfl, hbA⟩; have hzA := hbA.size; have belA : Below wr.heap.size wr wA := (by repeat (first | (with_reducible exact Below.refl _ _) | (with_reducible refine Below.drew ?_) | (with_reducible refine Below.alloc ?_ ?hh _; case hh => first | (simp; done) | (simp; omega) | omega) | (with_reducible refine Below.setCell ?_ ?hh _; case hh => first | (simp; done) | (simp; omega) | omega) | refine bstep (by assumption) (by first | (simp; done) | (simp; omega) | omega) ?_))))
        have A5 : wA.cell? ⟨b, o + n * 7 + 5, none⟩ = some (.string m5) := ((bcell belA).1 b _ hbr).trans c5
        have A6 : wA.cell? ⟨b, o + n * 7 + 6, none⟩ = some (.slice au lk cu) := ((bcell belA).1 b _ hbr).trans c6
        have hzA' := belA.size
        have hbrA : b < wA.heap.size := by omega
        clear c0 c1 c2 c3 c4 c5 c6 hM4
        go_wp2_with fail
        go_region_held3 (fun w' => w'.cell? ⟨b, o + n * 7 + 5, none⟩ = some (.string m5)) (first | (go_simp; done) | (exact cell_later (by assumption) (by go_simp))) (first | (go_at_call 20; refine Calls.mono (hM5 _) ?_; rintro e wB ⟨rfl, hbB⟩; have hzB := hbB.size; have belB : Below wA.heap.size wA wB := (by repeat (first | (with_reducible exact Below.refl _ _) | (with_reducible refine Below.drew ?_) | (with_reducible refine Below.alloc ?_ ?hh _; case hh => first | (simp; done) | (simp; omega) | omega) | (with_reducible refine Below.setCell ?_ ?hh _; case hh => first | (simp; done) | (simp; omega) | omega) | refine bstep (by assumption) (by first | (simp; done) | (simp; omega) | omega) ?_))))
        have B6 : wB.cell? ⟨b, o + n * 7 + 6, none⟩ = some (.slice au lk cu) := ((bcell belB).1 b _ hbrA).trans A6
        have hzB' := belB.size
        have hbrB : b < wB.heap.size := by omega
        have belW : Below wr.heap.size wr wB := belA.trans (belB.mono (by omega))
        have hKB : KidsIs wB d (.slice au lk cu) (mK d (t + 6) x.ks) g := hK.below belW
        clear A5 A6 hM5
        go_wp2_with fail
        refine Calls.mono (hI _ hKB) ?_
        rintro e w3 ⟨rfl, hb3⟩
        have hz3 := hb3.size
        have bel3 : Below w.heap.size w w3 := (hb.trans (belW.mono hb.size)).trans (hb3.mono (by omega))
        clear hI hb3 B6 hKB hK
        go_wp2_with fail
        exact ⟨⟨n + 1, hlt, by simp, by rw [HS.out]; congr 1, bel3⟩, by simp [intOf]; omega⟩
      · go_wp2
        go_returns
        obtain rfl : n = es.length := by omega
        exact ⟨by rw [hend]; rfl, hb⟩
end Go.Proofs.Ytjblljggmjbalaa
