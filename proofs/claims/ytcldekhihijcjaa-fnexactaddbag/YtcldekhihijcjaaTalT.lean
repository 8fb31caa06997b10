/- Own text. The contract of impl.together at two bags of one width. -/
import Derived.Test.YtcldekhihijcjaaTalZ
import Derived.Test.YtcldekhihijcjaaTalG
import Derived.Handy
namespace Go.Proofs.Ytcldekhihijcjaa
open Go.RowKit Go.Shelf
set_option linter.unusedVariables false
set_option maxHeartbeats 8000000 in
set_option maxRecDepth 100000 in
theorem together_any (W : Int) (va vb : Value) (cs ds : List C2) (F F2 : List Nat) (w : World) (B : Nat) (c0 : w.cell? ⟨B, 0, none⟩ = some (.int .i64 W)) (c1 : w.cell? ⟨B, 1, none⟩ = some va) (c2 : w.cell? ⟨B, 2, none⟩ = some (.int .i64 W)) (c3 : w.cell? ⟨B, 3, none⟩ = some vb) (hB : B < w.heap.size)
    (ha : RowsF w va cs F) (hb : RowsF w vb ds F2) (hn : wtb cs ≤ 1048576) (hn2 : wtb ds ≤ 1048576) (hW : W ≤ 12) (hgc : ∀ c ∈ cs, GoodRow W c.r) (hgd : ∀ c ∈ ds, GoodRow W c.r) (hS : SmallC (cs ++ ds)) :
    Calls Try.prog 72 #[.slice (some ⟨B, 0, none⟩) 2 2] w fun e w' => (∃ xs u us G, e = .returned (.agg #[.int .i64 W, u]) ∧ OrderedOf W (cs ++ ds) xs ∧ BagOwn w' w.heap.size u xs us G) ∧ Below w.heap.size w w' := by
  have hmm := @run_makeMap Try.prog
  have hSc : SmallC ([] ++ cs) := by refine ⟨fun c hc => hS.1 c (by simp at hc; simp [hc]), ?_⟩; have := hS.2; simp at this ⊢; omega
  obtain ⟨aa, ca, rfl⟩ : ∃ a c, va = .slice a cs.length c := by obtain ⟨a, c, _, e, _⟩ := ha; exact ⟨a, c, e⟩
  obtain ⟨ab, cb, rfl⟩ : ∃ a c, vb = .slice a ds.length c := by obtain ⟨a, c, _, e, _⟩ := hb; exact ⟨a, c, e⟩
  have hlen := hS.2
  rw [List.length_append] at hlen
  have hFa : ∀ x ∈ F, x < w.heap.size + 1 := fun x hx => by have := ha.lt x hx; omega
  have hFb : ∀ x ∈ F2, x < w.heap.size + 1 := fun x hx => by have := hb.lt x hx; omega
  go_enter Try.func72, Try.ntmps72
  go_wp2
  go_loopw [9] (fun i wr => ∃ k : Nat, k ≤ 2 ∧ i = .int .i64 k ∧ TalIs wr (w.heap.size + 1) (if k = 0 then 0 else if k = 1 then cs.length else cs.length + ds.length) W (if k = 0 then [] else if k = 1 then cs else cs ++ ds) ∧ Below (w.heap.size + 1) (w.alloc (.cells #[.int .i64 0, .slice none 0 0] 26)) wr) (fun i _ => 2 - (intOf i).toNat)
  case atStart =>
    refine ⟨0, by omega, rfl, ⟨.map [], ?_, TallyOf.start _ _ _⟩, ?_⟩
    · have := World.ownsMap_made (w.alloc (.cells #[.int .i64 0, .slice none 0 0] 26)) Try.prog 9 Rc
      simpa using this
    · exact (Below.refl _ _).alloc (by simp) _
  case round =>
    obtain ⟨k, hk, rfl, hT, hbr⟩ := hrel
    have hzr := hbr.size
    simp only [World.size_alloc] at hzr
    have hlt := hT.lt
    have hbw : Below w.heap.size w wr := ((Below.refl _ w).alloc (Nat.le_refl _) _).trans (hbr.mono (by omega))
    have d0 := (hbw.cell (p := ⟨B, 0, none⟩) hB).trans c0
    have d1 := (hbw.cell (p := ⟨B, 1, none⟩) hB).trans c1
    have d2 := (hbw.cell (p := ⟨B, 2, none⟩) hB).trans c2
    have d3 := (hbw.cell (p := ⟨B, 3, none⟩) hB).trans c3
    have hBr : B < wr.heap.size := by omega
    rcases (by omega : k = 0 ∨ k = 1 ∨ k = 2) with rfl | rfl | rfl
    · simp only [if_true] at hT
      have hb0 : Below wr.heap.size wr (wr.alloc (.cells #[.int .i64 W, .slice aa cs.length ca] 26)) := (Below.refl _ _).alloc (Nat.le_refl _) _
      have hcall := addAll_any (w.heap.size + 1) 0 W W [] cs (.slice aa cs.length ca) F _ (hT.keep hb0) ((ha.below hbw).below hb0) hFa hgc hn hSc (by omega)
      rw [List.nil_append, Nat.zero_add] at hcall
      clear hT ha hb
      go_wp2_with (go_at_call 86; refine Calls.mono hcall ?_; rintro q w2 ⟨rfl, hT2, hb2⟩)
      refine ⟨⟨1, by omega, by simp, by simpa using hT2, hbr.trans ((hb0.mono (Nat.le_of_lt hlt)).trans hb2)⟩, by simp [intOf]⟩
    · simp only [if_true, Nat.one_ne_zero, if_false] at hT
      have hb0 : Below wr.heap.size wr (wr.alloc (.cells #[.int .i64 W, .slice ab ds.length cb] 26)) := (Below.refl _ _).alloc (Nat.le_refl _) _
      have hcall := addAll_any (w.heap.size + 1) cs.length W W cs ds (.slice ab ds.length cb) F2 _ (hT.keep hb0) ((hb.below hbw).below hb0) hFb hgd hn2 hS (by omega)
      clear hT ha hb
      go_wp2_with (go_at_call 86; refine Calls.mono hcall ?_; rintro q w2 ⟨rfl, hT2, hb2⟩)
      refine ⟨⟨2, by omega, by simp, by simpa using hT2, hbr.trans ((hb0.mono (Nat.le_of_lt hlt)).trans hb2)⟩, by simp [intOf]⟩
    · have hT' : TalIs wr (w.heap.size + 1) (cs.length + ds.length) W (cs ++ ds) := by simpa using hT
      have hcall := bag_any (w.heap.size + 1) (cs.length + ds.length) W W (cs ++ ds) wr hT' (by omega) (by omega)
      have r0 : wr.cell? ⟨w.heap.size, 0, none⟩ = some (.int .i64 0) := (hbr.cell (p := ⟨w.heap.size, 0, none⟩) (by simp)).trans (by go_simp)
      have r1 : wr.cell? ⟨w.heap.size, 1, none⟩ = some (.slice none 0 0) := (hbr.cell (p := ⟨w.heap.size, 1, none⟩) (by simp)).trans (by go_simp)
      have rf : ∀ q, wr.frozen? ⟨w.heap.size, q, none⟩ = false := fun q => (frozen_blk (hbr.block w.heap.size (by simp))).trans (by go_simp)
      clear hT hT' ha hb
      go_wp2_with fail
      refine Calls.mono hcall ?_
      rintro q w2 ⟨⟨xs, u, us, G, rfl, hord, hO⟩, hb2⟩
      obtain ⟨au, cu, rfl⟩ := hO.shape
      have hz2 := hb2.size
      have s0 := (hb2.cell (p := ⟨w.heap.size, 0, none⟩) (show w.heap.size < wr.heap.size by omega)).trans r0
      have s1 := (hb2.cell (p := ⟨w.heap.size, 1, none⟩) (show w.heap.size < wr.heap.size by omega)).trans r1
      have sf : ∀ q, w2.frozen? ⟨w.heap.size, q, none⟩ = false := fun q => (frozen_blk (hb2.block w.heap.size (by omega))).trans (rf q)
      have hb3 : Below w.heap.size w w2 := hbw.trans (hb2.mono (by omega))
      clear r0 r1 rf hb2 hcall d0 d1 d2 d3
      go_wp2_with fail
      refine bodyPost_ret (v := .agg #[.int .i64 W, .slice au xs.length cu]) (by simp [results, Try.results72, go_sem, *]) rfl ⟨⟨xs, _, us, G, rfl, hord, (hO.keep (by simp) fun k hk _ => ?_).weak (by omega)⟩, ?_⟩
      · repeat rw [Below.heap_setCell _ _ _ _ (by simp; omega)]
      · exact (hb3.setCell (by simp) _).setCell (by simp) _
end Go.Proofs.Ytcldekhihijcjaa
