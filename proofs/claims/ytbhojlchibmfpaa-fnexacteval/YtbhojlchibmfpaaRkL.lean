/- Own text. The contract of impl.reckoningOf: it answers a closure that answers the expression's value. -/
import Derived.Test.YtbhojlchibmfpaaRkC
import Derived.Test.YtbhojlchibmfpaaLastE
import Derived.Test.YtbhojlchibmfpaaRkM
import Derived.Test.YtbhojlchibmfpaaToE
import Derived.Handy
import Derived.Deep.DrawnRows
import Derived.Deep.AppendLies
import Derived.Laws.OwnMore
namespace Go.Proofs.Ytbhojlchibmfpaa
open Go.RowKit Go.Deep
set_option linter.unusedVariables false
attribute [local go_sem ↓] Go.wp_at_zero Go.wp_at_succ
attribute [local go_sem] Go.run_makeMap_plain ins0 ins1 ins2 ins3 ins4 look0 look1 look2 look3 look4
theorem Try.infoRk : (Try.prog.info? 65).map (fun i => (i.zero, i.size, i.bytes)) = some (some .nilFunc, 1, 8) := by kernel_rfl
theorem ownsRow_blk {w w' : World} {N e s n : Nat} {v : Value} {xs : List Value} (h : w.ownsRow N e s v n xs) (hb : Below w.heap.size w w') : w'.ownsRow N e s v n xs := by
  refine ⟨h.1, ?_⟩
  rcases h.2 with h0 | ⟨g, cap, cur, hv, hg, hc, h3⟩
  · exact .inl h0
  · exact .inr ⟨g, cap, cur, hv, hg, (hb.block g (lt_of_blk hc)).trans hc, h3⟩
theorem ownsRow_eq {w w' : World} {N e s n g c : Nat} {xs : List Value} (h : w.ownsRow N e s (.slice (some ⟨g, 0, none⟩) n c) n xs) (hb : w'.heap[g]? = w.heap[g]?) : w'.ownsRow N e s (.slice (some ⟨g, 0, none⟩) n c) n xs := by
  refine ⟨h.1, ?_⟩
  rcases h.2 with h0 | ⟨g', cap, cur, hv, hg, hc, h3⟩
  · exact .inl h0
  · obtain rfl : g = g' := by injection hv with h1; injection h1 with h1; injection h1
    exact .inr ⟨g, cap, cur, hv, hg, hb.trans hc, h3⟩
/-- reckoningOf of an expression with at most f levels. -/
def RkS (m : Int) (f : Nat) : Prop := ∀ (e : E7) (u : Value) (F : List Nat) (d : Nat) (w : World), e.wf → KidsIs w d u e.ks F → okE f e = true → wtE e ≤ 1048576 →
    Calls Try.prog 49 #[(.agg #[.int .i64 e.k, .int .i64 e.n, .int .i64 e.v.k, .int .i64 e.v.n, .string e.v.s, .string e.p, u])] w fun x w' => (∃ c, x = .returned c ∧ Rk m (fun b => w.heap.size ≤ b ∧ b < w'.heap.size) w' c f e) ∧ Below w.heap.size w w'
theorem rk_zero (m : Int) : RkS m 0 := fun _ _ _ _ _ _ _ h _ => by cases h
set_option maxHeartbeats 2000000 in
set_option maxRecDepth 100000 in
theorem rk_step {m : Int} {f : Nat} (hI : RkS m f) : RkS m (f + 1) := by
  intro e u F d w hw hk hok hwt
  obtain ⟨i0, hi, hz0, hz1, hz2⟩ := info_parts Try.infoRk
  obtain ⟨d, rfl⟩ := hk.succ
  obtain ⟨a, c, b, o, G, rfl, hl, hc, hG, _, ha⟩ := hk.pick
  unfold maxLen at hc
  simp only [okE, Bool.and_eq_true, List.all_eq_true] at hok
  obtain ⟨hp, hks⟩ := hok
  have hn1 : e.ks.length ≤ 1048576 := by rw [wtE_eq] at hwt; omega
  have hkw : ∀ x ∈ e.ks, wtE x ≤ 1048576 := fun x hx => by have := wtE_mem hx; rw [wtE_eq] at hwt; omega
  clear hk
  go_enter Try.func49, Try.ntmps49
  go_wp2
  go_loopw [11] (fun i wr => ∃ (k gb cp : Nat) (fs : List Value) (D : Nat → Prop), k ≤ e.ks.length ∧ i = .int .i64 k ∧ wr.heap[w.heap.size]? = some (.cells #[.int .i64 e.k, .int .i64 e.n, .int .i64 e.v.k, .int .i64 e.v.n, .string e.v.s, .string e.p, .slice a e.ks.length c] 32) ∧ wr.cell? ⟨w.heap.size + 1 + 1, 0, none⟩ = some (.slice (some ⟨gb, 0, none⟩) k cp) ∧ (∀ q, wr.frozen? ⟨w.heap.size + 1 + 1, q, none⟩ = false) ∧ wr.ownsRow (w.heap.size + 1) 65 1 (.slice (some ⟨gb, 0, none⟩) k cp) k fs ∧ gb ≠ w.heap.size + 1 + 1 ∧ (∀ b, D b → w.heap.size + 1 + 1 + 1 ≤ b ∧ b < wr.heap.size ∧ b ≠ gb) ∧ (∀ (j : Nat) (x : E7) (y : Value), e.ks[j]? = some x → fs[j]? = some y → Rk m D wr y f x) ∧ Below w.heap.size w wr ∧ w.heap.size + 1 + 1 + 1 ≤ wr.heap.size) (fun i _ => e.ks.length - (intOf i).toNat)
  case atStart =>
    refine ⟨0, w.heap.size + 1, 0, [], fun _ => False, Nat.zero_le _, rfl, ?_, by go_simp, fun q => by go_simp, ?_, by omega, fun _ h => h.elim, fun j x y _ h => by simp at h, by repeat (first | (with_reducible exact Below.refl _ _) | (with_reducible refine Below.drew ?_) | (with_reducible refine Below.alloc ?_ ?hh _; case hh => first | (simp; done) | (simp; omega) | omega) | (with_reducible refine Below.setCell ?_ ?hh _; case hh => first | (simp; done) | (simp; omega) | omega) | refine bstep (by assumption) (by first | (simp; done) | (simp; omega) | omega) ?_), by simp⟩
    · rw [Below.heap_alloc _ _ _ (by simp; omega), Below.heap_alloc _ _ _ (by simp)]; exact heap_alloc_new _ _
    · have := (World.ownsRow_lit (base := w.heap.size + 1) (e := 65) (size := 1) (w.alloc (.cells #[.int .i64 e.k, .int .i64 e.n, .int .i64 e.v.k, .int .i64 e.v.n, .string e.v.s, .string e.p, .slice a e.ks.length c] 32)) #[] 0 (by simp) (by decide) rfl)
      simp only [World.size_alloc] at this
      exact this.alloc _
  case round =>
    obtain ⟨k, gb, cp, fs, D, hkk, rfl, hE, p0, pf, hO, hgK, hD, hR, hb, hzb⟩ := hrel
    by_cases hlt : k < e.ks.length
    · obtain ⟨rfl, hblt, _, hL⟩ := ha k hlt
      obtain ⟨x, g, u, hx, hg, hxw, ⟨c0, c1, c2, c3, c4, c5⟩, c6, hKx, hbr⟩ := hL.at hG hblt hb hlt
      obtain ⟨ax, cx, rfl, _, _⟩ := hKx.shape
      have hxo := hks x (List.mem_of_getElem? hx)
      have hxt := hkw x (List.mem_of_getElem? hx)
      have hgb := hO.lt gb rfl
      have hml : k + 1 ≤ maxLen := by unfold maxLen; omega
      have hby : (k + 1) * 8 ≤ 140737488355328 := by omega
      have HX : Hid (e.ks[k]? = some x) := hx
      clear ha hL hx hks hkw
      go_wp2_with fail
      -- region
      refine startE 5 (fun w' => w'.cell? ⟨w.heap.size + 1 + 1, 0, none⟩ = some (.slice (some ⟨gb, 0, none⟩) k cp) ∧ w'.cell? ⟨wr.heap.size, 0, none⟩ = some (.int .i64 x.k) ∧ w'.cell? ⟨wr.heap.size, 1, none⟩ = some (.int .i64 x.n) ∧ w'.cell? ⟨wr.heap.size, 2, none⟩ = some (.int .i64 x.v.k) ∧ w'.cell? ⟨wr.heap.size, 3, none⟩ = some (.int .i64 x.v.n) ∧ w'.cell? ⟨wr.heap.size, 4, none⟩ = some (.string x.v.s) ∧ w'.cell? ⟨wr.heap.size, 5, none⟩ = some (.string x.p) ∧ w'.cell? ⟨wr.heap.size, 6, none⟩ = some (.slice ax x.ks.length cx)) (by kernel_rfl) ?_ (fun hHeld => ?_)
      · (try dsimp only)
        exact ⟨(cell_blk (Below.heap_alloc wr _ _ (by omega))).trans p0, by go_simp, by go_simp, by go_simp, by go_simp, by go_simp, by go_simp, by go_simp⟩
      refine takeE (i := 0) (d := 15) (v := ?_) rfl rfl (by kernel_rfl) (by kernel_rfl) (by kernel_rfl) (by kernel_rfl) (fun _ _ _ h => h) (by rfl) (by assumption) ?_ ?_
      rotate_left
      · intro w' hSw; (try dsimp only at hSw); go_simp; try exact rfl
      try simp only [List.setIfInBounds_toArray, List.set_cons_zero, List.set_cons_succ]
      refine takeE (i := 1) (d := 16) (v := ?_) rfl rfl (by kernel_rfl) (by kernel_rfl) (by kernel_rfl) (by kernel_rfl) (fun _ _ _ h => h) (by rfl) (by assumption) ?_ ?_
      rotate_left
      · intro w' hSw; (try dsimp only at hSw); go_simp; try exact rfl
      try simp only [List.setIfInBounds_toArray, List.set_cons_zero, List.set_cons_succ]
      refine oneE (i := 2) (by kernel_rfl) rfl (fun K hK => ?_)
      go_simp
      go_at_call 49
      refine Calls.mono (hI x (.slice ax x.ks.length cx) g d _ hxw (hKx.below ?hbb) hxo hxt) ?_
      case hbb => repeat (first | (with_reducible exact Below.refl _ _) | (with_reducible refine Below.drew ?_) | (with_reducible refine Below.alloc ?_ ?hh _; case hh => first | (simp; done) | (simp; omega) | omega) | (with_reducible refine Below.setCell ?_ ?hh _; case hh => first | (simp; done) | (simp; omega) | omega) | refine bstep (by assumption) (by first | (simp; done) | (simp; omega) | omega) ?_)
      rintro y w2 ⟨⟨cl, rfl, hC⟩, hb2⟩
      obtain ⟨fn, cap0, rfl, hEnt, _⟩ := id hC
      have hzw2 := hb2.size
      simp at hzw2
      have bel2 : Below wr.heap.size wr w2 := by repeat (first | (with_reducible exact Below.refl _ _) | (with_reducible refine Below.drew ?_) | (with_reducible refine Below.alloc ?_ ?hh _; case hh => first | (simp; done) | (simp; omega) | omega) | (with_reducible refine Below.setCell ?_ ?hh _; case hh => first | (simp; done) | (simp; omega) | omega) | refine bstep (by assumption) (by first | (simp; done) | (simp; omega) | omega) ?_)
      have pf2 : ∀ q, w2.frozen? ⟨w.heap.size + 1 + 1, q, none⟩ = false := fun q => ((bcell bel2).2 _ q (by omega)).trans (pf q)
      have p02 := ((bcell bel2).1 (w.heap.size + 1 + 1) 0 (by omega)).trans p0
      have hE2 := (bel2.block w.heap.size (by omega)).trans hE
      have hO2 := ownsRow_blk hO bel2
      have q0 : w2.cell? ⟨wr.heap.size, 0, none⟩ = some (.int .i64 x.k) := cell_later hb2 (by go_simp)
      have q1 : w2.cell? ⟨wr.heap.size, 1, none⟩ = some (.int .i64 x.n) := cell_later hb2 (by go_simp)
      have q2 : w2.cell? ⟨wr.heap.size, 2, none⟩ = some (.int .i64 x.v.k) := cell_later hb2 (by go_simp)
      have q3 : w2.cell? ⟨wr.heap.size, 3, none⟩ = some (.int .i64 x.v.n) := cell_later hb2 (by go_simp)
      have q4 : w2.cell? ⟨wr.heap.size, 4, none⟩ = some (.string x.v.s) := cell_later hb2 (by go_simp)
      have q5 : w2.cell? ⟨wr.heap.size, 5, none⟩ = some (.string x.p) := cell_later hb2 (by go_simp)
      have q6 : w2.cell? ⟨wr.heap.size, 6, none⟩ = some (.slice ax x.ks.length cx) := cell_later hb2 (by go_simp)
      try go_wp2_with fail
      refine hK.out _ _ ?_ (fun hHeld2 => ?_)
      · intro _
        (try dsimp only)
        exact ⟨p02, q0, q1, q2, q3, q4, q5, q6⟩
      clear hK
      replace hHeld2 := hHeld2 (by decide)
      try simp only [List.setIfInBounds_toArray, List.set_cons_zero, List.set_cons_succ]
      refine oneE (i := 3) (by kernel_rfl) rfl (fun K hK => ?_)
      go_simp
      refine hK.out _ _ ?_ (fun hHeld3 => ?_)
      · intro _
        (try dsimp only)
        exact ⟨(cell_blk (Below.heap_alloc w2 _ _ (by omega))).trans p02, (cell_blk (Below.heap_alloc w2 _ _ (by omega))).trans q0, (cell_blk (Below.heap_alloc w2 _ _ (by omega))).trans q1, (cell_blk (Below.heap_alloc w2 _ _ (by omega))).trans q2, (cell_blk (Below.heap_alloc w2 _ _ (by omega))).trans q3, (cell_blk (Below.heap_alloc w2 _ _ (by omega))).trans q4, (cell_blk (Below.heap_alloc w2 _ _ (by omega))).trans q5, (cell_blk (Below.heap_alloc w2 _ _ (by omega))).trans q6⟩
      clear hK
      replace hHeld3 := hHeld3 (by decide)
      try simp only [List.setIfInBounds_toArray, List.set_cons_zero, List.set_cons_succ]
      refine oneE (i := 4) (by kernel_rfl) rfl (fun K hK => ?_)
      refine step_append_lies _ (by rfl) _ _ _ (by rfl) (w.heap.size + 1) 65 i0 _ 1 8 Try.underlying88 hi hz0 hz1 hz2 rfl (by omega) (.slice (some ⟨gb, 0, none⟩) k cp) k fs (by rfl) (hO2.alloc _) ⟨w2.heap.size, 0, none⟩ 1 1 [.func (.func fn) #[] cap0] (by rfl) (by rfl) (World.news_of_block (cs := #[.func (.func fn) #[] cap0]) (t := 65) (fr := (0, 0)) (heap_alloc_new w2 _)) (by simp [Value.oneCell']) (by omega) hml hby (by simp; omega) (w2.heap.size + 1) (by simp) ?_
      intro gg cap w3 hown3 hgrow hat hlt3
      have hz3 := hgrow.size
      simp at hz3
      have farb : ∀ b, b < w2.heap.size → b ≠ gb → w3.heap[b]? = w2.heap[b]? := fun b hb hne => (hgrow.block b (by simp; omega) (by simp [Value.ownBlock]; exact fun h => hne h)).trans (Below.heap_alloc _ _ _ hb)
      have pf3 : ∀ q, w3.frozen? ⟨w.heap.size + 1 + 1, q, none⟩ = false := fun q => (frozen_blk (farb _ (by omega) (Ne.symm hgK))).trans (pf2 q)
      have p03 := (cell_blk (o := 0) (farb (w.heap.size + 1 + 1) (by omega) (Ne.symm hgK))).trans p02
      have hE3 := (farb w.heap.size (by omega) (by omega)).trans hE2
      have far0 : ∀ q, w3.cell? ⟨wr.heap.size, q, none⟩ = w2.cell? ⟨wr.heap.size, q, none⟩ := fun q => cell_blk (farb wr.heap.size (by omega) (by omega))
      have bel3 : Below w.heap.size w w3 := Below.grown (by repeat (first | (with_reducible exact Below.refl _ _) | (with_reducible refine Below.drew ?_) | (with_reducible refine Below.alloc ?_ ?hh _; case hh => first | (simp; done) | (simp; omega) | omega) | (with_reducible refine Below.setCell ?_ ?hh _; case hh => first | (simp; done) | (simp; omega) | omega) | refine bstep (by assumption) (by first | (simp; done) | (simp; omega) | omega) ?_)) hgrow (by simp; omega) (fun b hb => by simp [Value.ownBlock] at hb; omega)
      refine hK.out _ _ ?_ (fun hHeld4 => ?_)
      · intro _
        (try dsimp only)
        exact ⟨p03, (far0 _).trans q0, (far0 _).trans q1, (far0 _).trans q2, (far0 _).trans q3, (far0 _).trans q4, (far0 _).trans q5, (far0 _).trans q6⟩
      clear hK
      replace hHeld4 := hHeld4 (by decide)
      try simp only [List.setIfInBounds_toArray, List.set_cons_zero, List.set_cons_succ]
      refine oneE (i := 5) (by kernel_rfl) rfl (fun K hK => ?_)
      go_simp
      refine hK.out _ _ ?_ (fun hHeld5 => ?_)
      · exact fun h => absurd rfl h
      clear hK hHeld5
      try simp only [List.setIfInBounds_toArray, List.set_cons_zero, List.set_cons_succ]
      refine doneE (by kernel_rfl) ?_ _
      -- end of the region
      have hgg : gg = gb ∨ gg = w2.heap.size + 1 := by
        rcases hat with h | h
        · exact .inl (by simpa [Value.ownBlock] using h.symm)
        · exact .inr h
      have hfl : fs.length = k := by have := hO.1; omega
      generalize hcl : (Value.func (Fn.func fn) #[] cap0) = cl at *
      have same : ∀ b, b ≠ w.heap.size + 1 + 1 → (w3.setCell ⟨w.heap.size + 1 + 1, 0, none⟩ (.slice (some ⟨gg, 0, none⟩) (k + 1) cap)).heap[b]? = w3.heap[b]? := fun b hb => Below.heap_setCell _ _ _ _ (by simpa using hb)
      have E1 := (same w.heap.size (by omega)).trans hE3
      have P1 : (w3.setCell ⟨w.heap.size + 1 + 1, 0, none⟩ (.slice (some ⟨gg, 0, none⟩) (k + 1) cap)).cell? ⟨w.heap.size + 1 + 1, 0, none⟩ = some (.slice (some ⟨gg, 0, none⟩) (k + 1) cap) := World.cell?_setCell_same _ _ _ p03
      have PF : ∀ q, (w3.setCell ⟨w.heap.size + 1 + 1, 0, none⟩ (.slice (some ⟨gg, 0, none⟩) (k + 1) cap)).frozen? ⟨w.heap.size + 1 + 1, q, none⟩ = false := fun q => by simpa using pf3 q
      have O1 := ownsRow_eq hown3 (same gg (by omega))
      have D1 : ∀ b, (D b ∨ (wr.heap.size + 1 ≤ b ∧ b < w2.heap.size)) → w.heap.size + 1 + 1 + 1 ≤ b ∧ b < (w3.setCell ⟨w.heap.size + 1 + 1, 0, none⟩ (.slice (some ⟨gg, 0, none⟩) (k + 1) cap)).heap.size ∧ b ≠ gg := by
        intro b hb
        rw [World.size_setCell]
        rcases hb with hb | hb
        · have := hD b hb; omega
        · omega
      have R1 : ∀ (j : Nat) (x : E7) (y : Value), e.ks[j]? = some x → (fs ++ [cl])[j]? = some y → Rk m (fun b => D b ∨ (wr.heap.size + 1 ≤ b ∧ b < w2.heap.size)) (w3.setCell ⟨w.heap.size + 1 + 1, 0, none⟩ (.slice (some ⟨gg, 0, none⟩) (k + 1) cap)) y f x := by
        intro j x' y hx' hy
        rcases Nat.lt_or_ge j k with hj | hj
        · rw [List.getElem?_append_left (by omega)] at hy
          refine (hR j x' y hx' hy).keep (fun b hb => .inl hb) fun b hb => ?_
          have := hD b hb
          exact ((same b (by omega)).trans (farb b (by omega) (by omega))).trans (bel2.block b (by omega))
        · rw [List.getElem?_append_right (by omega)] at hy
          have hjk : j = k := by
            have : j - fs.length = 0 := by
              rcases Nat.eq_zero_or_pos (j - fs.length) with h | h
              · exact h
              · rw [List.getElem?_eq_none (by simp; omega)] at hy; cases hy
            omega
          subst hjk
          rw [hfl, Nat.sub_self] at hy
          simp at hy
          subst hy
          obtain rfl : x = x' := Option.some.inj (HX.out.symm.trans hx')
          refine hC.keep (fun b hb => .inr ?_) fun b hb => ?_
          · simp at hb; omega
          · simp at hb
            exact (same b (by omega)).trans (farb b (by omega) (by omega))
      have B1 : Below w.heap.size w (w3.setCell ⟨w.heap.size + 1 + 1, 0, none⟩ (.slice (some ⟨gg, 0, none⟩) (k + 1) cap)) := bel3.setCell (by simp; omega) _
      have Z1 : w.heap.size + 1 + 1 + 1 ≤ (w3.setCell ⟨w.heap.size + 1 + 1, 0, none⟩ (.slice (some ⟨gg, 0, none⟩) (k + 1) cap)).heap.size := by rw [World.size_setCell]; omega
      clear hown3 hgrow hat far0 farb hC hb2 hR hO hO2 p03 pf3 hHeld hHeld2 hHeld3 hHeld4 q0 q1 q2 q3 q4 q5 q6 same hcl
      go_wp2
      exact ⟨⟨k + 1, gg, cap, _, _, hlt, by simp, E1, P1, PF, O1, by omega, D1, R1, B1, Z1⟩, by simp [intOf]; omega⟩
    · obtain rfl : k = e.ks.length := by omega
      have e0 : wr.cell? ⟨w.heap.size, 0, none⟩ = some (.int .i64 e.k) := by simp [World.cell?, hE]
      have hgl := hO.lt gb rfl
      have hfl := hO.1
      have hcp : cp ≤ maxLen := by
        rcases hO.2 with ⟨h, _⟩ | ⟨g, cap, cur, h, _, _, _, h4, _⟩
        · cases h
        · injection h with h1 h2 h3; omega
      have KR : KidsRk m (fun b => w.heap.size ≤ b ∧ b < wr.heap.size) wr (w.heap.size + 1 + 1) gb cp f e.ks fs := ⟨hcp, fun b hb => hb.2, ⟨by omega, by omega⟩, fun _ => ⟨by omega, hgl.2⟩, p0, by omega, fun i x y hx hy => ⟨(hO.cellAt i (by have := (List.getElem?_eq_some_iff.1 hx).1; omega)).trans hy, (hR i x y hx hy).keep (fun b hb => by have := hD b hb; omega) (fun _ _ => rfl)⟩⟩
      have hDE : w.heap.size ≤ w.heap.size ∧ w.heap.size < wr.heap.size := by omega
      clear ha hks hkw hR hO hD hI
      by_cases h0 : e.k = 0
      · have RK := rk_0 (m := m) (D := fun b => w.heap.size ≤ b ∧ b < wr.heap.size) (w := wr) (f := f) hE hDE h0
        rw [h0] at e0
        clear KR hE hp h0
        go_wp2
        go_returns
        exact ⟨⟨_, rfl, RK.keep (fun b hb => by simp; omega) (fun b hb => Below.heap_alloc _ _ _ hb.2)⟩, by repeat (first | (with_reducible exact Below.refl _ _) | (with_reducible refine Below.drew ?_) | (with_reducible refine Below.alloc ?_ ?hh _; case hh => first | (simp; done) | (simp; omega) | omega) | (with_reducible refine Below.setCell ?_ ?hh _; case hh => first | (simp; done) | (simp; omega) | omega) | refine bstep (by assumption) (by first | (simp; done) | (simp; omega) | omega) ?_)⟩
      by_cases h1 : e.k = 1
      · have RK := rk_1 (m := m) (D := fun b => w.heap.size ≤ b ∧ b < wr.heap.size) (w := wr) (f := f) hE hDE h1
        rw [h1] at e0
        clear KR hE hp h0 h1
        go_wp2
        go_returns
        exact ⟨⟨_, rfl, RK.keep (fun b hb => by simp; omega) (fun b hb => Below.heap_alloc _ _ _ hb.2)⟩, by repeat (first | (with_reducible exact Below.refl _ _) | (with_reducible refine Below.drew ?_) | (with_reducible refine Below.alloc ?_ ?hh _; case hh => first | (simp; done) | (simp; omega) | omega) | (with_reducible refine Below.setCell ?_ ?hh _; case hh => first | (simp; done) | (simp; omega) | omega) | refine bstep (by assumption) (by first | (simp; done) | (simp; omega) | omega) ?_)⟩
      by_cases h2 : e.k = 2
      · have RK := rk_2 (m := m) (D := fun b => w.heap.size ≤ b ∧ b < wr.heap.size) (w := wr) (f := f) hE hDE KR h2
        rw [h2] at e0
        clear KR hE hp h0 h1 h2
        go_wp2
        go_returns
        exact ⟨⟨_, rfl, RK.keep (fun b hb => by simp; omega) (fun b hb => Below.heap_alloc _ _ _ hb.2)⟩, by repeat (first | (with_reducible exact Below.refl _ _) | (with_reducible refine Below.drew ?_) | (with_reducible refine Below.alloc ?_ ?hh _; case hh => first | (simp; done) | (simp; omega) | omega) | (with_reducible refine Below.setCell ?_ ?hh _; case hh => first | (simp; done) | (simp; omega) | omega) | refine bstep (by assumption) (by first | (simp; done) | (simp; omega) | omega) ?_)⟩
      by_cases h3 : e.k = 3
      · have RK := rk_3 (m := m) (D := fun b => w.heap.size ≤ b ∧ b < wr.heap.size) (w := wr) (f := f) KR h3
        rw [h3] at e0
        clear KR hE hp h0 h1 h2 h3
        go_wp2
        go_returns
        exact ⟨⟨_, rfl, RK.keep (fun b hb => by simp; omega) (fun b hb => Below.heap_alloc _ _ _ hb.2)⟩, by repeat (first | (with_reducible exact Below.refl _ _) | (with_reducible refine Below.drew ?_) | (with_reducible refine Below.alloc ?_ ?hh _; case hh => first | (simp; done) | (simp; omega) | omega) | (with_reducible refine Below.setCell ?_ ?hh _; case hh => first | (simp; done) | (simp; omega) | omega) | refine bstep (by assumption) (by first | (simp; done) | (simp; omega) | omega) ?_)⟩
      by_cases h4 : e.k = 4
      · have RK := rk_4 (m := m) (D := fun b => w.heap.size ≤ b ∧ b < wr.heap.size) (w := wr) (f := f) KR h4
        rw [h4] at e0
        clear KR hE hp h0 h1 h2 h3 h4
        go_wp2
        go_returns
        exact ⟨⟨_, rfl, RK.keep (fun b hb => by simp; omega) (fun b hb => Below.heap_alloc _ _ _ hb.2)⟩, by repeat (first | (with_reducible exact Below.refl _ _) | (with_reducible refine Below.drew ?_) | (with_reducible refine Below.alloc ?_ ?hh _; case hh => first | (simp; done) | (simp; omega) | omega) | (with_reducible refine Below.setCell ?_ ?hh _; case hh => first | (simp; done) | (simp; omega) | omega) | refine bstep (by assumption) (by first | (simp; done) | (simp; omega) | omega) ?_)⟩
      rw [partsB_x h0 h1 h2 h3 h4] at hp
      cases hp
theorem rk_any (m : Int) : ∀ f, RkS m f
  | 0 => rk_zero m
  | f + 1 => rk_step (rk_any m f)
end Go.Proofs.Ytbhojlchibmfpaa
