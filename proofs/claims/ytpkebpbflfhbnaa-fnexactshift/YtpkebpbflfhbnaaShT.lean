/- Own text. The contract of spec.Shift. -/
import Derived.Test.YtpkebpbflfhbnaaShS
import Derived.Test.YtpkebpbflfhbnaaExpOkS
import Derived.Handy
namespace Go.Proofs.Ytpkebpbflfhbnaa
open Go.RowKit Go.Deep Go.ChangeShapes Go.WideShapes
set_option linter.unusedVariables false
def okC (s x : Int) : Bool := decide (0 ≤ x) && decide (x ≤ 11) && decide (0 ≤ x + s) && decide (x + s ≤ 11)
theorem okC_iff {s x : Int} : okC s x = true ↔ 0 ≤ x ∧ x ≤ 11 ∧ 0 ≤ x + s ∧ x + s ≤ 11 := by
  unfold okC
  simp only [Bool.and_eq_true, decide_eq_true_eq, and_assoc]
/-- what Shift answers. -/
def ansSh (d : Nat) (s : Int) (e : E7) : E7 := if (colsL d e).all (okC s) = true ∧ colsL d e ≠ [] then shE d s e else e
theorem ansSh_no {d : Nat} {s : Int} {e : E7} {x : Int} (hx : x ∈ colsL d e) (h : okC s x = false) : ansSh d s e = e := by
  unfold ansSh
  rw [if_neg]
  rintro ⟨h1, _⟩
  have := List.all_eq_true.1 h1 x hx
  rw [h] at this
  cases this
theorem ansSh_nil {d : Nat} {s : Int} {e : E7} (h : colsL d e = []) : ansSh d s e = e := by
  unfold ansSh
  rw [if_neg]
  rintro ⟨_, h2⟩
  exact h2 h
theorem ansSh_yes {d : Nat} {s : Int} {e : E7} (h : ∀ x ∈ colsL d e, okC s x = true) (hne : colsL d e ≠ []) : ansSh d s e = shE d s e := by
  unfold ansSh
  rw [if_pos ⟨List.all_eq_true.2 h, hne⟩]
theorem ansSh_wt (d : Nat) (s : Int) (e : E7) : wtE (ansSh d s e) = wtE e := by
  unfold ansSh
  split
  · exact shE_wt d s e
  · rfl
set_option maxHeartbeats 1000000 in
theorem l01In_w (n a b : Int) (w : World) :
    Calls Try.prog 35 #[.int .i64 n, .int .i64 a, .int .i64 b] w fun e w' => e = .returned (.bool (decide (a ≤ n) && decide (n ≤ b))) ∧ w = w' := by
  by_cases h1 : a ≤ n
  · go_enter Try.func35, Try.ntmps35
    go_wp2
    go_returns
    exact ⟨ret_bool (by simp [h1]), rfl⟩
  · go_enter Try.func35, Try.ntmps35
    go_wp2
    go_returns
    exact ⟨ret_bool (by simp; omega), rfl⟩
theorem l01In_v (n a b : Int) (t : Bool) (ht : (decide (a ≤ n) && decide (n ≤ b)) = t) (w : World) :
    Calls Try.prog 35 #[.int .i64 n, .int .i64 a, .int .i64 b] w fun e w' => e = .returned (.bool t) ∧ w = w' := by
  rw [← ht]
  exact l01In_w n a b w
set_option maxHeartbeats 4000000 in
set_option maxRecDepth 100000 in
theorem specShift_any (D : Nat) (s : Int) (e : E7) (u : Value) (F : List Nat) (w : World) (he : e.wf) (hk : KidsIs w (D + 1) u e.ks F) (hn : wtE e ≤ 1048576) (r : E7) (hR : Hid (ansSh (D + 1) s e = r)) :
    Calls Try.prog 16 #[(.agg #[.int .i64 e.k, .int .i64 e.n, .int .i64 e.v.k, .int .i64 e.v.n, .string e.v.s, .string e.p, u]), .int .i64 s] w fun x w' => (∃ u' F', x = .returned (.agg #[.int .i64 r.k, .int .i64 r.n, .int .i64 r.v.k, .int .i64 r.v.n, .string r.v.s, .string r.p, u']) ∧ KidsIs w' (D + 1) u' r.ks F') ∧ Below w.heap.size w w' := by
  obtain ⟨a, c, rfl, hl, hc⟩ := hk.shape
  obtain ⟨L, hL⟩ : ∃ L, Hid (colsL (D + 1) e = L) := ⟨_, rfl⟩
  go_enter Try.func16, Try.ntmps16
  go_wp2_with fail
  refine Calls.mono (specCols_any (D + 1) e (.slice a e.ks.length c) F _ (hk.below ?hb) hn) ?_
  case hb => repeat (first | (with_reducible exact Below.refl _ _) | (with_reducible refine Below.drew ?_) | (with_reducible refine Below.alloc ?_ ?hh _; case hh => first | (simp; done) | (simp; omega) | omega) | (with_reducible refine Below.setCell ?_ ?hh _; case hh => first | (simp; done) | (simp; omega) | omega) | refine bstep (by assumption) (by first | (simp; done) | (simp; omega) | omega) ?_)
  rintro y w1 ⟨⟨v1, rfl, hI⟩, hb1⟩
  rw [hL.out] at hI
  obtain ⟨b, o, cc, rfl, hbl, hbc, hblt, hcell⟩ := hI
  unfold maxLen at hbc
  have hz1 := hb1.size
  simp only [World.size_alloc] at hz1
  have hLl : L.length ≤ 1048577 := by have := colsL_len (D + 1) e; rw [hL.out] at this; omega
  have q0 : w1.cell? ⟨w.heap.size, 0, none⟩ = some (.int .i64 e.k) := cell_later hb1 (by go_simp)
  have q1 : w1.cell? ⟨w.heap.size, 1, none⟩ = some (.int .i64 e.n) := cell_later hb1 (by go_simp)
  have q2 : w1.cell? ⟨w.heap.size, 2, none⟩ = some (.int .i64 e.v.k) := cell_later hb1 (by go_simp)
  have q3 : w1.cell? ⟨w.heap.size, 3, none⟩ = some (.int .i64 e.v.n) := cell_later hb1 (by go_simp)
  have q4 : w1.cell? ⟨w.heap.size, 4, none⟩ = some (.string e.v.s) := cell_later hb1 (by go_simp)
  have q5 : w1.cell? ⟨w.heap.size, 5, none⟩ = some (.string e.p) := cell_later hb1 (by go_simp)
  have q6 : w1.cell? ⟨w.heap.size, 6, none⟩ = some (.slice a e.ks.length c) := cell_later hb1 (by go_simp)
  have r0 : w1.cell? ⟨w.heap.size + 1, 0, none⟩ = some (.int .i64 0) := cell_later hb1 (by go_simp)
  have r1 : w1.cell? ⟨w.heap.size + 1, 1, none⟩ = some (.int .i64 0) := cell_later hb1 (by go_simp)
  have r2 : w1.cell? ⟨w.heap.size + 1, 2, none⟩ = some (.int .i64 0) := cell_later hb1 (by go_simp)
  have r3 : w1.cell? ⟨w.heap.size + 1, 3, none⟩ = some (.int .i64 0) := cell_later hb1 (by go_simp)
  have r4 : w1.cell? ⟨w.heap.size + 1, 4, none⟩ = some (.string ⟨#[]⟩) := cell_later hb1 (by go_simp)
  have r5 : w1.cell? ⟨w.heap.size + 1, 5, none⟩ = some (.string ⟨#[]⟩) := cell_later hb1 (by go_simp)
  have r6 : w1.cell? ⟨w.heap.size + 1, 6, none⟩ = some (.slice none 0 0) := cell_later hb1 (by go_simp)
  have rf : ∀ q, w1.frozen? ⟨w.heap.size + 1, q, none⟩ = false := fun q => ((bcell hb1).2 _ q (by simp)).trans (by go_simp)
  have bel1 : Below w.heap.size w w1 := by repeat (first | (with_reducible exact Below.refl _ _) | (with_reducible refine Below.drew ?_) | (with_reducible refine Below.alloc ?_ ?hh _; case hh => first | (simp; done) | (simp; omega) | omega) | (with_reducible refine Below.setCell ?_ ?hh _; case hh => first | (simp; done) | (simp; omega) | omega) | refine bstep (by assumption) (by first | (simp; done) | (simp; omega) | omega) ?_)
  have hk1 : KidsIs w1 (D + 1) (.slice a e.ks.length c) e.ks F := hk.below bel1
  have hzl : w.heap.size < w1.heap.size := by omega
  have hzl1 : w.heap.size + 1 < w1.heap.size := by omega
  have hRno : ∀ x ∈ L, okC s x = false → e = r := fun x hx h => by rw [← hR.out, ansSh_no (by rw [hL.out]; exact hx) h]
  have hRnil : L = [] → e = r := fun h => by rw [← hR.out, ansSh_nil (by rw [hL.out]; exact h)]
  have hRyes : (∀ x ∈ L, okC s x = true) → L ≠ [] → shE (D + 1) s e = r := fun h h2 => by rw [← hR.out, ansSh_yes (by rw [hL.out]; exact h) (by rw [hL.out]; exact h2)]
  clear hb1 hk hR
  go_wp2
  go_loopw [6] (fun i wr => ∃ k : Nat, k ≤ L.length ∧ i = .int .i64 k ∧ (∀ j x, j < k → L[j]? = some x → okC s x = true) ∧ Below w1.heap.size w1 wr) (fun i _ => L.length - (intOf i).toNat)
  case atStart => exact ⟨0, Nat.zero_le _, rfl, fun j x hj => by omega, Below.refl _ _⟩
  case round =>
    obtain ⟨k, hkl, rfl, hall, hb⟩ := hrel
    have hzb := hb.size
    have bc := (bcell hb).1
    have p0 := (bc _ _ hzl).trans q0
    have p1 := (bc _ _ hzl).trans q1
    have p2 := (bc _ _ hzl).trans q2
    have p3 := (bc _ _ hzl).trans q3
    have p4 := (bc _ _ hzl).trans q4
    have p5 := (bc _ _ hzl).trans q5
    have p6 := (bc _ _ hzl).trans q6
    have t0 := (bc _ _ hzl1).trans r0
    have t1 := (bc _ _ hzl1).trans r1
    have t2 := (bc _ _ hzl1).trans r2
    have t3 := (bc _ _ hzl1).trans r3
    have t4 := (bc _ _ hzl1).trans r4
    have t5 := (bc _ _ hzl1).trans r5
    have t6 := (bc _ _ hzl1).trans r6
    have tf : ∀ q, wr.frozen? ⟨w.heap.size + 1, q, none⟩ = false := fun q => ((bcell hb).2 _ q hzl1).trans (rf q)
    have hkr := hk1.below hb
    have hbw : Below w.heap.size w wr := bel1.trans (hb.mono (by omega))
    have hCopy := fun W (hW : Below wr.heap.size wr W) => l03Copy_any (D + 1) e (.slice a e.ks.length c) F W (hkr.below hW) hn
    by_cases hlt : k < L.length
    · obtain ⟨x, hx⟩ : ∃ x, L[k]? = some x := ⟨L[k], by simp [hlt]⟩
      have cx := (bc _ _ hblt).trans (hcell k x hx)
      have hxm := List.mem_of_getElem? hx
      by_cases hok : okC s x = true
      · have hall2 : Hid (∀ j y, j < k + 1 → L[j]? = some y → okC s y = true) := fun j y hj hy => by
          by_cases ej : j = k
          · subst ej; rw [hx] at hy; cases hy; exact hok
          · exact hall j y (by omega) hy
        obtain ⟨o1, o2, o3, o4⟩ := okC_iff.1 hok
        have s1 : -12 ≤ s := by omega
        have s2 : s ≤ 12 := by omega
        clear hall hok hRno hRnil hRyes hcell bc hx hCopy q0 q1 q2 q3 q4 q5 q6 r0 r1 r2 r3 r4 r5 r6 rf hkr
        go_wp2_with (go_at_call 35; refine (l01In_w _ _ _ _).mono ?_; rintro e' w' ⟨rfl, hw'⟩; subst hw')
        exact ⟨⟨k + 1, hlt, by simp, hall2.out, hb⟩, by simp [intOf]; omega⟩
      · have hok' : okC s x = false := by simpa using hok
        obtain rfl := hRno x hxm hok'
        have hcase : (decide (-12 ≤ s) && decide (s ≤ 12)) = false ∨ ((decide (-12 ≤ s) && decide (s ≤ 12)) = true ∧ (decide (0 ≤ x) && decide (x ≤ 11)) = false) ∨ ((decide (-12 ≤ s) && decide (s ≤ 12)) = true ∧ (decide (0 ≤ x) && decide (x ≤ 11)) = true ∧ (decide (0 ≤ x + s) && decide (x + s ≤ 11)) = false) := by
          unfold okC at hok'
          cases h1 : (decide (-12 ≤ s) && decide (s ≤ 12))
          · exact .inl rfl
          · cases h2 : (decide (0 ≤ x) && decide (x ≤ 11))
            · exact .inr (.inl ⟨rfl, rfl⟩)
            · refine .inr (.inr ⟨rfl, rfl, ?_⟩)
              rw [h2, Bool.and_assoc] at hok'
              simpa using hok'
        clear bc hok hok' hx hxm q0 q1 q2 q3 q4 q5 q6 r0 r1 r2 r3 r4 r5 r6 rf hall hcell
        rcases hcase with h1 | ⟨h1, h2⟩ | ⟨h1, h2, h3⟩
        · go_wp2_with (first | (go_at_call 35; (first | with_reducible refine (l01In_v s (-12) 12 _ h1 _).mono ?_ ); rintro e' w' ⟨rfl, hw'⟩; subst hw') | fail)
          refine Calls.mono (hCopy _ (Below.refl _ _)) ?_
          rintro y w3 ⟨⟨u3, F3, rfl, hK3, hO3⟩, hb3⟩
          obtain ⟨a3, n3, rfl, _, _⟩ := hK3.shape
          have hz3 := hb3.size
          have hbw3 : Below w.heap.size w w3 := hbw.trans (hb3.mono hbw.size)
          have hzw3 : w.heap.size + 1 < w3.heap.size := by omega
          have hzr : w.heap.size + 1 < wr.heap.size := by omega
          have v0 := ((bcell hb3).1 _ _ hzr).trans t0
          have v1 := ((bcell hb3).1 _ _ hzr).trans t1
          have v2 := ((bcell hb3).1 _ _ hzr).trans t2
          have v3 := ((bcell hb3).1 _ _ hzr).trans t3
          have v4 := ((bcell hb3).1 _ _ hzr).trans t4
          have v5 := ((bcell hb3).1 _ _ hzr).trans t5
          have v6 := ((bcell hb3).1 _ _ hzr).trans t6
          have vf : ∀ q, w3.frozen? ⟨w.heap.size + 1, q, none⟩ = false := fun q => ((bcell hb3).2 _ q hzr).trans (tf q)
          have hne : ∀ q ∈ F3, q ≠ w.heap.size + 1 := fun q hq => by have := (hO3.2 q hq).1; omega
          clear hb3 hO3 t0 t1 t2 t3 t4 t5 t6 tf p0 p1 p2 p3 p4 p5 p6 hb hCopy hRno hRnil hRyes hkr
          go_wp2
          refine bodyPost_ret (v := .agg #[.int .i64 e.k, .int .i64 e.n, .int .i64 e.v.k, .int .i64 e.v.n, .string e.v.s, .string e.p, .slice a3 e.ks.length n3]) (by simp [results, Try.results16, go_sem, *]) rfl ⟨⟨.slice a3 e.ks.length n3, F3, rfl, hK3.keep (by simp) fun q hq => ?_⟩, ?_⟩
          · iterate 7 rw [Below.heap_setCell _ _ _ _ (hne q hq)]
          · repeat (first | (with_reducible exact hbw3) | (with_reducible refine Below.setCell ?_ ?hh _; case hh => (simp; try omega)))
        · go_wp2_with (first | (go_at_call 35; (first | with_reducible refine (l01In_v s (-12) 12 _ h1 _).mono ?_ | with_reducible refine (l01In_v x 0 11 _ h2 _).mono ?_ ); rintro e' w' ⟨rfl, hw'⟩; subst hw') | fail)
          refine Calls.mono (hCopy _ (Below.refl _ _)) ?_
          rintro y w3 ⟨⟨u3, F3, rfl, hK3, hO3⟩, hb3⟩
          obtain ⟨a3, n3, rfl, _, _⟩ := hK3.shape
          have hz3 := hb3.size
          have hbw3 : Below w.heap.size w w3 := hbw.trans (hb3.mono hbw.size)
          have hzw3 : w.heap.size + 1 < w3.heap.size := by omega
          have hzr : w.heap.size + 1 < wr.heap.size := by omega
          have v0 := ((bcell hb3).1 _ _ hzr).trans t0
          have v1 := ((bcell hb3).1 _ _ hzr).trans t1
          have v2 := ((bcell hb3).1 _ _ hzr).trans t2
          have v3 := ((bcell hb3).1 _ _ hzr).trans t3
          have v4 := ((bcell hb3).1 _ _ hzr).trans t4
          have v5 := ((bcell hb3).1 _ _ hzr).trans t5
          have v6 := ((bcell hb3).1 _ _ hzr).trans t6
          have vf : ∀ q, w3.frozen? ⟨w.heap.size + 1, q, none⟩ = false := fun q => ((bcell hb3).2 _ q hzr).trans (tf q)
          have hne : ∀ q ∈ F3, q ≠ w.heap.size + 1 := fun q hq => by have := (hO3.2 q hq).1; omega
          clear hb3 hO3 t0 t1 t2 t3 t4 t5 t6 tf p0 p1 p2 p3 p4 p5 p6 hb hCopy hRno hRnil hRyes hkr
          go_wp2
          refine bodyPost_ret (v := .agg #[.int .i64 e.k, .int .i64 e.n, .int .i64 e.v.k, .int .i64 e.v.n, .string e.v.s, .string e.p, .slice a3 e.ks.length n3]) (by simp [results, Try.results16, go_sem, *]) rfl ⟨⟨.slice a3 e.ks.length n3, F3, rfl, hK3.keep (by simp) fun q hq => ?_⟩, ?_⟩
          · iterate 7 rw [Below.heap_setCell _ _ _ _ (hne q hq)]
          · repeat (first | (with_reducible exact hbw3) | (with_reducible refine Below.setCell ?_ ?hh _; case hh => (simp; try omega)))
        · have i1 : -12 ≤ s ∧ s ≤ 12 := by simpa using h1
          have i2 : 0 ≤ x ∧ x ≤ 11 := by simpa using h2
          obtain ⟨i1, i3⟩ := i1
          obtain ⟨i2, i4⟩ := i2
          go_wp2_with (first | (go_at_call 35; (first | with_reducible refine (l01In_v s (-12) 12 _ h1 _).mono ?_ | with_reducible refine (l01In_v x 0 11 _ h2 _).mono ?_ | with_reducible refine (l01In_v (x + s) 0 11 _ h3 _).mono ?_ ); rintro e' w' ⟨rfl, hw'⟩; subst hw') | fail)
          refine Calls.mono (hCopy _ (Below.refl _ _)) ?_
          rintro y w3 ⟨⟨u3, F3, rfl, hK3, hO3⟩, hb3⟩
          obtain ⟨a3, n3, rfl, _, _⟩ := hK3.shape
          have hz3 := hb3.size
          have hbw3 : Below w.heap.size w w3 := hbw.trans (hb3.mono hbw.size)
          have hzw3 : w.heap.size + 1 < w3.heap.size := by omega
          have hzr : w.heap.size + 1 < wr.heap.size := by omega
          have v0 := ((bcell hb3).1 _ _ hzr).trans t0
          have v1 := ((bcell hb3).1 _ _ hzr).trans t1
          have v2 := ((bcell hb3).1 _ _ hzr).trans t2
          have v3 := ((bcell hb3).1 _ _ hzr).trans t3
          have v4 := ((bcell hb3).1 _ _ hzr).trans t4
          have v5 := ((bcell hb3).1 _ _ hzr).trans t5
          have v6 := ((bcell hb3).1 _ _ hzr).trans t6
          have vf : ∀ q, w3.frozen? ⟨w.heap.size + 1, q, none⟩ = false := fun q => ((bcell hb3).2 _ q hzr).trans (tf q)
          have hne : ∀ q ∈ F3, q ≠ w.heap.size + 1 := fun q hq => by have := (hO3.2 q hq).1; omega
          clear hb3 hO3 t0 t1 t2 t3 t4 t5 t6 tf p0 p1 p2 p3 p4 p5 p6 hb hCopy hRno hRnil hRyes hkr
          go_wp2
          refine bodyPost_ret (v := .agg #[.int .i64 e.k, .int .i64 e.n, .int .i64 e.v.k, .int .i64 e.v.n, .string e.v.s, .string e.p, .slice a3 e.ks.length n3]) (by simp [results, Try.results16, go_sem, *]) rfl ⟨⟨.slice a3 e.ks.length n3, F3, rfl, hK3.keep (by simp) fun q hq => ?_⟩, ?_⟩
          · iterate 7 rw [Below.heap_setCell _ _ _ _ (hne q hq)]
          · repeat (first | (with_reducible exact hbw3) | (with_reducible refine Below.setCell ?_ ?hh _; case hh => (simp; try omega)))
    · obtain rfl : k = L.length := by omega
      by_cases hne0 : L = []
      · obtain rfl := hRnil hne0
        have hl0 : L.length = 0 := by rw [hne0]; rfl
        have hl1 : (L.length : Int) = 0 := by omega
        clear bc hl0 hne0 q0 q1 q2 q3 q4 q5 q6 r0 r1 r2 r3 r4 r5 r6 rf
        go_wp2_with fail
        refine Calls.mono (hCopy _ (Below.refl _ _)) ?_
        rintro y w3 ⟨⟨u3, F3, rfl, hK3, hO3⟩, hb3⟩
        obtain ⟨a3, n3, rfl, _, _⟩ := hK3.shape
        have hz3 := hb3.size
        have hbw3 : Below w.heap.size w w3 := hbw.trans (hb3.mono hbw.size)
        have hzw3 : w.heap.size + 1 < w3.heap.size := by omega
        have hzr : w.heap.size + 1 < wr.heap.size := by omega
        have v0 := ((bcell hb3).1 _ _ hzr).trans t0
        have v1 := ((bcell hb3).1 _ _ hzr).trans t1
        have v2 := ((bcell hb3).1 _ _ hzr).trans t2
        have v3 := ((bcell hb3).1 _ _ hzr).trans t3
        have v4 := ((bcell hb3).1 _ _ hzr).trans t4
        have v5 := ((bcell hb3).1 _ _ hzr).trans t5
        have v6 := ((bcell hb3).1 _ _ hzr).trans t6
        have vf : ∀ q, w3.frozen? ⟨w.heap.size + 1, q, none⟩ = false := fun q => ((bcell hb3).2 _ q hzr).trans (tf q)
        have hne : ∀ q ∈ F3, q ≠ w.heap.size + 1 := fun q hq => by have := (hO3.2 q hq).1; omega
        clear hb3 hO3 t0 t1 t2 t3 t4 t5 t6 tf p0 p1 p2 p3 p4 p5 p6 hb hCopy hRno hRnil hRyes hall hkr hcell
        go_wp2
        refine bodyPost_ret (v := .agg #[.int .i64 e.k, .int .i64 e.n, .int .i64 e.v.k, .int .i64 e.v.n, .string e.v.s, .string e.p, .slice a3 e.ks.length n3]) (by simp [results, Try.results16, go_sem, *]) rfl ⟨⟨.slice a3 e.ks.length n3, F3, rfl, hK3.keep (by simp) fun q hq => ?_⟩, ?_⟩
        · iterate 7 rw [Below.heap_setCell _ _ _ _ (hne q hq)]
        · repeat (first | (with_reducible exact hbw3) | (with_reducible refine Below.setCell ?_ ?hh _; case hh => (simp; try omega)))
      · have hpos : 0 < L.length := List.length_pos_iff.2 hne0
        have hla : decide ((L.length : Int) = 0) = false := by simp; omega
        have hlb : ((L.length : Int) == 0) = false := by simp; omega
        have hlc : ¬ (L.length : Int) = 0 := by omega
        have hallL : ∀ x ∈ L, okC s x = true := fun x hx => by
          obtain ⟨j, hj, rfl⟩ := List.mem_iff_getElem.1 hx
          exact hall j L[j] hj (by simp)
        have hry := hRyes hallL hne0
        have hso : ShOk (colsL (D + 1) e) s := fun x hx => okC_iff.1 (hallL x (by rw [← hL.out]; exact hx))
        have hSh := l03Shift_any s (D + 1) e (.slice a e.ks.length c) F wr r he hkr hn hso hry
        clear bc hallL hry hso hne0 q0 q1 q2 q3 q4 q5 q6 r0 r1 r2 r3 r4 r5 r6 rf
        go_wp2_with fail
        refine Calls.mono (hSh) ?_
        rintro y w3 ⟨⟨u3, F3, rfl, hK3, hO3⟩, hb3⟩
        obtain ⟨a3, n3, rfl, _, _⟩ := hK3.shape
        have hz3 := hb3.size
        have hbw3 : Below w.heap.size w w3 := hbw.trans (hb3.mono hbw.size)
        have hzw3 : w.heap.size + 1 < w3.heap.size := by omega
        have hzr : w.heap.size + 1 < wr.heap.size := by omega
        have v0 := ((bcell hb3).1 _ _ hzr).trans t0
        have v1 := ((bcell hb3).1 _ _ hzr).trans t1
        have v2 := ((bcell hb3).1 _ _ hzr).trans t2
        have v3 := ((bcell hb3).1 _ _ hzr).trans t3
        have v4 := ((bcell hb3).1 _ _ hzr).trans t4
        have v5 := ((bcell hb3).1 _ _ hzr).trans t5
        have v6 := ((bcell hb3).1 _ _ hzr).trans t6
        have vf : ∀ q, w3.frozen? ⟨w.heap.size + 1, q, none⟩ = false := fun q => ((bcell hb3).2 _ q hzr).trans (tf q)
        have hne : ∀ q ∈ F3, q ≠ w.heap.size + 1 := fun q hq => by have := (hO3.2 q hq).1; omega
        clear hb3 hO3 t0 t1 t2 t3 t4 t5 t6 tf p0 p1 p2 p3 p4 p5 p6 hb hCopy hRno hRnil hRyes hall hkr hcell
        go_wp2
        refine bodyPost_ret (v := .agg #[.int .i64 r.k, .int .i64 r.n, .int .i64 r.v.k, .int .i64 r.v.n, .string r.v.s, .string r.p, .slice a3 r.ks.length n3]) (by simp [results, Try.results16, go_sem, *]) rfl ⟨⟨.slice a3 r.ks.length n3, F3, rfl, hK3.keep (by simp) fun q hq => ?_⟩, ?_⟩
        · iterate 7 rw [Below.heap_setCell _ _ _ _ (hne q hq)]
        · repeat (first | (with_reducible exact hbw3) | (with_reducible refine Below.setCell ?_ ?hh _; case hh => (simp; try omega)))
end Go.Proofs.Ytpkebpbflfhbnaa
