/- Own text. The contract of impl.Shift. -/
import Derived.Test.YtpkebpbflfhbnaaShT
import Derived.Handy
namespace Go.Proofs.Ytpkebpbflfhbnaa
open Go.RowKit Go.Deep Go.ChangeShapes Go.WideShapes
set_option linter.unusedVariables false
theorem foldl_same {α β : Type} {f g : β → α → β} : ∀ (l : List α) (b : β), (∀ x ∈ l, ∀ b, f b x = g b x) → l.foldl f b = l.foldl g b
  | [], b, _ => rfl
  | x :: l, b, h => by
    rw [List.foldl_cons, List.foldl_cons, h x List.mem_cons_self]
    exact foldl_same l _ fun y hy => h y (List.mem_cons_of_mem _ hy)
theorem cols_up : ∀ {d d' : Nat} {e : E7}, DE d e.ks → d ≤ d' → colsL d' e = colsL d e
  | 0, _, e, h, _ => h.elim
  | d + 1, 0, e, _, hd => absurd hd (by omega)
  | d + 1, d' + 1, e, h, hd => by
    rw [colsL, colsL]
    exact foldl_same e.ks _ fun k hk acc => by rw [cols_up (h k hk) (by omega)]
theorem cols_eq {d d' : Nat} {e : E7} (h : DE d e.ks) (h' : DE d' e.ks) : colsL d e = colsL d' e := by
  rcases Nat.le_total d d' with hl | hl
  · exact (cols_up h hl).symm
  · exact cols_up h' hl
set_option maxHeartbeats 1000000 in
theorem colOk_v (n : Int) (t : Bool) (ht : colB n = t) (w : World) :
    Calls Try.prog 38 #[.int .i64 n] w fun e w' => e = .returned (.bool t) ∧ w = w' := by
  subst ht
  by_cases h1 : 0 ≤ n
  · go_enter Try.func38, Try.ntmps38
    go_wp2
    go_returns
    exact ⟨ret_bool (by simp [colB, h1]), rfl⟩
  · go_enter Try.func38, Try.ntmps38
    go_wp2
    go_returns
    exact ⟨ret_bool (by simp [colB]; omega), rfl⟩
theorem IntsF.cell {w : World} {v : Value} {ns : List Int} {g : List Nat} (h : IntsF w v ns g) : ∃ a c b o, v = .slice a ns.length c ∧ ns.length ≤ c ∧ c ≤ maxLen ∧ ∀ k, k < ns.length → a = some ⟨b, o, none⟩ ∧ b < w.heap.size ∧ ∀ i n, ns[i]? = some n → w.cell? ⟨b, o + i, none⟩ = some (.int .i64 n) := by
  obtain ⟨a, c, rfl, hl, hc, _, h⟩ := h
  by_cases hne : ns = []
  · exact ⟨a, c, 0, 0, rfl, hl, hc, fun k hk => by rw [hne] at hk; simp at hk⟩
  · obtain ⟨b, o, ha, hlt, _, hcell⟩ := h hne
    exact ⟨a, c, b, o, rfl, hl, hc, fun _ _ => ⟨ha, hlt, hcell⟩⟩
theorem bcellN {N : Nat} {w w' : World} (h : Below N w w') : (∀ b q, b < N → w'.cell? ⟨b, q, none⟩ = w.cell? ⟨b, q, none⟩) ∧ True := ⟨fun b q hb => cell_blk (h.block b hb), trivial⟩
/-- the numbers of the first k nodes' columns are s more; all else is as it was. -/
structure ShCells (s : Int) (N : Nat) (w2 wr : World) (ns : List Nd) (k : Nat) : Prop where
  same : ∀ b q, (∀ (j : Nat) (x : Nd), j < k → ns[j]? = some x → x.e.k = 0 → ¬ (b = x.b ∧ q = x.o + 1)) → wr.cell? ⟨b, q, none⟩ = w2.cell? ⟨b, q, none⟩
  more : ∀ (j : Nat) (x : Nd), j < k → ns[j]? = some x → x.e.k = 0 → wr.cell? ⟨x.b, x.o + 1, none⟩ = some (.int .i64 (x.e.n + s))
  frz : ∀ b q, wr.frozen? ⟨b, q, none⟩ = w2.frozen? ⟨b, q, none⟩
  size : wr.heap.size = w2.heap.size
  bel : Below N w2 wr
theorem ShCells.put {s : Int} {N : Nat} {w w2 wr : World} {D : Nat} {hang : Nat → Nat × Nat} {P : E7 → Prop} {ns : List Nd} {k : Nat} {x : Nd} (h : ShCells s N w2 wr ns k) (hQ : NQ w D hang P w2 ns.length ns) (hN : N = w.heap.size) (hx : ns[k]? = some x) (h0 : x.e.k = 0) : ShCells s N w2 (wr.setCell ⟨x.b, x.o + 1, none⟩ (.int .i64 (x.e.n + s))) ns (k + 1) := by
  have hold : wr.cell? ⟨x.b, x.o + 1, none⟩ = w2.cell? ⟨x.b, x.o + 1, none⟩ := h.same _ _ fun j y hj hy _ hc => by
    have := hQ.dist k j x y hx hy hc.1 (by omega)
    omega
  have hn := (hQ.at' k x hx).2.1.2.1
  refine ⟨fun b q hq => ?_, fun j y hj hy hy0 => ?_, fun b q => by simpa using h.frz b q, by simpa using h.size, h.bel.setCell (by show N ≤ x.b; rw [hN]; exact (hQ.at' k x hx).1.2.2.1) _⟩
  · have hne := hq k x (by omega) hx h0
    rw [World.cell?_setCell_other _ _ _ _ (by
      intro e
      have e1 := congrArg Addr.block e
      have e2 := congrArg Addr.off e
      exact hne ⟨e1.symm, e2.symm⟩)]
    exact h.same b q fun j y hj hy hy0 => hq j y (by omega) hy hy0
  · by_cases ej : j = k
    · subst ej
      obtain rfl : y = x := by rw [hx] at hy; exact (Option.some.inj hy).symm
      exact World.cell?_setCell_same _ _ _ (hold.trans hn)
    · rw [World.cell?_setCell_other _ _ _ _ (by
        intro e
        have e1 := congrArg Addr.block e
        have e2 := congrArg Addr.off e
        simp only at e1 e2
        have := hQ.dist k j x y hx hy e1 (by omega)
        omega)]
      exact h.more j y (by omega) hy hy0
theorem ShCells.skip {s : Int} {N : Nat} {w2 wr : World} {ns : List Nd} {k : Nat} {x : Nd} (h : ShCells s N w2 wr ns k) (hx : ns[k]? = some x) (h0 : x.e.k ≠ 0) : ShCells s N w2 wr ns (k + 1) := by
  refine ⟨fun b q hq => h.same b q fun j y hj hy hy0 => hq j y (by omega) hy hy0, fun j y hj hy hy0 => ?_, h.frz, h.size, h.bel⟩
  by_cases ej : j = k
  · subst ej
    obtain rfl : y = x := by rw [hx] at hy; exact (Option.some.inj hy).symm
    exact absurd hy0 h0
  · exact h.more j y (by omega) hy hy0
theorem ShCells.at {s : Int} {N : Nat} {w w2 wr : World} {D : Nat} {hang : Nat → Nat × Nat} {P : E7 → Prop} {ns : List Nd} {k : Nat} (h : ShCells s N w2 wr ns k) (hQ : NQ w D hang P w2 ns.length ns) {j : Nat} {x : Nd} (hx : ns[j]? = some x) (q : Nat) (hq : q < 7) (hn : q ≠ 1 ∨ k ≤ j) : wr.cell? ⟨x.b, x.o + q, none⟩ = w2.cell? ⟨x.b, x.o + q, none⟩ :=
  h.same _ _ fun i y hi hy _ hc => by
    have h1 := (hQ.at' j x hx).1.2.2.2.2.2
    have h2 := (hQ.at' i y hy).1.2.2.2.2.2
    rcases hn with hn | hn
    · omega
    · by_cases hq1 : q = 1
      · have := hQ.dist j i x y hx hy hc.1 (by omega)
        omega
      · omega
set_option maxHeartbeats 4000000 in
set_option maxRecDepth 100000 in
theorem implShift_any (D : Nat) (s : Int) (hs1 : -9223372036854775808 ≤ s) (hs2 : s ≤ 9223372036854775807) (e : E7) (u : Value) (F : List Nat) (w : World) (he : e.wf) (hk : KidsIs w (D + 1) u e.ks F) (hd : F.Nodup ∧ ∀ b ∈ F, Fr w b) (hn : wtE e ≤ 1048576) (r : E7) (hR : Hid (ansSh (D + 1) s e = r)) :
    Calls Try.prog 17 #[(.agg #[.int .i64 e.k, .int .i64 e.n, .int .i64 e.v.k, .int .i64 e.v.n, .string e.v.s, .string e.p, u]), .int .i64 s] w fun x w' => (∃ u' F', x = .returned (.agg #[.int .i64 r.k, .int .i64 r.n, .int .i64 r.v.k, .int .i64 r.v.n, .string r.v.s, .string r.p, u']) ∧ KidsIs w' (D + 1) u' r.ks F' ∧ Own w' w.heap.size F') ∧ Below w.heap.size w w' := by
  obtain ⟨a, c, rfl, hl, hc⟩ := hk.shape
  have hde := hk.re.de
  have hFl := hk.lt
  obtain ⟨L, hL⟩ : ∃ L, Hid (colsL (D + 1) e = L) := ⟨_, rfl⟩
  go_enter Try.func17, Try.ntmps17
  go_wp2_with fail
  refine Calls.mono (implCols_any D e (.slice a e.ks.length c) F _ he (hk.below ?hb) ⟨hd.1, fun q hq => (hd.2 q hq).keep (Below.block ?hbc q (hk.lt q hq))⟩ hn) ?_
  case hb => repeat (first | (with_reducible exact Below.refl _ _) | (with_reducible refine Below.drew ?_) | (with_reducible refine Below.alloc ?_ ?hh _; case hh => first | (simp; done) | (simp; omega) | omega) | (with_reducible refine Below.setCell ?_ ?hh _; case hh => first | (simp; done) | (simp; omega) | omega) | refine bstep (by assumption) (by first | (simp; done) | (simp; omega) | omega) ?_)
  case hbc => repeat (first | (with_reducible exact Below.refl _ _) | (with_reducible refine Below.drew ?_) | (with_reducible refine Below.alloc ?_ ?hh _; case hh => first | (simp; done) | (simp; omega) | omega) | (with_reducible refine Below.setCell ?_ ?hh _; case hh => first | (simp; done) | (simp; omega) | omega) | refine bstep (by assumption) (by first | (simp; done) | (simp; omega) | omega) ?_)
  rintro y w1 ⟨⟨v1, gi, rfl, hI, _⟩, hb1⟩
  rw [hL.out] at hI
  obtain ⟨ai, ci, b, o, rfl, hil, hic, hcell⟩ := hI.cell
  unfold maxLen at hic
  have hz1 := hb1.size
  simp only [World.size_alloc] at hz1
  have hLl : L.length ≤ 1048577 := by have := colsL_len (D + 1) e; rw [hL.out] at this; omega
  have q0 : w1.cell? ⟨w.heap.size, 0, none⟩ = some (.int .i64 e.k) := cell_later hb1 (by go_simp)
  have q1 : w1.cell? ⟨w.heap.size, 1, none⟩ = some (.int .i64 e.n) := cell_later hb1 (by go_simp)
  have q2 : w1.cell? ⟨w.heap.size, 2, none⟩ = some (.int .i64 e.v.k) := cell_later hb1 (by go_simp)
  have q3 : w1.cell? ⟨w.heap.size, 3, none⟩ = some (.int .i64 e.v.n) := cell_later hb1 (by go_simp)
  have q4 : w1.cell? ⟨w.heap.size, 4, none⟩ = some (.string e.v.s) := cell_later hb1 (by go_simp)
  have q5 : w1.cell? ⟨w.heap.size, 5, none⟩ = some (.string e.p) := cell_later hb1 (by go_simp)
  have q6 : w1.cell? ⟨w.heap.size, 6, none⟩ = some (.slice a e.ks.length c) := cell_later hb1 (by go_simp)
  have r0 : w1.cell? ⟨w.heap.size + 1, 0, none⟩ = some (.int .i64 0) := cell_later hb1 (by go_simp)
  have r1 : w1.cell? ⟨w.heap.size + 1, 1, none⟩ = some (.int .i64 0) := cell_later hb1 (by go_simp)
  have r2 : w1.cell? ⟨w.heap.size + 1, 2, none⟩ = some (.int .i64 0) := cell_later hb1 (by go_simp)
  have r3 : w1.cell? ⟨w.heap.size + 1, 3, none⟩ = some (.int .i64 0) := cell_later hb1 (by go_simp)
  have r4 : w1.cell? ⟨w.heap.size + 1, 4, none⟩ = some (.string ⟨#[]⟩) := cell_later hb1 (by go_simp)
  have r5 : w1.cell? ⟨w.heap.size + 1, 5, none⟩ = some (.string ⟨#[]⟩) := cell_later hb1 (by go_simp)
  have r6 : w1.cell? ⟨w.heap.size + 1, 6, none⟩ = some (.slice none 0 0) := cell_later hb1 (by go_simp)
  have rf : ∀ q, w1.frozen? ⟨w.heap.size + 1, q, none⟩ = false := fun q => ((bcell hb1).2 _ q (by simp)).trans (by go_simp)
  have bel1 : Below w.heap.size w w1 := by repeat (first | (with_reducible exact Below.refl _ _) | (with_reducible refine Below.drew ?_) | (with_reducible refine Below.alloc ?_ ?hh _; case hh => first | (simp; done) | (simp; omega) | omega) | (with_reducible refine Below.setCell ?_ ?hh _; case hh => first | (simp; done) | (simp; omega) | omega) | refine bstep (by assumption) (by first | (simp; done) | (simp; omega) | omega) ?_)
  have hk1 : KidsIs w1 (D + 1) (.slice a e.ks.length c) e.ks F := hk.below bel1
  have hzl : w.heap.size < w1.heap.size := by omega
  have hzl1 : w.heap.size + 1 < w1.heap.size := by omega
  have hRno : ∀ x ∈ L, okC s x = false → e = r := fun x hx h => by rw [← hR.out, ansSh_no (by rw [hL.out]; exact hx) h]
  have hRnil : L = [] → e = r := fun h => by rw [← hR.out, ansSh_nil (by rw [hL.out]; exact h)]
  have hRyes : (∀ x ∈ L, okC s x = true) → L ≠ [] → shE (D + 1) s e = r := fun h h2 => by rw [← hR.out, ansSh_yes (by rw [hL.out]; exact h) (by rw [hL.out]; exact h2)]
  clear hb1 hk hR hI
  go_wp2
  go_loopw [13] (fun i wr => ∃ k : Nat, k ≤ L.length ∧ i = .int .i64 k ∧ (∀ j x, j < k → L[j]? = some x → okC s x = true) ∧ Below w1.heap.size w1 wr) (fun i _ => L.length - (intOf i).toNat)
  case atStart => exact ⟨0, Nat.zero_le _, rfl, fun j x hj => by omega, Below.refl _ _⟩
  case round =>
    obtain ⟨k, hkl, rfl, hall, hb⟩ := hrel
    have hzb := hb.size
    have p0 := ((bcell hb).1 _ _ hzl).trans q0
    have p1 := ((bcell hb).1 _ _ hzl).trans q1
    have p2 := ((bcell hb).1 _ _ hzl).trans q2
    have p3 := ((bcell hb).1 _ _ hzl).trans q3
    have p4 := ((bcell hb).1 _ _ hzl).trans q4
    have p5 := ((bcell hb).1 _ _ hzl).trans q5
    have p6 := ((bcell hb).1 _ _ hzl).trans q6
    have t0 := ((bcell hb).1 _ _ hzl1).trans r0
    have t1 := ((bcell hb).1 _ _ hzl1).trans r1
    have t2 := ((bcell hb).1 _ _ hzl1).trans r2
    have t3 := ((bcell hb).1 _ _ hzl1).trans r3
    have t4 := ((bcell hb).1 _ _ hzl1).trans r4
    have t5 := ((bcell hb).1 _ _ hzl1).trans r5
    have t6 := ((bcell hb).1 _ _ hzl1).trans r6
    have tf : ∀ q, wr.frozen? ⟨w.heap.size + 1, q, none⟩ = false := fun q => ((bcell hb).2 _ q hzl1).trans (rf q)
    have hkr := hk1.below hb
    have hbw : Below w.heap.size w wr := bel1.trans (hb.mono (by omega))
    have hCopy := fun W (hW : Below wr.heap.size wr W) => copyExp_any D e (.slice a e.ks.length c) F W he (hkr.below hW) (.inl ⟨hd.1, fun q hq => (hd.2 q hq).keep ((hbw.trans (hW.mono hbw.size)).block q (hFl q hq))⟩) (by omega)
    by_cases hlt : k < L.length
    · obtain ⟨x, hx⟩ : ∃ x, L[k]? = some x := ⟨L[k], by simp [hlt]⟩
      obtain ⟨rfl, hblt, hcl⟩ := hcell k hlt
      have cx := ((bcell hb).1 _ _ hblt).trans (hcl k x hx)
      have hxm := List.mem_of_getElem? hx
      by_cases hok : okC s x = true
      · have hall2 : Hid (∀ j y, j < k + 1 → L[j]? = some y → okC s y = true) := fun j y hj hy => by
          by_cases ej : j = k
          · subst ej; rw [hx] at hy; cases hy; exact hok
          · exact hall j y (by omega) hy
        obtain ⟨o1, o2, o3, o4⟩ := okC_iff.1 hok
        have h2 : colB x = true := by simp [colB]; omega
        have h3 : colB (x + s) = true := by simp [colB]; omega
        have h4 : colB (wrap64 (x + s)) = true := by simp [colB, wrap64]; omega
        clear hall hok hRno hRnil hRyes hcell hcl hx hCopy q0 q1 q2 q3 q4 q5 q6 r0 r1 r2 r3 r4 r5 r6 rf hkr
        go_wp2_with (first | (go_at_call 38; (first | with_reducible refine (colOk_v x _ h2 _).mono ?_ | with_reducible refine (colOk_v (x + s) _ h3 _).mono ?_ | with_reducible refine (colOk_v (wrap64 (x + s)) _ h4 _).mono ?_ ); rintro e' w' ⟨rfl, hw'⟩; subst hw') | fail)
        exact ⟨⟨k + 1, hlt, by simp, hall2.out, hb⟩, by simp [intOf]; omega⟩
      · have hok' : okC s x = false := by simpa using hok
        obtain rfl := hRno x hxm hok'
        have hcase : colB x = false ∨ (colB x = true ∧ colB (wrap64 (x + s)) = false) := by
          have h1 : ¬ (0 ≤ x ∧ x ≤ 11 ∧ 0 ≤ x + s ∧ x + s ≤ 11) := fun h => hok (okC_iff.2 h)
          cases h2 : colB x
          · exact .inl rfl
          · right
            refine ⟨rfl, ?_⟩
            simp [colB] at h2
            have : ¬ (0 ≤ wrap64 (x + s) ∧ wrap64 (x + s) < 12) := by unfold wrap64; omega
            simp [colB]
            omega
        clear hok hok' hx hxm hcell hcl hall q0 q1 q2 q3 q4 q5 q6 r0 r1 r2 r3 r4 r5 r6 rf
        rcases hcase with h2 | ⟨h2, h4⟩
        · go_wp2_with (first | (go_at_call 38; (first | with_reducible refine (colOk_v x _ h2 _).mono ?_ ); rintro e' w' ⟨rfl, hw'⟩; subst hw') | fail)
          refine Calls.mono (hCopy _ (Below.refl _ _)) ?_
          rintro y w3 ⟨⟨u3, F3, rfl, hK3, hO3⟩, hb3⟩
          obtain ⟨a3, n3, rfl, _, _⟩ := hK3.shape
          have hz3 := hb3.size
          have hbw3 : Below w.heap.size w w3 := hbw.trans (hb3.mono hbw.size)
          have hzw3 : w.heap.size + 1 < w3.heap.size := by omega
          have hzr : w.heap.size + 1 < wr.heap.size := by omega
          have v0 := ((bcell hb3).1 _ _ hzr).trans t0
          have v1 := ((bcell hb3).1 _ _ hzr).trans t1
          have v2 := ((bcell hb3).1 _ _ hzr).trans t2
          have v3 := ((bcell hb3).1 _ _ hzr).trans t3
          have v4 := ((bcell hb3).1 _ _ hzr).trans t4
          have v5 := ((bcell hb3).1 _ _ hzr).trans t5
          have v6 := ((bcell hb3).1 _ _ hzr).trans t6
          have vf : ∀ q, w3.frozen? ⟨w.heap.size + 1, q, none⟩ = false := fun q => ((bcell hb3).2 _ q hzr).trans (tf q)
          have hne : ∀ q ∈ F3, q ≠ w.heap.size + 1 := fun q hq => by have := (hO3.2 q hq).1; omega
          have hOE : Own w3 w.heap.size F3 := ⟨hO3.1, fun q hq => ⟨by have := (hO3.2 q hq).1; omega, (hO3.2 q hq).2⟩⟩
          clear hb3 hO3 t0 t1 t2 t3 t4 t5 t6 tf p0 p1 p2 p3 p4 p5 p6 hb hCopy hRno hRnil hRyes hkr
          go_wp2
          refine bodyPost_ret (v := .agg #[.int .i64 e.k, .int .i64 e.n, .int .i64 e.v.k, .int .i64 e.v.n, .string e.v.s, .string e.p, .slice a3 e.ks.length n3]) (by simp [results, Try.results17, go_sem, *]) rfl ⟨⟨.slice a3 e.ks.length n3, F3, rfl, hK3.keep (by simp) fun q hq => ?_, hOE.keep fun q hq => ?_⟩, ?_⟩
          · iterate 7 rw [Below.heap_setCell _ _ _ _ (hne q hq)]
          · iterate 7 rw [Below.heap_setCell _ _ _ _ (hne q hq)]
          · repeat (first | (with_reducible exact hbw3) | (with_reducible refine Below.setCell ?_ ?hh _; case hh => (simp; try omega)))
        · have h3 : colB (x + s) = colB (x + s) := rfl
          clear h3
          go_wp2_with (first | (go_at_call 38; (first | with_reducible refine (colOk_v x _ h2 _).mono ?_ | with_reducible refine (colOk_v (wrap64 (x + s)) _ h4 _).mono ?_ ); rintro e' w' ⟨rfl, hw'⟩; subst hw') | fail)
          refine Calls.mono (hCopy _ (Below.refl _ _)) ?_
          rintro y w3 ⟨⟨u3, F3, rfl, hK3, hO3⟩, hb3⟩
          obtain ⟨a3, n3, rfl, _, _⟩ := hK3.shape
          have hz3 := hb3.size
          have hbw3 : Below w.heap.size w w3 := hbw.trans (hb3.mono hbw.size)
          have hzw3 : w.heap.size + 1 < w3.heap.size := by omega
          have hzr : w.heap.size + 1 < wr.heap.size := by omega
          have v0 := ((bcell hb3).1 _ _ hzr).trans t0
          have v1 := ((bcell hb3).1 _ _ hzr).trans t1
          have v2 := ((bcell hb3).1 _ _ hzr).trans t2
          have v3 := ((bcell hb3).1 _ _ hzr).trans t3
          have v4 := ((bcell hb3).1 _ _ hzr).trans t4
          have v5 := ((bcell hb3).1 _ _ hzr).trans t5
          have v6 := ((bcell hb3).1 _ _ hzr).trans t6
          have vf : ∀ q, w3.frozen? ⟨w.heap.size + 1, q, none⟩ = false := fun q => ((bcell hb3).2 _ q hzr).trans (tf q)
          have hne : ∀ q ∈ F3, q ≠ w.heap.size + 1 := fun q hq => by have := (hO3.2 q hq).1; omega
          have hOE : Own w3 w.heap.size F3 := ⟨hO3.1, fun q hq => ⟨by have := (hO3.2 q hq).1; omega, (hO3.2 q hq).2⟩⟩
          clear hb3 hO3 t0 t1 t2 t3 t4 t5 t6 tf p0 p1 p2 p3 p4 p5 p6 hb hCopy hRno hRnil hRyes hkr
          go_wp2
          refine bodyPost_ret (v := .agg #[.int .i64 e.k, .int .i64 e.n, .int .i64 e.v.k, .int .i64 e.v.n, .string e.v.s, .string e.p, .slice a3 e.ks.length n3]) (by simp [results, Try.results17, go_sem, *]) rfl ⟨⟨.slice a3 e.ks.length n3, F3, rfl, hK3.keep (by simp) fun q hq => ?_, hOE.keep fun q hq => ?_⟩, ?_⟩
          · iterate 7 rw [Below.heap_setCell _ _ _ _ (hne q hq)]
          · iterate 7 rw [Below.heap_setCell _ _ _ _ (hne q hq)]
          · repeat (first | (with_reducible exact hbw3) | (with_reducible refine Below.setCell ?_ ?hh _; case hh => (simp; try omega)))
    · obtain rfl : k = L.length := by omega
      have hallL : ∀ x ∈ L, okC s x = true := fun x hx => by
        obtain ⟨j, hj, rfl⟩ := List.mem_iff_getElem.1 hx
        exact hall j L[j] hj (by simp)
      have hN0 : 0 < wr.heap.size := by omega
      have hzr : w.heap.size + 1 < wr.heap.size := by omega
      have hCN := copyNodes_any D (ColIn (colsL (D + 1) e)) colIn_kid e (.slice a e.ks.length c) F wr he ⟨D + 1, hde, fun x h => h⟩ hkr (.inl ⟨hd.1, fun q hq => (hd.2 q hq).keep (hbw.block q (hFl q hq))⟩) (by omega)
      have hRn := hRnil
      have hRy := hRyes hallL
      clear hall hcell hRno hRnil hRyes hCopy q0 q1 q2 q3 q4 q5 q6 r0 r1 r2 r3 r4 r5 r6 rf hkr
      go_wp2_with fail
      refine Calls.mono hCN ?_
      rintro y w2 ⟨⟨v2, wo, rfl, hwo0, ns, hang, hown, h0, hQ, hdis, hlen⟩, hb2⟩
      replace hN0 : 0 < wo.heap.size := by omega
      have hzo : w.heap.size + 1 < wo.heap.size := by omega
      obtain ⟨g, cap, rfl, _, hn0, hcap, hcm, hgl, hgN, _⟩ := pts_read hown h0
      have hptr : ∀ k x, ns[k]? = some x → w2.cell? ⟨g, k, none⟩ = some (.pointer (some ⟨x.b, x.o, none⟩)) := by
        intro k x hx
        obtain ⟨g', cap', hv', _, _, _, _, _, _, hp⟩ := pts_read hown hx
        injection hv' with e1
        injection e1 with e1
        injection e1 with e1
        subst e1
        exact hp
      have hng : ∀ (j : Nat) (x : Nd), ns[j]? = some x → x.b ≠ g := fun j x hx h => hdis j x hx (by rw [h]; rfl)
      have hz2 := hb2.size
      have hbw2 : Below w.heap.size w w2 := hbw.trans (hb2.mono hbw.size)
      have hzr2 : w.heap.size + 1 < w2.heap.size := by omega
      have v0 := ((bcell hb2).1 _ _ hzr).trans t0
      have v1 := ((bcell hb2).1 _ _ hzr).trans t1
      have v2 := ((bcell hb2).1 _ _ hzr).trans t2
      have v3 := ((bcell hb2).1 _ _ hzr).trans t3
      have v4 := ((bcell hb2).1 _ _ hzr).trans t4
      have v5 := ((bcell hb2).1 _ _ hzr).trans t5
      have v6 := ((bcell hb2).1 _ _ hzr).trans t6
      have vf : ∀ q, w2.frozen? ⟨w.heap.size + 1, q, none⟩ = false := fun q => ((bcell hb2).2 _ q hzr).trans (tf q)
      unfold maxLen at hcm
      have hcol : ∀ (j : Nat) (x : Nd), ns[j]? = some x → x.e.k = 0 → x.e.n ∈ L := fun j x hx hx0 => by
        obtain ⟨⟨_, ⟨d', hd', hin⟩, _⟩, _⟩ := hQ.at' j x hx
        cases d' with
        | zero => exact hd'.elim
        | succ d' =>
          have := hin _ (mem_colsL.2 (.inl ⟨hx0, rfl⟩))
          rw [hL.out] at this
          exact this
      obtain ⟨_, ⟨n0, n1, n2, n3', n4, n5⟩, uu, n6, _, _⟩ := hQ.at' 0 _ h0
      dsimp only at n0 n1 n2 n3' n4 n5 n6
      clear hb2 t0 t1 t2 t3 t4 t5 t6 tf p0 p1 p2 p3 p4 p5 p6 hown hdis hCN hb
      by_cases hne0 : L = []
      · obtain rfl := hRn hne0
        have hno : ∀ (j : Nat) (x : Nd), ns[j]? = some x → x.e.k ≠ 0 := fun j x hx hx0 => by have := hcol j x hx hx0; rw [hne0] at this; cases this
        obtain ⟨F', hK', hO', _⟩ := RE.own hN0 hQ h0 hde n6
        obtain ⟨a3, n3, rfl, _, _⟩ := hK'.shape
        have hQat := hQ.at'
        have hne : ∀ q ∈ F', q ≠ w.heap.size + 1 := fun q hq => by have := (hO'.2 q hq).1; omega
        have hOE : Own w2 w.heap.size F' := ⟨hO'.1, fun q hq => ⟨by have := (hO'.2 q hq).1; omega, (hO'.2 q hq).2⟩⟩
        have hp0 := hptr 0 _ h0
        clear hQ hRn hRy hcol hallL hO'
        go_wp2
        go_loopw [34] (fun i wr' => ∃ k : Nat, k ≤ ns.length ∧ i = .int .i64 k ∧ wr' = w2) (fun i _ => ns.length - (intOf i).toNat)
        case atStart => exact ⟨0, Nat.zero_le _, rfl, rfl⟩
        case round =>
          obtain ⟨k, hkl2, rfl, hwr⟩ := hrel
          replace hwr := hwr.symm
          subst hwr
          by_cases hlt2 : k < ns.length
          · obtain ⟨x, hx⟩ : ∃ x, ns[k]? = some x := ⟨ns[k], by simp [hlt2]⟩
            obtain ⟨⟨_, _, _, xl, _, _⟩, ⟨c0, _, _, _, _, _⟩, _⟩ := hQat k x hx
            have pk := hptr k x hx
            have hkb : (x.e.k == 0) = false := by have := hno k x hx; simpa using this
            have hkd : decide (x.e.k = 0) = false := by have := hno k x hx; simpa using this
            clear hptr hQat hx hno n0 n1 n2 n3' n4 n5 n6 hp0 v0 v1 v2 v3 v4 v5 v6 vf
            go_wp2
            exact ⟨⟨k + 1, hlt2, by simp, by first | rfl | trivial⟩, by simp [intOf]; omega⟩
          · obtain rfl : k = ns.length := by omega
            clear hptr hQat hno
            go_wp2
            refine bodyPost_ret (v := .agg #[.int .i64 e.k, .int .i64 e.n, .int .i64 e.v.k, .int .i64 e.v.n, .string e.v.s, .string e.p, .slice a3 e.ks.length n3]) (by simp [results, Try.results17, go_sem, *]) rfl ⟨⟨.slice a3 e.ks.length n3, F', rfl, hK'.keep (by simp) fun q hq => ?_, hOE.keep fun q hq => ?_⟩, ?_⟩
            · iterate 7 rw [Below.heap_setCell _ _ _ _ (hne q hq)]
            · iterate 7 rw [Below.heap_setCell _ _ _ _ (hne q hq)]
            · repeat (first | (with_reducible exact hbw2) | (with_reducible refine Below.setCell ?_ ?hh _; case hh => (simp; try omega)))
      · have hre := hRy hne0
        obtain ⟨m', hn'⟩ : ∃ m', Hid (m' = if e.k = 0 then e.n + s else e.n) := ⟨_, rfl⟩
        have hsz : ns.length ≤ 2097153 := hlen
        clear hRn hRy hne0
        go_wp2
        go_loopw [34] (fun i wr' => ∃ k : Nat, k ≤ ns.length ∧ i = .int .i64 k ∧ ShCells s wo.heap.size w2 wr' ns k) (fun i _ => ns.length - (intOf i).toNat)
        case atStart => exact ⟨0, Nat.zero_le _, rfl, ⟨fun b q _ => rfl, fun j x hj => by omega, fun b q => rfl, rfl, Below.refl _ _⟩⟩
        case round =>
          obtain ⟨k, hkl2, rfl, hSC⟩ := hrel
          by_cases hlt2 : k < ns.length
          · obtain ⟨x, hx⟩ : ∃ x, ns[k]? = some x := ⟨ns[k], by simp [hlt2]⟩
            obtain ⟨⟨_, _, _, xl, xf, _⟩, ⟨c0, c1, _, _, _, _⟩, _⟩ := hQ.at' k x hx
            have pk := (hSC.same g k fun j y hj hy _ hc => hng j y hy hc.1.symm).trans (hptr k x hx)
            have d0 : wr.cell? ⟨x.b, x.o, none⟩ = some (.int .i64 x.e.k) := (hSC.at hQ hx 0 (by omega) (.inl (by omega))).trans c0
            have d1 : wr.cell? ⟨x.b, x.o + 1, none⟩ = some (.int .i64 x.e.n) := (hSC.at hQ hx 1 (by omega) (.inr (Nat.le_refl _))).trans c1
            have df : ∀ q, wr.frozen? ⟨x.b, q, none⟩ = false := fun q => (hSC.frz _ q).trans (xf q)
            by_cases hx0 : x.e.k = 0
            · obtain ⟨o1, o2, o3, o4⟩ := okC_iff.1 (hallL _ (hcol k x hx hx0))
              have HP : Hid (ShCells s wo.heap.size w2 (wr.setCell ⟨x.b, x.o + 1, none⟩ (.int .i64 (x.e.n + s))) ns (k + 1)) := hSC.put hQ rfl hx hx0
              have hkb : (x.e.k == 0) = true := by simpa using hx0
              have hkd : decide (x.e.k = 0) = true := by simpa using hx0
              clear hSC hQ hptr hcol hallL hx hx0 c0 c1 n0 n1 n2 n3' n4 n5 n6 v0 v1 v2 v3 v4 v5 v6 vf hng xf
              go_wp2
              exact ⟨⟨k + 1, hlt2, by simp, HP.out⟩, by simp [intOf]; omega⟩
            · have HP : Hid (ShCells s wo.heap.size w2 wr ns (k + 1)) := hSC.skip hx hx0
              have hkb : (x.e.k == 0) = false := by simpa using hx0
              have hkd : decide (x.e.k = 0) = false := by simpa using hx0
              clear hSC hQ hptr hcol hallL hx hx0 c0 c1 n0 n1 n2 n3' n4 n5 n6 v0 v1 v2 v3 v4 v5 v6 vf hng xf d1 df
              go_wp2
              exact ⟨⟨k + 1, hlt2, by simp, HP.out⟩, by simp [intOf]; omega⟩
          · obtain rfl : k = ns.length := by omega
            have hp0 := (hSC.same g 0 fun j y hj hy _ hc => hng j y hy hc.1.symm).trans (hptr 0 _ h0)
            have hcellS : ∀ (j : Nat) (x : Nd), ns[j]? = some x → wr.cell? ⟨x.b, x.o, none⟩ = some (.int .i64 x.e.k) ∧ wr.cell? ⟨x.b, x.o + 1, none⟩ = some (.int .i64 (if x.e.k = 0 then x.e.n + s else x.e.n)) ∧ (∀ q, 2 ≤ q → q < 7 → wr.cell? ⟨x.b, x.o + q, none⟩ = w2.cell? ⟨x.b, x.o + q, none⟩) ∧ ∀ q, wr.frozen? ⟨x.b, q, none⟩ = w2.frozen? ⟨x.b, q, none⟩ := by
              intro j x hx
              have hj : j < ns.length := (List.getElem?_eq_some_iff.1 hx).1
              obtain ⟨_, ⟨c0, c1, _, _, _, _⟩, _⟩ := hQ.at' j x hx
              refine ⟨(hSC.at hQ hx 0 (by omega) (.inl (by omega))).trans c0, ?_, fun q h2 h7 => hSC.at hQ hx q h7 (.inl (by omega)), fun q => hSC.frz _ q⟩
              by_cases hx0 : x.e.k = 0
              · rw [if_pos hx0]; exact hSC.more j x hj hx hx0
              · rw [if_neg hx0]
                refine (hSC.same _ _ fun i y hi hy hy0 hc => ?_).trans c1
                have := hQ.dist j i x y hx hy hc.1 (by omega)
                subst this
                rw [hx] at hy
                cases hy
                exact hx0 hy0
            have hokS : ∀ (j : Nat) (x : Nd) (d : Nat), ns[j]? = some x → DE d x.e.ks → ShOk (colsL d x.e) s := by
              intro j x d hx hd z hz
              obtain ⟨⟨_, ⟨d', hd', hin⟩, _⟩, _⟩ := hQ.at' j x hx
              rw [cols_eq hd hd'] at hz
              have := hin z hz
              rw [hL.out] at this
              exact okC_iff.1 (hallL z this)
            obtain ⟨F', hK', hO', _⟩ := KidsU.kids hQ.dn hN0 (hQ.shift (Nat.le_of_eq hSC.size.symm) hcellS hokS h0 hde n6)
            obtain ⟨f0, f1, fq, _⟩ := hcellS 0 _ h0
            dsimp only at f0 f1 fq hK' hO'
            rw [← hn'.out] at f1
            have f2 := (fq 2 (by omega) (by omega)).trans n2
            have f3 := (fq 3 (by omega) (by omega)).trans n3'
            have f4 := (fq 4 (by omega) (by omega)).trans n4
            have f5 := (fq 5 (by omega) (by omega)).trans n5
            have f6 := (fq 6 (by omega) (by omega)).trans n6
            obtain ⟨a3, n3, rfl, _, _⟩ := hK'.shape
            simp only [Nat.zero_add] at f0 f1 f2 f3 f4 f5 f6
            have hbR := hSC.bel
            have g0 := ((bcellN hbR).1 (w.heap.size + 1) 0 (by omega)).trans v0
            have g1 := ((bcellN hbR).1 (w.heap.size + 1) 1 (by omega)).trans v1
            have g2 := ((bcellN hbR).1 (w.heap.size + 1) 2 (by omega)).trans v2
            have g3 := ((bcellN hbR).1 (w.heap.size + 1) 3 (by omega)).trans v3
            have g4 := ((bcellN hbR).1 (w.heap.size + 1) 4 (by omega)).trans v4
            have g5 := ((bcellN hbR).1 (w.heap.size + 1) 5 (by omega)).trans v5
            have g6 := ((bcellN hbR).1 (w.heap.size + 1) 6 (by omega)).trans v6
            have gf : ∀ q, wr.frozen? ⟨w.heap.size + 1, q, none⟩ = false := fun q => (hSC.frz _ q).trans (vf q)
            have hbE : Below w.heap.size w wr := hbw2.trans (hbR.mono (by omega))
            have hne : ∀ q ∈ F', q ≠ w.heap.size + 1 := fun q hq => by have := (hO'.2 q hq).1; omega
            have hOE : Own wr w.heap.size F' := ⟨hO'.1, fun q hq => ⟨by have := (hO'.2 q hq).1; omega, (hO'.2 q hq).2⟩⟩
            have hzW : w.heap.size + 1 < wr.heap.size := by have := hSC.size; omega
            have hzG : g < wr.heap.size := by have := hSC.size; omega
            clear hSC hQ hptr hcol hallL hcellS hokS fq hO' n0 n1 n2 n3' n4 n5 n6 v0 v1 v2 v3 v4 v5 v6 vf hng hbR
            go_wp2
            subst hre
            have hm := hn'.out
            subst hm
            refine bodyPost_ret (v := .agg #[.int .i64 e.k, .int .i64 (if e.k = 0 then e.n + s else e.n), .int .i64 e.v.k, .int .i64 e.v.n, .string e.v.s, .string e.p, .slice a3 (shE (D + 1) s e).ks.length n3]) (by simp [results, Try.results17, go_sem, *]) rfl ⟨⟨.slice a3 (shE (D + 1) s e).ks.length n3, rfl, F', hK'.keep (by simp) fun q hq => ?_, hOE.keep fun q hq => ?_⟩, ?_⟩
            · iterate 7 rw [Below.heap_setCell _ _ _ _ (hne q hq)]
            · iterate 7 rw [Below.heap_setCell _ _ _ _ (hne q hq)]
            · repeat (first | (with_reducible exact hbE) | (with_reducible refine Below.setCell ?_ ?hh _; case hh => (simp; try omega)))
end Go.Proofs.Ytpkebpbflfhbnaa
