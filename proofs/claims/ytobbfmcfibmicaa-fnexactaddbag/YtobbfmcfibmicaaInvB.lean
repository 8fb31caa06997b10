/- Own text. As InvR, with one new variable, and calls whose answers hang on elder answers: what is known of an answer is a relation that stays so. -/
import Derived.Test.YtobbfmcfibmicaaInvA
import Derived.Test.YtobbfmcfibmicaaOwnF
namespace Go.Proofs.Ytobbfmcfibmicaa
open Go Go.RowKit
set_option linter.unusedVariables false
set_option linter.unusedSimpArgs false
section
variable {P : Program} {ops : Array Oper} {Q : Exit → Act → World → Prop} {md : Region.Mode} {S : World → Prop}
def waitsOn (md : Region.Mode) (ops : Array Oper) (i j : Nat) : Bool := match ops[i]? with
  | some o => o.after.toList.any fun e => Region.binds md e && e.on == j
  | none => false
theorem waitsOn_listed {i j : Nat} {listed : Array Bool} (h : waitsOn md ops i j = true) (hr : i ∈ Region.ready md ops listed) : listed.getD j true = true := by
  obtain ⟨_, o, ho, hall⟩ := mem_ready.1 hr
  unfold waitsOn at h
  rw [ho] at h
  obtain ⟨e, he, hb⟩ := List.any_eq_true.1 h
  simp only [Bool.and_eq_true, beq_iff_eq] at hb
  have := (getD_ft.1 (hall e (by simpa using he) hb.1)).2
  rw [hb.2] at this
  exact this
/-- what has come up of the calls and the variable. -/
structure UpTo (cs : List (Nat × Nat)) (R : Nat → Value → World → List Nat → Prop) (T : World → Nat → Prop) (vi vd b0 : Nat) (listed : Array Bool) (a : Act) (w : World) (N : Nat) : Prop where
  var : listed.getD vi true = true → a.tmps.getD vd undef = .pointer (some ⟨N, 0, none⟩) ∧ b0 ≤ N ∧ T w N
  call : ∀ c ∈ cs, listed.getD c.1 true = true → ∃ bs, R c.1 (a.tmps.getD c.2 undef) w bs ∧ (∀ b ∈ bs, b0 ≤ b ∧ b < w.heap.size) ∧ (listed.getD vi true = true → N ∉ bs)
theorem calls_var {L0 Lend : Array Bool} {f0 : Nat} {ts : Array Value} {ds : List Deferred} {w0 : World} (cs : List (Nat × Nat)) (R : Nat → Value → World → List Nat → Prop) (T : World → Nat → Prop) (vi vd : Nat) (ob : Obj)
    {fuel : Nat} (hf : fuel = f0 + openN L0 (cs.map (·.1) ++ [vi]))
    (hok : phOk md ops (cs.map (·.1) ++ [vi]) L0 = true) (hE : (cs.map (·.1) ++ [vi]).Nodup) (hD : (cs.map (·.2) ++ [vd]).Nodup)
    (hlen0 : ((cs.map (·.2) ++ [vd]).all fun d => decide (d < ts.size)) = true)
    (hend0 : endOk (cs.map (·.1) ++ [vi]) L0 Lend = true)
    (hT0 : ∀ w : World, T (w.alloc ob) w.heap.size) (hTb : ∀ (w w' : World) N, T w N → Below w.heap.size w w' → T w' N) (hTl : ∀ (w : World) N, T w N → N < w.heap.size)
    (hS : ∀ w, Below w0.heap.size w0 w → S w)
    (hR : ∀ c ∈ cs, ∀ (v : Value) (w w' : World) bs, R c.1 v w bs → Below w.heap.size w w' → R c.1 v w' bs)
    (hC : ∀ c ∈ cs, ∀ (listed : Array Bool) (a : Act) (w : World) (K : Act → World → Prop), c.1 ∈ Region.ready md ops listed → Off (cs.map (·.2) ++ [vd]) ts ds a → Below w0.heap.size w0 w →
      (∀ c' ∈ cs, listed.getD c'.1 true = true → ∃ bs, R c'.1 (a.tmps.getD c'.2 undef) w bs) →
      Shut (∀ v w' bs, Below w.heap.size w w' → R c.1 v w' bs → (∀ b ∈ bs, w.heap.size ≤ b ∧ b < w'.heap.size) → K (a.put (some c.2) v) w') → wpOp P ops Q c.1 K a w)
    (hA : ∀ (a : Act) (w : World) (K : Act → World → Prop), K (a.put (some vd) (.pointer (some ⟨w.heap.size, 0, none⟩))) (w.alloc ob) → wpOp P ops Q vi K a w)
    (fin : ∀ (V : Nat → Value) (N : Nat) (w : World), Below w0.heap.size w0 w → w0.heap.size ≤ N → T w N → (∀ c ∈ cs, ∃ bs, R c.1 (V c.2) w bs ∧ (∀ b ∈ bs, w0.heap.size ≤ b ∧ b < w.heap.size) ∧ N ∉ bs) →
      wpAnyH P md ops Q S f0 Lend ⟨((cs.map fun c => (c.2, V c.2)) ++ [(vd, Value.pointer (some ⟨N, 0, none⟩))]).foldl (fun t p => t.setIfInBounds p.1 p.2) ts, ds⟩ w) :
    wpAnyH P md ops Q S fuel L0 ⟨ts, ds⟩ w0 := by
  subst hf
  have hlen : ∀ d ∈ cs.map (·.2) ++ [vd], d < ts.size := fun d hd => by simpa using List.all_eq_true.1 hlen0 d hd
  have hend := endOk_spec hend0
  have hEd := List.nodup_append.1 hE
  have hDd := List.nodup_append.1 hD
  have hvi : vi ∈ cs.map (·.1) ++ [vi] := List.mem_append.2 (Or.inr (List.mem_singleton.2 rfl))
  have hvd : vd ∈ cs.map (·.2) ++ [vd] := List.mem_append.2 (Or.inr (List.mem_singleton.2 rfl))
  have nev : ∀ c ∈ cs, c.1 ≠ vi ∧ c.2 ≠ vd := fun c hc => ⟨hEd.2.2 _ (List.mem_map.2 ⟨c, hc, rfl⟩) _ (List.mem_singleton.2 rfl), hDd.2.2 _ (List.mem_map.2 ⟨c, hc, rfl⟩) _ (List.mem_singleton.2 rfl)⟩
  refine phase (fun listed a w => Off (cs.map (·.2) ++ [vd]) ts ds a ∧ Below w0.heap.size w0 w ∧ ∃ N, UpTo cs R T vi vd w0.heap.size listed a w N) hok hE ?_ ?_ _ L0 ⟨ts, ds⟩ w0 ⟨rfl, fun _ _ => rfl⟩ (fun y hy _ _ hl => by rw [openAll hok hy] at hl; cases hl) ⟨⟨rfl, rfl, fun _ _ => rfl⟩, Below.refl _ _, 0, ⟨fun hl => absurd ((openAll hok hvi).symm.trans hl) (by decide), fun c hc hl => absurd ((openAll hok (List.mem_append.2 (Or.inl (List.mem_map.2 ⟨c, hc, rfl⟩)))).symm.trans hl) (by decide)⟩⟩ rfl
  · rintro listed a w i hl ⟨hO, hB, N, hv, hc⟩ hiE hio hir
    rcases List.mem_append.1 hiE with hi | hi
    · obtain ⟨c, hcm, rfl⟩ := List.mem_map.1 hi
      have hcD : c.2 ∈ cs.map (·.2) ++ [vd] := List.mem_append.2 (Or.inl (List.mem_map.2 ⟨c, hcm, rfl⟩))
      refine hC c hcm listed a w _ hir hO hB (fun c' hc' hl' => by obtain ⟨bs, h, _⟩ := hc c' hc' hl'; exact ⟨bs, h⟩) fun v w' bs hb hRn hfr => ⟨hS w' (bstep hb hB.size hB), hO.put hcD _, bstep hb hB.size hB, N, ⟨fun hl' => ?_, fun c' hc' hl' => ?_⟩⟩
      · obtain ⟨h1, h2, h3⟩ := hv (set_true hl' (nev c hcm).1)
        exact ⟨by rw [put_other (nev c hcm).2]; exact h1, h2, hTb _ _ _ h3 hb⟩
      · by_cases e : c' = c
        · subst e
          refine ⟨bs, by rw [put_same (by rw [hO.2.1]; exact hlen _ hcD)]; exact hRn, fun b hbs => ⟨Nat.le_trans hB.size (hfr b hbs).1, (hfr b hbs).2⟩, fun hl2 hN => ?_⟩
          have h1 := hTl _ _ (hv (set_true hl2 (nev c' hcm).1)).2.2
          have h2 := (hfr N hN).1
          omega
        · have e1 : c.1 ≠ c'.1 := fun h => nodup_map_ne hEd.1 hc' hcm e h.symm
          have e2 : c.2 ≠ c'.2 := fun h => nodup_map_ne hDd.1 hc' hcm e h.symm
          obtain ⟨bs', h1, h2, h3⟩ := hc c' hc' (set_true hl' e1)
          exact ⟨bs', by rw [put_other e2]; exact hR c' hc' _ _ _ _ h1 hb, fun b hbs => ⟨(h2 b hbs).1, Nat.lt_of_lt_of_le (h2 b hbs).2 hb.size⟩, fun hl2 => h3 (set_true hl2 (nev c hcm).1)⟩
    · obtain rfl := List.mem_singleton.1 hi
      have hb : Below w.heap.size w (w.alloc ob) := (Below.refl _ _).alloc (Nat.le_refl _) _
      refine hA a w _ ⟨hS _ (bstep hb hB.size hB), hO.put hvd _, bstep hb hB.size hB, w.heap.size, ⟨fun _ => ⟨put_same (by rw [hO.2.1]; exact hlen _ hvd), hB.size, hT0 w⟩, fun c' hc' hl' => ?_⟩⟩
      obtain ⟨bs', h1, h2, h3⟩ := hc c' hc' (set_true hl' (fun h => (nev c' hc').1 h.symm))
      exact ⟨bs', by rw [put_other (fun h => (nev c' hc').2 h.symm)]; exact hR c' hc' _ _ _ _ h1 hb, fun b hbs => ⟨(h2 b hbs).1, Nat.lt_of_lt_of_le (h2 b hbs).2 hb.size⟩, fun _ hN => by have := (h2 _ hN).2; omega⟩
  · rintro listed a w hl hall ⟨hO, hB, N, hv, hc⟩
    have hLe : listed = Lend := by
      refine Array.ext (by rw [hl.1, hend.1]) fun j h1 h2 => ?_
      have e2 := hend.2 j
      have e1 : listed.getD j true = Lend.getD j true := by
        rw [e2]
        by_cases hj : j ∈ cs.map (·.1) ++ [vi]
        · rw [hall j hj]
          have : (cs.map (·.1) ++ [vi]).contains j = true := by simpa using hj
          rw [this]; simp
        · rw [hl.2 j hj]
          have : (cs.map (·.1) ++ [vi]).contains j = false := by simpa using hj
          rw [this]; simp
      rw [Array.getD, Array.getD, dif_pos h1, dif_pos h2] at e1
      exact e1
    subst hLe
    have hcm : ∀ c ∈ cs, listed.getD c.1 true = true := fun c h => hall _ (List.mem_append.2 (Or.inl (List.mem_map.2 ⟨c, h, rfl⟩)))
    obtain ⟨v1, v2, v3⟩ := hv (hall vi hvi)
    have hch := chain_eq a.tmps ((cs.map fun c => (c.2, a.tmps.getD c.2 undef)) ++ [(vd, Value.pointer (some ⟨N, 0, none⟩))]) ts hO.2.1.symm
      (fun j hj => (hO.2.2 j (by simpa [List.map_map, Function.comp_def] using hj)).symm)
      (fun p hp => by
        rcases List.mem_append.1 hp with h | h
        · obtain ⟨c, hcc, rfl⟩ := List.mem_map.1 h; rfl
        · obtain rfl := List.mem_singleton.1 h; exact v1)
    have := fin (fun d => a.tmps.getD d undef) N w hB v2 v3 (fun c h => by obtain ⟨bs, h1, h2, h3⟩ := hc c h (hcm c h); exact ⟨bs, h1, h2, h3 (hall vi hvi)⟩)
    rw [hch] at this
    obtain ⟨at', ad⟩ := a
    have : ad = ds := hO.1
    subst this
    assumption
end
/-- block N is a variable of two cells, that holds x and y. -/
structure Var2 (w : World) (N : Nat) (x y : Value) : Prop where
  lt : N < w.heap.size
  fr : ∀ o, w.frozen? ⟨N, o, none⟩ = false
  c0 : w.cell? ⟨N, 0, none⟩ = some x
  c1 : w.cell? ⟨N, 1, none⟩ = some y
theorem Var2.keep {w w' : World} {N : Nat} {x y : Value} (h : Var2 w N x y) (hs : w.heap.size ≤ w'.heap.size) (hk : w'.heap[N]? = w.heap[N]?) : Var2 w' N x y :=
  ⟨Nat.lt_of_lt_of_le h.lt hs, fun o => (frozen_blk hk).trans (h.fr o), (cell_blk hk).trans h.c0, (cell_blk hk).trans h.c1⟩
theorem Var2.below {w w' : World} {N : Nat} {x y : Value} (h : Var2 w N x y) (hd : Below w.heap.size w w') : Var2 w' N x y := h.keep hd.size (hd.block N h.lt)
theorem Var2.new (w : World) (x y : Value) (t : TypeId) : Var2 (w.alloc (.cells #[x, y] t)) w.heap.size x y :=
  ⟨by simp, fun o => by simp, by simp, by simp⟩
theorem Var2.put {w : World} {N : Nat} {x y : Value} (h : Var2 w N x y) (x' y' : Value) : Var2 ((w.setCell ⟨N, 0, none⟩ x').setCell ⟨N, 1, none⟩ y') N x' y' := by
  refine ⟨by simpa using h.lt, fun o => by simp only [World.frozen?_setCell]; exact h.fr o, ?_, ?_⟩
  · exact (World.cell?_setCell_other _ _ _ _ (by simp)).trans (World.cell?_setCell_same _ _ _ h.c0)
  · exact World.cell?_setCell_same _ _ _ ((World.cell?_setCell_other _ _ _ _ (by simp)).trans h.c1)
theorem Var2.far {w : World} {N g : Nat} {x y : Value} (h : Var2 w N x y) (hne : N ≠ g) (x' y' : Value) : Var2 ((w.setCell ⟨g, 0, none⟩ x').setCell ⟨g, 1, none⟩ y') N x y :=
  h.keep (by simp) (by rw [Below.heap_setCell _ _ _ _ hne, Below.heap_setCell _ _ _ _ hne])
end Go.Proofs.Ytobbfmcfibmicaa
