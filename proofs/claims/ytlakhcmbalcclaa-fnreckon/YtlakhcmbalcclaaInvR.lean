/- Own text. A region that draws its order, of which some operations are calls whose answers hang on nothing that the others do, and new variables: whatever order these come in, behind all of them each call's slot holds its answer, each variable's slot a block of its own. -/
import Derived.Test.YtlakhcmbalcclaaInvA
import Derived.Test.YtlakhcmbalcclaaDrD
namespace Go.Proofs.Ytlakhcmbalcclaa
open Go Go.RowKit
set_option linter.unusedVariables false
set_option linter.unusedSimpArgs false
section
variable {P : Program} {ops : Array Oper} {Q : Exit → Act → World → Prop} {md : Region.Mode} {S : World → Prop}
/-- calls (number, slot, answer) and new variables (number, slot): what holds of those that have come up. -/
def CallsIn (cs : List (Nat × Nat × Value)) (listed : Array Bool) (a : Act) : Prop := ∀ c ∈ cs, listed.getD c.1 true = true → a.tmps.getD c.2.1 undef = c.2.2
def VarsIn (al : List (Nat × Nat)) (b0 : Nat) (N : Nat → Nat) (listed : Array Bool) (a : Act) (w : World) : Prop :=
  (∀ c ∈ al, listed.getD c.1 true = true → a.tmps.getD c.2 undef = .pointer (some ⟨N c.1, 0, none⟩) ∧ b0 ≤ N c.1 ∧ VarV w (N c.1) 0 0 ⟨#[]⟩) ∧
  (∀ c ∈ al, ∀ c' ∈ al, listed.getD c.1 true = true → listed.getD c'.1 true = true → c.1 ≠ c'.1 → N c.1 ≠ N c'.1)
/-- calls and new variables, in whatever order. -/
theorem calls_vars {L0 Lend : Array Bool} {f0 : Nat} {ts : Array Value} {ds : List Deferred} {w0 : World} (cs : List (Nat × Nat × Value)) (al : List (Nat × Nat)) (t : TypeId)
    {fuel : Nat} (hf : fuel = f0 + openN L0 (cs.map (·.1) ++ al.map (·.1)))
    (hok : phOk md ops (cs.map (·.1) ++ al.map (·.1)) L0 = true) (hE : (cs.map (·.1) ++ al.map (·.1)).Nodup) (hD : (cs.map (·.2.1) ++ al.map (·.2)).Nodup)
    (hlen0 : ((cs.map (·.2.1) ++ al.map (·.2)).all fun d => decide (d < ts.size)) = true)
    (hend0 : endOk (cs.map (·.1) ++ al.map (·.1)) L0 Lend = true)
    (hS : ∀ w, Below w0.heap.size w0 w → S w)
    (hC : ∀ c ∈ cs, ∀ (a : Act) (w : World) (K : Act → World → Prop), Off (cs.map (·.2.1) ++ al.map (·.2)) ts ds a → Below w0.heap.size w0 w → Shut (∀ w', Below w.heap.size w w' → K (a.put (some c.2.1) c.2.2) w') → wpOp P ops Q c.1 K a w)
    (hA : ∀ c ∈ al, ∀ (a : Act) (w : World) (K : Act → World → Prop), K (a.put (some c.2) (.pointer (some ⟨w.heap.size, 0, none⟩))) (w.alloc (.cells #[.int .i64 0, .int .i64 0, .string ⟨#[]⟩] t)) → wpOp P ops Q c.1 K a w)
    (fin : ∀ (N : Nat → Nat) (w : World), Below w0.heap.size w0 w → (∀ c ∈ al, w0.heap.size ≤ N c.1 ∧ VarV w (N c.1) 0 0 ⟨#[]⟩) → (∀ c ∈ al, ∀ c' ∈ al, c.1 ≠ c'.1 → N c.1 ≠ N c'.1) →
      wpAnyH P md ops Q S f0 Lend ⟨(cs.map (·.2) ++ al.map fun c => (c.2, Value.pointer (some ⟨N c.1, 0, none⟩))).foldl (fun t p => t.setIfInBounds p.1 p.2) ts, ds⟩ w) :
    wpAnyH P md ops Q S fuel L0 ⟨ts, ds⟩ w0 := by
  subst hf
  have hlen : ∀ d ∈ cs.map (·.2.1) ++ al.map (·.2), d < ts.size := fun d hd => by simpa using List.all_eq_true.1 hlen0 d hd
  have hend := endOk_spec hend0
  refine phase (fun listed a w => Off (cs.map (·.2.1) ++ al.map (·.2)) ts ds a ∧ Below w0.heap.size w0 w ∧ CallsIn cs listed a ∧ ∃ N, VarsIn al w0.heap.size N listed a w) hok hE ?_ ?_ _ L0 ⟨ts, ds⟩ w0 ⟨rfl, fun _ _ => rfl⟩ (fun y hy _ _ hl => by rw [openAll hok hy] at hl; cases hl) ⟨⟨rfl, rfl, fun _ _ => rfl⟩, Below.refl _ _, ?_, fun _ => 0, ?_, ?_⟩ rfl
  · rintro listed a w i hl ⟨hO, hB, hc, N, hv, hd⟩ hiE hio hir
    have hEd := List.nodup_append.1 hE
    have hDd := List.nodup_append.1 hD
    rcases List.mem_append.1 hiE with hi | hi
    · obtain ⟨c, hcm, rfl⟩ := List.mem_map.1 hi
      have hcD : c.2.1 ∈ cs.map (·.2.1) ++ al.map (·.2) := List.mem_append.2 (Or.inl (List.mem_map.2 ⟨c, hcm, rfl⟩))
      refine hC c hcm a w _ hO hB fun w' hb => ⟨hS w' (bstep hb hB.size hB), hO.put hcD _, bstep hb hB.size hB, fun c' hc' hl' => ?_, N, fun c' hc' hl' => ?_, fun c1 h1 c2 h2 hl1 hl2 => ?_⟩
      · by_cases e : c'.1 = c.1
        · have : c' = c := by
            by_cases ee : c' = c
            · exact ee
            · exact absurd e (nodup_map_ne hEd.1 hc' hcm ee)
          subst this
          exact put_same (by rw [hO.2.1]; exact hlen _ hcD)
        · rw [put_other (fun h => e (by
            by_cases ee : c' = c
            · rw [ee]
            · exact absurd h.symm (nodup_map_ne hDd.1 hc' hcm ee)))]
          exact hc c' hc' (set_true hl' (fun h => e h.symm))
      · have hne : c.1 ≠ c'.1 := hEd.2.2 _ (List.mem_map.2 ⟨c, hcm, rfl⟩) _ (List.mem_map.2 ⟨c', hc', rfl⟩)
        obtain ⟨h1, h2, h3⟩ := hv c' hc' (set_true hl' hne)
        refine ⟨?_, h2, h3.below hb⟩
        rw [put_other (hDd.2.2 _ (List.mem_map.2 ⟨c, hcm, rfl⟩) _ (List.mem_map.2 ⟨c', hc', rfl⟩))]
        exact h1
      · exact hd c1 h1 c2 h2 (set_true hl1 (hEd.2.2 _ (List.mem_map.2 ⟨c, hcm, rfl⟩) _ (List.mem_map.2 ⟨c1, h1, rfl⟩))) (set_true hl2 (hEd.2.2 _ (List.mem_map.2 ⟨c, hcm, rfl⟩) _ (List.mem_map.2 ⟨c2, h2, rfl⟩)))
    · obtain ⟨c, hcm, rfl⟩ := List.mem_map.1 hi
      have hcD : c.2 ∈ cs.map (·.2.1) ++ al.map (·.2) := List.mem_append.2 (Or.inr (List.mem_map.2 ⟨c, hcm, rfl⟩))
      have hb : Below w.heap.size w (w.alloc (.cells #[.int .i64 0, .int .i64 0, .string ⟨#[]⟩] t)) := (Below.refl _ _).alloc (Nat.le_refl _) _
      refine hA c hcm a w _ ⟨hS _ (bstep hb hB.size hB), hO.put hcD _, bstep hb hB.size hB, fun c' hc' hl' => ?_, fun j => if j = c.1 then w.heap.size else N j, fun c' hc' hl' => ?_, fun c1 h1 c2 h2 hl1 hl2 hne => ?_⟩
      · have hne : c'.1 ≠ c.1 := hEd.2.2 _ (List.mem_map.2 ⟨c', hc', rfl⟩) _ (List.mem_map.2 ⟨c, hcm, rfl⟩)
        rw [put_other (fun h => (hDd.2.2 _ (List.mem_map.2 ⟨c', hc', rfl⟩) _ (List.mem_map.2 ⟨c, hcm, rfl⟩)) h.symm)]
        exact hc c' hc' (set_true hl' (fun h => hne h.symm))
      · by_cases e : c'.1 = c.1
        · have : c' = c := by
            by_cases ee : c' = c
            · exact ee
            · exact absurd e (nodup_map_ne hEd.2.1 hc' hcm ee)
          subst this
          simp only [if_true]
          exact ⟨put_same (by rw [hO.2.1]; exact hlen _ hcD), hB.size, VarV.new w 0 0 ⟨#[]⟩ t⟩
        · simp only [if_neg e]
          obtain ⟨h1, h2, h3⟩ := hv c' hc' (set_true hl' (fun h => e h.symm))
          refine ⟨?_, h2, h3.below hb⟩
          rw [put_other (fun h => by
            by_cases ee : c' = c
            · exact e (by rw [ee])
            · exact absurd h.symm (nodup_map_ne hDd.2.1 hc' hcm ee))]
          exact h1
      · by_cases e1 : c1.1 = c.1
        · have e2 : c2.1 ≠ c.1 := fun h => hne (e1.trans h.symm)
          simp only [if_pos e1, if_neg e2]
          have := (hv c2 h2 (set_true hl2 (fun h => e2 h.symm))).2.2.lt
          omega
        · simp only [if_neg e1]
          have := (hv c1 h1 (set_true hl1 (fun h => e1 h.symm))).2.2.lt
          by_cases e2 : c2.1 = c.1
          · simp only [if_pos e2]; omega
          · simp only [if_neg e2]
            exact hd c1 h1 c2 h2 (set_true hl1 (fun h => e1 h.symm)) (set_true hl2 (fun h => e2 h.symm)) hne
  · rintro listed a w hl hall ⟨hO, hB, hc, N, hv, hd⟩
    have hLe : listed = Lend := by
      refine Array.ext (by rw [hl.1, hend.1]) fun j h1 h2 => ?_
      have e2 := hend.2 j
      have e1 : listed.getD j true = Lend.getD j true := by
        rw [e2]
        by_cases hj : j ∈ cs.map (·.1) ++ al.map (·.1)
        · rw [hall j hj]
          have : (cs.map (·.1) ++ al.map (·.1)).contains j = true := by simpa using hj
          rw [this]; simp
        · rw [hl.2 j hj]
          have : (cs.map (·.1) ++ al.map (·.1)).contains j = false := by simpa using hj
          rw [this]; simp
      rw [Array.getD, Array.getD, dif_pos h1, dif_pos h2] at e1
      exact e1
    subst hLe
    have hcm : ∀ c ∈ cs, listed.getD c.1 true = true := fun c h => hall _ (List.mem_append.2 (Or.inl (List.mem_map.2 ⟨c, h, rfl⟩)))
    have ham : ∀ c ∈ al, listed.getD c.1 true = true := fun c h => hall _ (List.mem_append.2 (Or.inr (List.mem_map.2 ⟨c, h, rfl⟩)))
    have hch := chain_eq a.tmps (cs.map (·.2) ++ al.map fun c => (c.2, Value.pointer (some ⟨N c.1, 0, none⟩))) ts hO.2.1.symm
      (fun j hj => (hO.2.2 j (by simpa [List.map_map] using hj)).symm)
      (fun p hp => by
        rcases List.mem_append.1 hp with h | h
        · obtain ⟨c, hcc, rfl⟩ := List.mem_map.1 h; exact hc c hcc (hcm c hcc)
        · obtain ⟨c, hcc, rfl⟩ := List.mem_map.1 h; exact (hv c hcc (ham c hcc)).1)
    have := fin N w hB (fun c h => (hv c h (ham c h)).2) (fun c h c' h' => hd c h c' h' (ham c h) (ham c' h'))
    rw [hch] at this
    obtain ⟨at', ad⟩ := a
    have : ad = ds := hO.1
    subst this
    assumption
  · intro c h hl
    have := openAll hok (List.mem_append.2 (Or.inl (List.mem_map.2 ⟨c, h, rfl⟩)))
    rw [this] at hl; cases hl
  · intro c h hl
    have := openAll hok (List.mem_append.2 (Or.inr (List.mem_map.2 ⟨c, h, rfl⟩)))
    rw [this] at hl; cases hl
  · intro c h _ _ hl
    have := openAll hok (List.mem_append.2 (Or.inr (List.mem_map.2 ⟨c, h, rfl⟩)))
    rw [this] at hl; cases hl
end
theorem VarV.far {w : World} {N g : Nat} {k n : Int} {s : ByteArray} (h : VarV w N k n s) (hne : N ≠ g) (x y z : Value) : VarV (((w.setCell ⟨g, 0, none⟩ x).setCell ⟨g, 1, none⟩ y).setCell ⟨g, 2, none⟩ z) N k n s :=
  ((h.other (p := ⟨g, 0, none⟩) hne x).other (p := ⟨g, 1, none⟩) hne y).other (p := ⟨g, 2, none⟩) hne z
theorem below3 {b g : Nat} {w w' : World} (h : Below b w w') (hg : b ≤ g) (x y z : Value) : Below b w (((w'.setCell ⟨g, 0, none⟩ x).setCell ⟨g, 1, none⟩ y).setCell ⟨g, 2, none⟩ z) :=
  ((h.setCell hg x).setCell hg y).setCell hg z
end Go.Proofs.Ytlakhcmbalcclaa
