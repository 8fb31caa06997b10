/- Own text. A phase of a region that draws its order: operations of it that come in whatever order, with an invariant. -/
import Derived.Test.YtlakhcmbalcclaaTake
namespace Go.Proofs.Ytlakhcmbalcclaa
open Go Go.RowKit
set_option linter.unusedVariables false
set_option linter.unusedSimpArgs false
section
variable {P : Program} {ops : Array Oper} {Q : Exit → Act → World → Prop} {md : Region.Mode} {S : World → Prop}
/-- the operations E wait for nothing but what has come up and one another (elder ones), all others wait for all of E. -/
def phOk (md : Region.Mode) (ops : Array Oper) (E : List Nat) (L0 : Array Bool) : Bool :=
  L0.size == ops.size &&
  ((E.all fun i => decide (i < ops.size) && L0.getD i true == false) &&
  ((E.all fun i => match ops[i]? with
    | some o => o.after.toList.all fun e => !(Region.binds md e) || (L0.getD e.on false || (E.contains e.on && decide (e.on < i)))
    | none => false) &&
  ((List.range ops.size).all fun i => E.contains i || (L0.getD i true || match ops[i]? with
    | some o => (o.after.toList.any fun e => Region.binds md e && (!(E.contains e.on) && L0.getD e.on true == false)) || E.all fun x => o.after.toList.any fun e => Region.binds md e && (e.on == x || (E.contains e.on && match ops[e.on]? with
      | some o' => o'.after.toList.any fun e' => Region.binds md e' && e'.on == x
      | none => false))
    | none => false))))
/-- as L0, but for E. -/
def AsL0 (E : List Nat) (L0 listed : Array Bool) : Prop := listed.size = L0.size ∧ ∀ j, j ∉ E → listed.getD j true = L0.getD j true
/-- what has come up of E, has come up behind what it waits for. -/
def Closed (md : Region.Mode) (ops : Array Oper) (E : List Nat) (listed : Array Bool) : Prop := ∀ y ∈ E, ∀ o, ops[y]? = some o → listed.getD y true = true → ∀ e ∈ o.after, Region.binds md e = true → listed.getD e.on false = true
theorem getD_tf {L : Array Bool} {j : Nat} : L.getD j true = false ↔ j < L.size ∧ L.getD j false = false := by
  by_cases h : j < L.size <;> simp [Array.getD, h]
theorem getD_ft {L : Array Bool} {j : Nat} : L.getD j false = true ↔ j < L.size ∧ L.getD j true = true := by
  by_cases h : j < L.size <;> simp [Array.getD, h]
theorem ph_only {E : List Nat} {L0 listed : Array Bool} (h : phOk md ops E L0 = true) (hl : AsL0 E L0 listed) (hcl : Closed md ops E listed) {i x : Nat} (hi : i ∈ Region.ready md ops listed) (hx : x ∈ E) (hxo : listed.getD x true = false) : i ∈ E := by
  unfold phOk at h
  simp only [Bool.and_eq_true] at h
  obtain ⟨h0, h1, h2, h3⟩ := h
  obtain ⟨hu, o, ho, hall⟩ := mem_ready.1 hi
  have hlt : i < ops.size := (Array.getElem?_eq_some_iff.1 ho).1
  have h3i := List.all_eq_true.1 h3 i (List.mem_range.2 hlt)
  by_cases hE : i ∈ E
  · exact hE
  exfalso
  rw [hl.2 i hE] at hu
  have hc : E.contains i = false := by simpa using hE
  rw [hc, hu, ho] at h3i
  simp only [Bool.false_or] at h3i
  rw [Bool.or_eq_true] at h3i
  rcases h3i with h3i | h3i
  · obtain ⟨e, he, hb⟩ := List.any_eq_true.1 h3i
    rw [Bool.and_eq_true, Bool.and_eq_true] at hb
    have hne : e.on ∉ E := by simpa using hb.2.1
    have h5 := (getD_ft.1 (hall e (by simpa using he) hb.1)).2
    rw [hl.2 _ hne] at h5
    have h6 : L0.getD e.on true = false := by simpa using hb.2.2
    rw [h5] at h6
    cases h6
  have h4 := List.all_eq_true.1 h3i x hx
  obtain ⟨e, he, hb⟩ := List.any_eq_true.1 h4
  rw [Bool.and_eq_true, Bool.or_eq_true] at hb
  have h5 := hall e (by simpa using he) hb.1
  rcases hb.2 with hb2 | hb2
  · rw [beq_iff_eq] at hb2
    rw [hb2] at h5
    rw [(getD_ft.1 h5).2] at hxo
    cases hxo
  · rw [Bool.and_eq_true] at hb2
    have hin : e.on ∈ E := by simpa using hb2.1
    cases ho' : ops[e.on]? with
    | none => rw [ho'] at hb2; cases hb2.2
    | some o' =>
      rw [ho'] at hb2
      obtain ⟨e', he', hb'⟩ := List.any_eq_true.1 hb2.2
      simp only [Bool.and_eq_true, beq_iff_eq] at hb'
      have h6 := hcl e.on hin o' ho' (getD_ft.1 h5).2 e' (by simpa using he') hb'.1
      rw [hb'.2] at h6
      rw [(getD_ft.1 h6).2] at hxo
      cases hxo
theorem ph_some {E : List Nat} {L0 listed : Array Bool} (h : phOk md ops E L0 = true) (hl : AsL0 E L0 listed) : ∀ (n x : Nat), x ≤ n → x ∈ E → listed.getD x true = false → Region.ready md ops listed ≠ [] := by
  unfold phOk at h
  simp only [Bool.and_eq_true] at h
  obtain ⟨h0, h1, h2, h3⟩ := h
  intro n
  induction n with
  | zero =>
    intro x hn hx hxo
    have h2x := List.all_eq_true.1 h2 x hx
    cases ho : ops[x]? with
    | none => rw [ho] at h2x; cases h2x
    | some o =>
      rw [ho] at h2x
      have : x ∈ Region.ready md ops listed := by
        refine mem_ready.2 ⟨hxo, o, ho, fun e he hb => ?_⟩
        have h5 := List.all_eq_true.1 h2x e (by simpa using he)
        simp only [hb, Bool.not_true, Bool.false_or, Bool.or_eq_true, Bool.and_eq_true, decide_eq_true_eq] at h5
        rcases h5 with h5 | h5
        · have hne : e.on ∉ E := fun hin => by
            have := List.all_eq_true.1 h1 _ hin
            simp only [Bool.and_eq_true, decide_eq_true_eq, beq_iff_eq] at this
            rw [(getD_ft.1 h5).2] at this
            cases this.2
          have h6 := getD_ft.1 h5
          exact getD_ft.2 ⟨by rw [hl.1]; exact h6.1, by rw [hl.2 _ hne]; exact h6.2⟩
        · omega
      intro e; rw [e] at this; cases this
  | succ n ih =>
    intro x hn hx hxo
    have h2x := List.all_eq_true.1 h2 x hx
    cases ho : ops[x]? with
    | none => rw [ho] at h2x; cases h2x
    | some o =>
      rw [ho] at h2x
      by_cases hd : ∃ y, y < x ∧ y ∈ E ∧ listed.getD y true = false
      · obtain ⟨y, hy, hyE, hyo⟩ := hd
        exact ih y (by omega) hyE hyo
      have : x ∈ Region.ready md ops listed := by
        refine mem_ready.2 ⟨hxo, o, ho, fun e he hb => ?_⟩
        have h5 := List.all_eq_true.1 h2x e (by simpa using he)
        simp only [hb, Bool.not_true, Bool.false_or, Bool.or_eq_true, Bool.and_eq_true, decide_eq_true_eq] at h5
        rcases h5 with h5 | h5
        · have hne : e.on ∉ E := fun hin => by
            have := List.all_eq_true.1 h1 _ hin
            simp only [Bool.and_eq_true, decide_eq_true_eq, beq_iff_eq] at this
            rw [(getD_ft.1 h5).2] at this
            cases this.2
          have h6 := getD_ft.1 h5
          exact getD_ft.2 ⟨by rw [hl.1]; exact h6.1, by rw [hl.2 _ hne]; exact h6.2⟩
        · have hin : e.on ∈ E := by simpa using h5.1
          have hlt : e.on < listed.size := by
            have := List.all_eq_true.1 h1 _ hin
            simp only [Bool.and_eq_true, decide_eq_true_eq, beq_iff_eq] at this
            have h00 : L0.size = ops.size := by simpa using h0
            rw [hl.1, h00]; exact this.1
          cases hv : listed.getD e.on true with
          | false => exact absurd ⟨e.on, h5.2, hin, hv⟩ hd
          | true => exact getD_ft.2 ⟨hlt, hv⟩
      intro e; rw [e] at this; cases this
theorem AsL0.set {E : List Nat} {L0 listed : Array Bool} (h : AsL0 E L0 listed) {i : Nat} (hi : i ∈ E) : AsL0 E L0 (listed.setIfInBounds i true) :=
  ⟨by simpa using h.1, fun j hj => by
    have hne : i ≠ j := fun e => hj (by rw [← e]; exact hi)
    rw [getD_set_ne true hne]; exact h.2 j hj⟩
theorem Closed.set {E : List Nat} {listed : Array Bool} (h : Closed md ops E listed) {i : Nat} (hi : i ∈ Region.ready md ops listed) : Closed md ops E (listed.setIfInBounds i true) := by
  intro y hy o ho hly e he hb
  refine getD_set_true ?_
  by_cases e1 : i = y
  · subst e1
    obtain ⟨_, o', ho', hall⟩ := mem_ready.1 hi
    obtain rfl : o = o' := by rw [ho] at ho'; exact Option.some.inj ho'
    exact hall e he hb
  · rw [getD_set_ne true e1] at hly
    exact h y hy o ho hly e he hb
/-- how many of E have not come up. -/
def openN (listed : Array Bool) (E : List Nat) : Nat := E.countP fun i => listed.getD i true == false
theorem openN_zero {listed : Array Bool} {E : List Nat} (h : openN listed E = 0) {x : Nat} (hx : x ∈ E) : listed.getD x true = true := by
  have := List.countP_eq_zero.1 h x hx
  cases hv : listed.getD x true <;> simp_all
theorem openN_pos {listed : Array Bool} {E : List Nat} (h : openN listed E ≠ 0) : ∃ x ∈ E, listed.getD x true = false := by
  have := List.countP_pos_iff.1 (Nat.pos_of_ne_zero h)
  obtain ⟨x, hx, hv⟩ := this
  exact ⟨x, hx, by simpa using hv⟩
theorem openN_set {listed : Array Bool} {E : List Nat} (hE : E.Nodup) {i : Nat} (hi : i ∈ E) (ho : listed.getD i true = false) : openN listed E = openN (listed.setIfInBounds i true) E + 1 := by
  unfold openN
  induction E with
  | nil => cases hi
  | cons a l ih =>
    have hd := List.nodup_cons.1 hE
    rw [List.countP_cons, List.countP_cons]
    by_cases e : a = i
    · subst e
      have h1 : List.countP (fun i => listed.getD i true == false) l = List.countP (fun i => (listed.setIfInBounds a true).getD i true == false) l := by
        refine List.countP_congr fun x hx => ?_
        have : a ≠ x := fun e => hd.1 (e ▸ hx)
        rw [getD_set_ne true this]
      have h2 : (listed.setIfInBounds a true).getD a true = true := by
        by_cases hlt : a < listed.size <;> simp [Array.getD, hlt]
      rw [h1, h2, ho]
      simp
    · have hil : i ∈ l := by
        rcases List.mem_cons.1 hi with h | h
        · exact absurd h.symm e
        · exact h
      rw [ih hd.2 hil, getD_set_ne true (fun h => e h.symm)]
      omega
/-- the rule: an invariant of a phase. -/
theorem phase {E : List Nat} {L0 : Array Bool} {f0 : Nat} (I : Array Bool → Act → World → Prop) (hok : phOk md ops E L0 = true) (hE : E.Nodup)
    (step : ∀ listed a w i, AsL0 E L0 listed → I listed a w → i ∈ E → listed.getD i true = false → i ∈ Region.ready md ops listed → wpOp P ops Q i (fun a' w' => S w' ∧ I (listed.setIfInBounds i true) a' w') a w)
    (fin : ∀ listed a w, AsL0 E L0 listed → (∀ x ∈ E, listed.getD x true = true) → I listed a w → wpAnyH P md ops Q S f0 listed a w) :
    ∀ (k : Nat) (listed : Array Bool) (a : Act) (w : World), AsL0 E L0 listed → Closed md ops E listed → I listed a w → openN listed E = k → wpAnyH P md ops Q S (f0 + k) listed a w := by
  intro k
  induction k with
  | zero => intro listed a w hl _ hI ho; exact fin listed a w hl (fun x hx => openN_zero ho hx) hI
  | succ k ih =>
    intro listed a w hl hcl hI ho
    obtain ⟨x, hx, hxo⟩ := openN_pos (show openN listed E ≠ 0 by omega)
    refine ⟨fun h0 => absurd h0 (ph_some hok hl x x (Nat.le_refl _) hx hxo), fun i hi => ?_⟩
    have hiE := ph_only hok hl hcl hi hx hxo
    have hio := (mem_ready.1 hi).1
    refine wpOp_mono ?_ (step listed a w i hl hI hiE hio hi)
    rintro a' w' ⟨hS, hI'⟩
    exact ⟨hS, ih _ a' w' (hl.set hiE) (hcl.set hi) hI' (by have := openN_set hE hiE hio; omega)⟩
/-- a frame that is another one but for some slots. -/
theorem chain_eq (x : Array Value) : ∀ (ps : List (Nat × Value)) (t : Array Value), t.size = x.size → (∀ j, j ∉ ps.map (·.1) → t.getD j undef = x.getD j undef) → (∀ p ∈ ps, x.getD p.1 undef = p.2) →
    ps.foldl (fun t p => t.setIfInBounds p.1 p.2) t = x := by
  intro ps
  induction ps with
  | nil =>
    intro t hs hj _
    refine Array.ext hs fun i h1 h2 => ?_
    have := hj i (by simp)
    have h1' : i < t.size := h1
    rw [Array.getD, Array.getD, dif_pos h1', dif_pos h2] at this
    exact this
  | cons p ps ih =>
    intro t hs hj hp
    refine ih _ (by simpa using hs) (fun j hjn => ?_) (fun q hq => hp q (List.mem_cons_of_mem _ hq))
    by_cases e : p.1 = j
    · subst e
      have := hp p List.mem_cons_self
      by_cases hlt : p.1 < t.size
      · rw [this]; simp [Array.getD, hlt]
      · have h2 : ¬ p.1 < x.size := by omega
        simp [Array.getD, hlt, h2]
    · rw [← hj j (by simp; exact ⟨fun h => e h.symm, by simpa using hjn⟩)]
      by_cases hlt : j < t.size
      · simp [Array.getD, hlt, Array.getElem_setIfInBounds, e]
      · simp [Array.getD, hlt]
/-- slots off D are as in ts. -/
def Off (D : List Nat) (ts : Array Value) (ds : List Deferred) (a : Act) : Prop := a.defers = ds ∧ a.tmps.size = ts.size ∧ ∀ j, j ∉ D → a.tmps.getD j undef = ts.getD j undef
theorem Off.put {D : List Nat} {ts : Array Value} {ds : List Deferred} {a : Act} (h : Off D ts ds a) {d : Nat} (hd : d ∈ D) (v : Value) : Off D ts ds (a.put (some d) v) :=
  ⟨h.1, by simpa [Act.put] using h.2.1, fun j hj => by
    have : d ≠ j := fun e => hj (e ▸ hd)
    rw [← h.2.2 j hj]
    show (a.tmps.setIfInBounds d v).getD j undef = _
    by_cases hlt : j < a.tmps.size
    · simp [Array.getD, hlt, Array.getElem_setIfInBounds, this]
    · simp [Array.getD, hlt]⟩
theorem put_same {a : Act} {d : Nat} {v : Value} (h : d < a.tmps.size) : (a.put (some d) v).tmps.getD d undef = v := by
  show (a.tmps.setIfInBounds d v).getD d undef = v
  simp [Array.getD, h]
theorem put_other {a : Act} {d j : Nat} {v : Value} (h : d ≠ j) : (a.put (some d) v).tmps.getD j undef = a.tmps.getD j undef := by
  show (a.tmps.setIfInBounds d v).getD j undef = _
  by_cases hlt : j < a.tmps.size
  · simp [Array.getD, hlt, Array.getElem_setIfInBounds, h]
  · simp [Array.getD, hlt]
theorem set_true {L : Array Bool} {i j : Nat} (h : (L.setIfInBounds i true).getD j true = true) (hne : i ≠ j) : L.getD j true = true := by rwa [getD_set_ne true hne] at h
theorem openAll {E : List Nat} {L0 : Array Bool} (h : phOk md ops E L0 = true) {x : Nat} (hx : x ∈ E) : L0.getD x true = false := by
  unfold phOk at h
  simp only [Bool.and_eq_true] at h
  have := List.all_eq_true.1 h.2.1 x hx
  simp only [Bool.and_eq_true, beq_iff_eq] at this
  exact this.2
theorem nodup_map_ne {α β : Type} {f : α → β} : ∀ {l : List α}, (l.map f).Nodup → ∀ {x y : α}, x ∈ l → y ∈ l → x ≠ y → f x ≠ f y := by
  intro l
  induction l with
  | nil => intro _ x y hx; cases hx
  | cons a l ih =>
    intro h x y hx hy hne he
    have hd := List.nodup_cons.1 h
    rcases List.mem_cons.1 hx with rfl | hx
    · rcases List.mem_cons.1 hy with rfl | hy
      · exact hne rfl
      · exact hd.1 (he ▸ List.mem_map.2 ⟨y, hy, rfl⟩)
    · rcases List.mem_cons.1 hy with e | hy
      · rw [e] at he; exact hd.1 (he ▸ List.mem_map.2 ⟨x, hx, rfl⟩)
      · exact ih hd.2 hx hy hne he
def endOk (E : List Nat) (L0 Lend : Array Bool) : Bool := Lend.size == L0.size && (List.range L0.size).all fun j => Lend.getD j true == (L0.getD j true || E.contains j)
theorem endOk_spec {E : List Nat} {L0 Lend : Array Bool} (h : endOk E L0 Lend = true) : Lend.size = L0.size ∧ ∀ j, Lend.getD j true = (L0.getD j true || E.contains j) := by
  unfold endOk at h
  simp only [Bool.and_eq_true, beq_iff_eq] at h
  refine ⟨h.1, fun j => ?_⟩
  by_cases hj : j < L0.size
  · have := List.all_eq_true.1 h.2 j (List.mem_range.2 hj)
    simpa using this
  · have h2 : ¬ j < Lend.size := by omega
    simp [Array.getD, hj, h2]
end
end Go.Proofs.Ytlakhcmbalcclaa
