/- Own text. Expressions of a list in a list of their own, their kids shared: the contract of slices.Clone. -/
import Derived.Test.YtjblljggmjbalaaExpO
import Derived.Handy
import Derived.Deep.AppendLies
import Derived.Lib.SliceRun
namespace Go.Proofs.Ytjblljggmjbalaa
open Go.RowKit Go.Deep Go.ChangeShapes Go.WideShapes
set_option linter.unusedVariables false
theorem ec_len {us : List Value} {es : List E7} (h : us.length = es.length) : (ec us es).length = es.length * 7 := by
  unfold ec
  induction us generalizing es with
  | nil => cases es with | nil => rfl | cons => simp at h
  | cons u us ih =>
    cases es with
    | nil => simp at h
    | cons c es =>
      have := ih (es := es) (by simpa using h)
      rw [List.zip_cons_cons, List.flatMap_cons, List.length_append, this]
      simp [c7]
      omega
theorem ec_one {us : List Value} {es : List E7} (h : ∀ u ∈ us, u.oneCell' = true) : ∀ u ∈ ec us es, u.oneCell' = true := by
  intro u hu
  unfold ec at hu
  obtain ⟨p, hp, hup⟩ := List.mem_flatMap.1 hu
  have h1 := h p.1 (List.of_mem_zip hp).1
  simp only [c7, List.mem_cons, List.not_mem_nil, or_false] at hup
  rcases hup with rfl | rfl | rfl | rfl | rfl | rfl | rfl <;> first | rfl | exact h1
/-- the cells of a list, and its kids' slices. -/
theorem KidsIs.flat {w : World} {d b o : Nat} {es : List E7} {G : List (List Nat)} (hG : G.length = es.length) (hL : ELies w d b o es G) :
    ∃ us : List Value, us.length = es.length ∧ (∀ (i : Nat) (e : E7) (u : Value) (g : List Nat), es[i]? = some e → us[i]? = some u → G[i]? = some g → e.wf ∧ KidsIs w d u e.ks g) ∧ (∀ u ∈ us, u.oneCell' = true) ∧ ∀ j u, (ec us es)[j]? = some u → w.cell? ((⟨b, o, none⟩ : Addr).add j) = some u := by
  have each : ∀ i, i < es.length → ∃ u : Value, ∀ (e : E7) (g : List Nat), es[i]? = some e → G[i]? = some g → e.wf ∧ cellsE w b (o + i * 7) e ∧ w.cell? ⟨b, o + i * 7 + 6, none⟩ = some u ∧ KidsIs w d u e.ks g := by
    intro i hi
    have hi' : i < G.length := by omega
    obtain ⟨hw, hc, u, hu, hk⟩ := hL i es[i] G[i] (by simp) (by simp)
    refine ⟨u, fun e g he hg => ?_⟩
    obtain rfl : es[i] = e := by simpa [hi] using he
    obtain rfl : G[i] = g := by simpa [hi'] using hg
    exact ⟨hw, hc, hu, hk⟩
  have : Inhabited Value := ⟨.slice none 0 0⟩
  obtain ⟨q, hq⟩ := choose_lt each
  have hul : ((List.range es.length).map q).length = es.length := by simp
  refine ⟨(List.range es.length).map q, hul, fun i e u g he hu hg => ?_, fun u hu => ?_, fun j u hu => ?_⟩
  · have hi : i < es.length := (List.getElem?_eq_some_iff.1 he).1
    obtain rfl : q i = u := by simpa [hi] using hu
    obtain ⟨hw, _, _, hk⟩ := hq i hi e g he hg
    exact ⟨hw, hk⟩
  · obtain ⟨i, hi, rfl⟩ := List.mem_map.1 hu
    have hi := List.mem_range.1 hi
    have hi' : i < G.length := by omega
    obtain ⟨_, _, _, hk⟩ := hq i hi es[i] G[i] (by simp) (by simp)
    obtain ⟨a, c, e, _⟩ := hk.shape
    rw [e]
    rfl
  · have hj : j < es.length * 7 := by have := (List.getElem?_eq_some_iff.1 hu).1; rwa [ec_len hul] at this
    have hi : j / 7 < es.length := by omega
    have hi' : j / 7 < G.length := by omega
    obtain ⟨_, ⟨c0, c1, c2, c3, c4, c5⟩, c6, _⟩ := hq (j / 7) hi es[j / 7] G[j / 7] (by simp) (by simp)
    have hat := ec_at hul (i := j / 7) (u := q (j / 7)) (e := es[j / 7]) (by simp [hi]) (by simp) (j % 7) (by omega)
    rw [show j / 7 * 7 + j % 7 = j from by omega, hu] at hat
    rw [add_plain]
    have hr : j % 7 = 0 ∨ j % 7 = 1 ∨ j % 7 = 2 ∨ j % 7 = 3 ∨ j % 7 = 4 ∨ j % 7 = 5 ∨ j % 7 = 6 := by omega
    rcases hr with e | e | e | e | e | e | e <;> rw [e] at hat <;> simp only [c7, List.getElem?_cons_zero, List.getElem?_cons_succ, Option.some.injEq] at hat <;> subst hat
    · rw [show o + j = o + j / 7 * 7 from by omega]; exact c0
    · rw [show o + j = o + j / 7 * 7 + 1 from by omega]; exact c1
    · rw [show o + j = o + j / 7 * 7 + 2 from by omega]; exact c2
    · rw [show o + j = o + j / 7 * 7 + 3 from by omega]; exact c3
    · rw [show o + j = o + j / 7 * 7 + 4 from by omega]; exact c4
    · rw [show o + j = o + j / 7 * 7 + 5 from by omega]; exact c5
    · rw [show o + j = o + j / 7 * 7 + 6 from by omega]; exact c6
set_option maxHeartbeats 1000000 in
set_option maxRecDepth 100000 in
theorem cloneE_nil (c : Nat) (w : World) : Calls Try.prog 24 #[.slice none 0 c] w fun e w' => e = .returned (.slice none 0 0) ∧ w' = w := by
  have hnil : ∀ (w : World) (a : Option Addr) (n c n' c' : Nat), (binOp .eql 28 (.slice a n c) (.slice none n' c')).run Try.prog w = .ok (.bool a.isNone) w := fun w a n c n' c' => Lib.run_eql_slice_nil w _ _ a n c n' c' Try.underlying28
  go_enter Try.func24, Try.ntmps24
  go_wp2
  go_returns
  first | done | exact ⟨rfl, rfl⟩ | rfl
set_option maxHeartbeats 2000000 in
set_option maxRecDepth 100000 in
theorem cloneE_any (d : Nat) (v : Value) (es : List E7) (F : List Nat) (w : World) (hr : KidsIs w (d + 1) v es F) (hn : es.length ≤ 1048576) :
    Calls Try.prog 24 #[v] w fun e w' => (∃ (u : Value) (us : List Value) (G : List (List Nat)), e = .returned u ∧ w'.ownsRow w.heap.size 32 7 u es.length (ec us es) ∧ us.length = es.length ∧ G.length = es.length ∧ (∀ (i : Nat) (e : E7) (u : Value) (g : List Nat), es[i]? = some e → us[i]? = some u → G[i]? = some g → e.wf ∧ KidsIs w d u e.ks g) ∧ (es ≠ [] → ∃ b, F = b :: G.flatten)) ∧ Below w.heap.size w w' := by
  obtain ⟨i0, hi, hz0, hz1, hz2⟩ := info_parts Try.infoExp
  obtain ⟨a, c, b, o, G, rfl, hl, hc, hG, _, ha⟩ := hr.pick
  clear hr
  have hnil : ∀ (w : World) (a : Option Addr) (n c n' c' : Nat), (binOp .eql 28 (.slice a n c) (.slice none n' c')).run Try.prog w = .ok (.bool a.isNone) w := fun w a n c n' c' => Lib.run_eql_slice_nil w _ _ a n c n' c' Try.underlying28
  have he := (ExpOwn.empty w d).own
  have hb0 : Below w.heap.size w (w.alloc (.cells #[] 32)) := (Below.refl _ _).alloc (Nat.le_refl _) _
  cases a with
  | none =>
    obtain rfl : es = [] := by
      cases es with
      | nil => rfl
      | cons x xs => have := (ha 0 (by simp)).1; cases this
    exact (cloneE_nil c w).mono fun e w' ⟨he, hw⟩ => ⟨⟨.slice none 0 0, [], G, he, ⟨rfl, .inl ⟨rfl, rfl⟩⟩, rfl, hG, fun i e u g he => by simp at he, fun h => absurd rfl h⟩, hw ▸ Below.refl _ _⟩
  | some ad =>
    have hfl : ∃ us : List Value, us.length = es.length ∧ (∀ (i : Nat) (e : E7) (u : Value) (g : List Nat), es[i]? = some e → us[i]? = some u → G[i]? = some g → e.wf ∧ KidsIs w d u e.ks g) ∧ (∀ u ∈ us, u.oneCell' = true) ∧ ∀ j u, (ec us es)[j]? = some u → (w.alloc (.cells #[] 32)).cell? (ad.add j) = some u := by
      by_cases hne : es = []
      · subst hne
        exact ⟨[], rfl, fun i e u g he => by simp at he, by simp, fun j u hu => by simp [ec] at hu⟩
      · obtain ⟨hb, hlt, _, hL⟩ := ha 0 (List.length_pos_iff.2 hne)
        cases hb
        obtain ⟨us, h1, h2, h3, h4⟩ := KidsIs.flat hG hL
        exact ⟨us, h1, h2, h3, fun j u hu => by rw [add_plain]; exact (cell_blk (Below.heap_alloc _ _ _ hlt)).trans (by have := h4 j u hu; rwa [add_plain] at this)⟩
    obtain ⟨us, hul, hkid, hone, hcl⟩ := hfl
    go_enter Try.func24, Try.ntmps24
    go_wp2_with (at_builtin; refine wpList_append_own _ rfl _ _ 28 rfl w.heap.size 32 i0 _ 7 88 Try.underlying28 hi hz0 hz1 hz2 rfl (by decide) _ _ _ rfl he ad es.length c (ec us es) rfl (ec_len hul) hcl (ec_one hone) ?c3 ?c4 ?c5 ?_)
    case c3 => unfold maxLen; simp; omega
    case c4 => simp; omega
    case c5 => simp
    intro v5 w5 hown5 hgr5 _
    have hown6 : w5.ownsRow w.heap.size 32 7 v5 es.length (ec us es) := by simpa [ec] using hown5
    have bel : Below w.heap.size w w5 := hb0.grown hgr5 (by simp) (fun k hk => by simp [Value.ownBlock] at hk; omega)
    clear hown5 hgr5 hcl he
    go_wp2
    go_returns
    exact ⟨⟨_, us, G, rfl, hown6, hul, hG, hkid, fun hne => ⟨b, (ha 0 (List.length_pos_iff.2 hne)).2.2.1⟩⟩, bel⟩
end Go.Proofs.Ytjblljggmjbalaa
