/- Own text. The contract of slices.Clone of expressions, cell by cell. -/
import Derived.Test.YtjblljggmjbalaaReE
import Derived.Handy
import Derived.Deep.AppendLies
import Derived.Lib.SliceRun
namespace Go.Proofs.Ytjblljggmjbalaa
open Go.RowKit Go.Deep Go.ChangeShapes Go.WideShapes
set_option linter.unusedVariables false
set_option maxHeartbeats 2000000 in
set_option maxRecDepth 100000 in
theorem cloneR_any (d : Nat) (v : Value) (es : List E7) (w : World) (h : RE w (d + 1) v es) (hn : es.length ≤ 2097152) :
    Calls Try.prog 24 #[v] w fun e w' => (∃ u, e = .returned u ∧ ClOf w' w.heap.size v u es.length) ∧ Below w.heap.size w w' := by
  obtain ⟨F, hr⟩ := h.kids
  obtain ⟨i0, hi, hz0, hz1, hz2⟩ := info_parts Try.infoExp
  obtain ⟨a, c, b, o, G, rfl, hl, hc, hG, _, ha⟩ := hr.pick
  clear hr h
  have hnil : ∀ (w : World) (a : Option Addr) (n c n' c' : Nat), (binOp .eql 28 (.slice a n c) (.slice none n' c')).run Try.prog w = .ok (.bool a.isNone) w := fun w a n c n' c' => Lib.run_eql_slice_nil w _ _ a n c n' c' Try.underlying28
  have he := (ExpOwn.empty w d).own
  have hb0 : Below w.heap.size w (w.alloc (.cells #[] 32)) := (Below.refl _ _).alloc (Nat.le_refl _) _
  cases a with
  | none =>
    obtain rfl : es = [] := by
      cases es with
      | nil => rfl
      | cons x xs => have := (ha 0 (by simp)).1; cases this
    exact (cloneE_nil c w).mono fun e w' ⟨he, hw⟩ => ⟨⟨.slice none 0 0, he, .inl ⟨rfl, none, 0, rfl, Nat.zero_le _⟩⟩, hw ▸ Below.refl _ _⟩
  | some ad =>
    have hfl : ∃ us : List Value, us.length = es.length ∧ (∀ u ∈ us, u.oneCell' = true) ∧ (∀ j u, (ec us es)[j]? = some u → (w.alloc (.cells #[] 32)).cell? (ad.add j) = some u) ∧ (es ≠ [] → ad = ⟨b, o, none⟩ ∧ b < w.heap.size ∧ ∀ j u, (ec us es)[j]? = some u → w.cell? ⟨b, o + j, none⟩ = some u) := by
      by_cases hne : es = []
      · subst hne
        exact ⟨[], rfl, by simp, fun j u hu => by simp [ec] at hu, fun h => absurd rfl h⟩
      · obtain ⟨hb, hlt, _, hL⟩ := ha 0 (List.length_pos_iff.2 hne)
        cases hb
        obtain ⟨us, h1, h2, h3, h4⟩ := KidsIs.flat hG hL
        have h5 : ∀ j u, (ec us es)[j]? = some u → w.cell? ⟨b, o + j, none⟩ = some u := fun j u hu => by have := h4 j u hu; rwa [add_plain] at this
        exact ⟨us, h1, h3, fun j u hu => by rw [add_plain]; exact (cell_blk (Below.heap_alloc _ _ _ hlt)).trans (h5 j u hu), fun _ => ⟨rfl, hlt, h5⟩⟩
    obtain ⟨us, hul, hone, hcl, hold⟩ := hfl
    go_enter Try.func24, Try.ntmps24
    go_wp2_with (at_builtin; refine wpList_append_own _ rfl _ _ 28 rfl w.heap.size 32 i0 _ 7 88 Try.underlying28 hi hz0 hz1 hz2 rfl (by decide) _ _ _ rfl he ad es.length c (ec us es) rfl (ec_len hul) hcl (ec_one hone) ?c3 ?c4 ?c5 ?_)
    case c3 => unfold maxLen; simp; omega
    case c4 => simp; omega
    case c5 => simp
    intro v5 w5 hown5 hgr5 _
    have hown6 : w5.ownsRow w.heap.size 32 7 v5 es.length (ec us es) := by simpa [ec] using hown5
    have bel : Below w.heap.size w w5 := hb0.grown hgr5 (by simp) (fun k hk => by simp [Value.ownBlock] at hk; omega)
    have hcl5 : ClOf w5 w.heap.size (.slice (some ad) es.length c) v5 es.length := by
      have hlt5 := ownsE_lt hown6
      rcases hown6.2 with ⟨rfl, h0⟩ | ⟨g, cap, cur, rfl, hg, hcc, hn', hm, hsz, ht⟩
      · exact .inl ⟨h0, none, 0, rfl, Nat.zero_le _⟩
      · by_cases hne : es = []
        · left
          subst hne
          exact ⟨rfl, _, cap, rfl, hm⟩
        · right
          obtain ⟨rfl, hbl, hcell⟩ := hold hne
          refine ⟨b, o, c, g, cap, rfl, rfl, hg, (hlt5 g rfl).2, hn', hm, fun q => by simp [World.frozen?, hcc], fun j hj => ?_⟩
          have hj' : j < (ec us es).length := by rw [ec_len hul]; exact hj
          obtain ⟨x, h1⟩ : ∃ x, (ec us es)[j]? = some x := ⟨(ec us es)[j], by simp [hj']⟩
          rw [(cell_blk (bel.block b hbl)).trans (hcell j _ h1)]
          simp only [World.cell?, hcc]
          rw [← ht, List.getElem?_take, if_pos hj, Array.getElem?_toList] at h1
          simpa using h1
    clear hown5 hgr5 hcl he hown6 hold ha
    go_wp2
    refine bodyPost_ret (v := v5) (by simp [results, Try.results24, go_sem]) rfl ⟨⟨v5, rfl, hcl5⟩, bel⟩
end Go.Proofs.Ytjblljggmjbalaa
