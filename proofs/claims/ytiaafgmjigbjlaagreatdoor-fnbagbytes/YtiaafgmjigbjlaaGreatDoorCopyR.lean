/- Own text. A row that is copied: what append makes of an empty row and one that came in. -/
import Derived.Test.YtiaafgmjigbjlaaGreatDoorOwnF
import Derived.Test.YtiaafgmjigbjlaaGreatDoorToVS
import Derived.Handy
import Derived.Laws.AppendOwnNone
import Derived.Deep.AppendLies
import Derived.Deep.RegionHeld3
namespace Go.Proofs.YtiaafgmjigbjlaaGreatDoor
open Go.RowKit Go.Deep Go.ChangeShapes Go.WideShapes
set_option linter.unusedVariables false
/-- the cells of a row, in a list. -/
def rc (vs : List V3) : List Value := (List.range (vs.length * 3)).map (cf vs)
theorem rc_len (vs : List V3) : (rc vs).length = vs.length * 3 := by simp [rc]
theorem rc_one (vs : List V3) : ∀ u ∈ rc vs, u.oneCell' = true := by
  intro u hu
  obtain ⟨j, _, rfl⟩ := List.mem_map.1 hu
  unfold cf
  split
  · rfl
  · split <;> rfl
theorem rc_cells {w : World} {b o : Nat} {vs : List V3} (h : Lies w b o vs) : ∀ j u, (rc vs)[j]? = some u → w.cell? ((⟨b, o, none⟩ : Addr).add j) = some u := by
  intro j u hu
  have hj : j < vs.length * 3 := by have := (List.getElem?_eq_some_iff.1 hu).1; rwa [rc_len] at this
  have e : u = cf vs j := by simp [rc, hj] at hu; exact hu.symm
  rw [add_plain, e]
  exact lies_cells.1 h j hj
theorem own_rowF {w : World} {N n : Nat} {v : Value} {vs : List V3} {t : TypeId} (h : w.ownsRow N t 3 v n (rc vs)) : ∃ g, RowF w v vs g ∧ Own w N g := by
  obtain ⟨hl, h⟩ := h
  rw [rc_len] at hl
  obtain rfl : n = vs.length := by omega
  by_cases hne : vs = []
  · refine ⟨[], ?_, by simp [Own, Free]⟩
    subst hne
    rcases h with ⟨rfl, _⟩ | ⟨g, cap, cur, rfl, _, _, hn, hm, _⟩
    · exact ⟨none, 0, rfl, Nat.le_refl _, by simp, fun _ => rfl, fun _ => rfl, fun x => absurd rfl x⟩
    · exact ⟨_, cap, rfl, hn, hm, (fun x => by cases x), fun _ => rfl, fun x => absurd rfl x⟩
  have hp : 0 < vs.length := List.length_pos_iff.2 hne
  rcases h with ⟨_, h0⟩ | ⟨g, cap, cur, rfl, hg, hc, hn, hm, hs, ht⟩
  · omega
  have hlt : g < w.heap.size := by
    rcases Nat.lt_or_ge g w.heap.size with h' | h'
    · exact h'
    · simp [Array.getElem?_eq_none h'] at hc
  refine ⟨[g], ⟨_, cap, rfl, hn, hm, (fun x => by cases x), fun x => absurd x hne, fun _ => ⟨g, 0, rfl, hlt, rfl, lies_cells.2 fun j hj => ?_⟩⟩, by simp, by simpa using hg, fun b hb o => ?_⟩
  · rw [Nat.zero_add]
    simp only [World.cell?, hc]
    have h1 : (cur.toList.take (vs.length * 3))[j]? = some (cf vs j) := by rw [ht]; simp [rc, hj]
    rw [List.getElem?_take, if_pos hj, Array.getElem?_toList] at h1
    simpa using h1
  · rcases List.mem_singleton.1 hb with rfl
    simp [World.frozen?, hc]
theorem rowF_own_nil {w : World} : RowF w (.slice none 0 0) [] [] := ⟨none, 0, rfl, Nat.le_refl _, by simp, fun _ => rfl, fun _ => rfl, fun x => absurd rfl x⟩
theorem own_empty (w : World) (t : TypeId) (n : Nat) : (w.alloc (.cells #[] t)).ownsRow w.heap.size t n (.slice (some ⟨w.heap.size, 0, none⟩) 0 0) 0 [] :=
  ⟨by simp, .inr ⟨w.heap.size, 0, #[], rfl, Nat.le_refl _, heap_alloc_new w _, Nat.le_refl _, by simp, by simp, by simp⟩⟩
theorem own_none {w : World} {N H : Nat} (hH : w.heap.size = H) (hN : N ≤ H) (t : TypeId) (n : Nat) : (w.alloc (.cells #[] t)).ownsRow N t n (.slice (some ⟨H, 0, none⟩) 0 0) 0 [] := by
  subst hH
  exact ⟨by simp, .inr ⟨w.heap.size, 0, #[], rfl, hN, heap_alloc_new w _, Nat.le_refl _, by simp, by simp, by simp⟩⟩
set_option maxHeartbeats 1000000 in
set_option maxRecDepth 100000 in
theorem l02CopyRow_any (v : Value) (vs : List V3) (g0 : List Nat) (w : World) (hr : RowF w v vs g0) (hn : vs.length ≤ 1048576) :
    Calls Tryz.prog 66 #[v] w fun e w' => (∃ u g, e = .returned u ∧ RowF w' u vs g ∧ Own w' w.heap.size g) ∧ Below w.heap.size w w' := by
  obtain ⟨i0, hi, hz0, hz1, hz2⟩ := info_parts Tryz.infoVal
  obtain ⟨a, c, rfl, hl, hc, hz, _, h⟩ := hr
  have he := own_empty w 48 3
  have hb0 : Below w.heap.size w (w.alloc (.cells #[] 48)) := (Below.refl _ _).alloc (Nat.le_refl _) _
  cases a with
  | none =>
    obtain rfl := hz rfl
    obtain rfl : vs = [] := List.length_eq_zero_iff.1 (by omega)
    go_enter Tryz.func66, Tryz.ntmps66
    go_wp2
    go_returns
    obtain ⟨g, hg⟩ := own_rowF (vs := []) he
    first | exact ⟨⟨_, g, rfl, hg⟩, by repeat (first | (with_reducible exact Below.refl _ _) | (with_reducible refine Below.drew ?_) | (with_reducible refine Below.alloc ?_ ?hh _; case hh => first | (simp; done) | (simp; omega) | omega) | (with_reducible refine Below.setCell ?_ ?hh _; case hh => first | (simp; done) | (simp; omega) | omega) | refine bstep (by assumption) (by first | (simp; done) | (simp; omega) | omega) ?_)⟩ | exact ⟨⟨_, rfl, g, hg⟩, by repeat (first | (with_reducible exact Below.refl _ _) | (with_reducible refine Below.drew ?_) | (with_reducible refine Below.alloc ?_ ?hh _; case hh => first | (simp; done) | (simp; omega) | omega) | (with_reducible refine Below.setCell ?_ ?hh _; case hh => first | (simp; done) | (simp; omega) | omega) | refine bstep (by assumption) (by first | (simp; done) | (simp; omega) | omega) ?_)⟩
  | some ad =>
    have hcl : ∀ j u, (rc vs)[j]? = some u → (w.alloc (.cells #[] 48)).cell? (ad.add j) = some u := by
      by_cases hne : vs = []
      · subst hne; intro j u hu; simp [rc] at hu
      · obtain ⟨b, o, hb, hlt, _, hL⟩ := h hne
        cases hb
        exact rc_cells (hL.below hb0 hlt)
    go_enter Tryz.func66, Tryz.ntmps66
    go_wp2_with (at_builtin; refine wpList_append_own _ rfl _ _ 37 rfl w.heap.size 48 i0 _ 3 32 Tryz.underlying37 hi hz0 hz1 hz2 rfl (by decide) _ _ _ rfl he ad vs.length c (rc vs) rfl (rc_len vs) hcl (rc_one vs) ?c3 ?c4 ?c5 ?_)
    case c3 => unfold maxLen; omega
    case c4 => omega
    case c5 => simp
    intro v5 w5 hown5 hgr5 _
    obtain ⟨g, hg⟩ := own_rowF (vs := vs) (by simpa using hown5)
    have bel : Below w.heap.size w w5 := hb0.grown hgr5 (by simp) (fun k hk => by simp [Value.ownBlock] at hk; omega)
    clear hown5 hgr5 hcl he
    go_wp2
    go_returns
    exact ⟨⟨_, g, rfl, hg⟩, bel⟩
end Go.Proofs.YtiaafgmjigbjlaaGreatDoor
