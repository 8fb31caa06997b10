/- Own text. A counted row that is copied: the contract of impl.copyCounted. -/
import Derived.Test.YtooeohhkcemoiaaCopyR
import Derived.Handy
import Derived.Deep.DrawnRows
namespace Go.Proofs.Ytooeohhkcemoiaa
open Go.RowKit Go.Deep
set_option linter.unusedVariables false
attribute [local go_sem ↓] Go.wp_at_zero Go.wp_at_succ
set_option maxHeartbeats 2000000 in
set_option maxRecDepth 100000 in
theorem copyCounted_some (ad : Addr) (c : Nat) (vs : List V3) (n : Int) (w : World) (hl : vs.length ≤ c) (hc : c ≤ maxLen) (hn : vs.length ≤ 1048576) (hne : vs ≠ []) (hcl : ∀ j u, (rc vs)[j]? = some u → ∀ w', Below w.heap.size w w' → w'.cell? (ad.add j) = some u) :
    Calls Try.prog 54 #[.agg #[.slice (some ad) vs.length c, .int .i64 n]] w fun e w' => (∃ u g, e = .returned (.agg #[u, .int .i64 n]) ∧ RowF w' u vs g ∧ Own w' w.heap.size g) ∧ Below w.heap.size w w' := by
  obtain ⟨i0, hi, hz0, hz1, hz2⟩ := info_parts Try.infoVal
  have hp : 0 < vs.length := List.length_pos_iff.2 hne
  have hml : 0 + vs.length ≤ maxLen := by omega
  have hby : (0 + vs.length) * 32 ≤ 140737488355328 := by omega
  go_enter Try.func54, Try.ntmps54
  go_wp2_with fail
  go_region_held3 (fun w' => w'.cell? ⟨w.heap.size, 0, none⟩ = some (.slice (some ad) vs.length c) ∧ w'.cell? ⟨w.heap.size, 1, none⟩ = some (.int .i64 n))
    (first
      | go_keep
      | (go_split_ands
         refine ⟨?_, ?_⟩
         · (rw [hgrow.cell_far _ (by simp; omega) (by simp [Value.ownBlock]; try omega)]; assumption)
         · (rw [hgrow.cell_far _ (by simp; omega) (by simp [Value.ownBlock]; try omega)]; assumption)))
    ((refine step_append_lies _ (by rfl) _ _ _ (by rfl) (w.heap.size + 1 + 1) 66 i0 _ 3 32 Try.underlying51 hi hz0 hz1 hz2 rfl (by omega) (.slice (some ⟨w.heap.size + 1 + 1, 0, none⟩) 0 0) 0 [] (by rfl) (own_none (by simp) (Nat.le_refl _) 66 3)
        ad vs.length c (rc vs) (by rfl) (rc_len vs) (fun j u h => hcl j u h _ (by repeat (first | (with_reducible exact Below.refl _ _) | (with_reducible refine Below.drew ?_) | (with_reducible refine Below.alloc ?_ ?hh _; case hh => first | (simp; done) | (simp; omega) | omega) | (with_reducible refine Below.setCell ?_ ?hh _; case hh => first | (simp; done) | (simp; omega) | omega) | refine bstep (by assumption) (by first | (simp; done) | (simp; omega) | omega) ?_))) (rc_one vs) hp hml hby (by simp) (w.heap.size + 1 + 1 + 1) (by simp) ?_; intro g cap w1 hown1 hgrow hat hlt; have hsg := hgrow.size; simp at hsg; have r0 : w1.cell? ⟨w.heap.size + 1, 0, none⟩ = some (.slice none 0 0) := (hgrow.cell_far _ (by simp; try omega) (by simp [Value.ownBlock]; try omega)).trans (by go_simp); have r1 : w1.cell? ⟨w.heap.size + 1, 1, none⟩ = some (.int .i64 0) := (hgrow.cell_far _ (by simp; try omega) (by simp [Value.ownBlock]; try omega)).trans (by go_simp); have rf : ∀ o, w1.frozen? ⟨w.heap.size + 1, o, none⟩ = false := fun o => (hgrow.frozen_far _ (by simp; try omega) (by simp [Value.ownBlock]; try omega)).trans (by go_simp)))
  obtain ⟨g', hR, hO⟩ := own_rowF (vs := vs) (show w1.ownsRow (w.heap.size + 1 + 1) 66 3 (.slice (some ⟨g, 0, none⟩) (0 + vs.length) cap) (0 + vs.length) (rc vs) from hown1)
  have bel1 : Below w.heap.size w w1 := Below.grown (by repeat (first | (with_reducible exact Below.refl _ _) | (with_reducible refine Below.drew ?_) | (with_reducible refine Below.alloc ?_ ?hh _; case hh => first | (simp; done) | (simp; omega) | omega) | (with_reducible refine Below.setCell ?_ ?hh _; case hh => first | (simp; done) | (simp; omega) | omega) | refine bstep (by assumption) (by first | (simp; done) | (simp; omega) | omega) ?_)) hgrow (by simp; omega) (fun k hk => by simp [Value.ownBlock] at hk; omega)
  have hb' : ∀ b ∈ g', b ≠ w.heap.size + 1 := fun b hb => by have := hO.2.1 b hb; omega
  clear hown1 hgrow hat hcl
  go_wp2
  refine bodyPost_ret (v := .agg #[.slice (some ⟨g, 0, none⟩) (0 + vs.length) cap, .int .i64 n]) (by simp [results, Try.results54, go_sem, *]) rfl ⟨⟨_, g', rfl, hR.keep (by simp) fun b hb => ?_, ⟨hO.1, fun b hb => by have := hO.2.1 b hb; omega, fun b hb o => by simpa using hO.2.2 b hb o⟩⟩, ?_⟩
  · repeat rw [Below.heap_setCell _ _ _ _ (hb' b hb)]
  · repeat (first | (with_reducible exact bel1) | (with_reducible refine Below.setCell ?_ ?hh _; case hh => (simp; try omega)))
set_option maxHeartbeats 2000000 in
set_option maxRecDepth 100000 in
theorem copyCounted_none (n : Int) (w : World) :
    Calls Try.prog 54 #[.agg #[.slice none 0 0, .int .i64 n]] w fun e w' => (∃ u g, e = .returned (.agg #[u, .int .i64 n]) ∧ RowF w' u [] g ∧ Own w' w.heap.size g) ∧ Below w.heap.size w w' := by
  go_enter Try.func54, Try.ntmps54
  go_wp2_with fail
  go_region_held3 (fun w' => w'.cell? ⟨w.heap.size, 0, none⟩ = some (.slice none 0 0) ∧ w'.cell? ⟨w.heap.size, 1, none⟩ = some (.int .i64 n)) (go_keep) (fail)
  go_wp2
  refine bodyPost_ret (v := .agg #[.slice (some ⟨w.heap.size + 1 + 1, 0, none⟩) 0 0, .int .i64 n]) (by simp [results, Try.results54, go_sem, *]) rfl ⟨⟨_, [], rfl, ⟨_, 0, rfl, Nat.le_refl _, by simp, fun _ => rfl, fun _ => rfl, fun x => absurd rfl x⟩, by simp [Own, Free]⟩, ?_⟩
  repeat (first | (with_reducible exact Below.refl _ _) | (with_reducible refine Below.drew ?_) | (with_reducible refine Below.alloc ?_ ?hh _; case hh => first | (simp; done) | (simp; omega) | omega) | (with_reducible refine Below.setCell ?_ ?hh _; case hh => first | (simp; done) | (simp; omega) | omega) | refine bstep (by assumption) (by first | (simp; done) | (simp; omega) | omega) ?_)
set_option maxHeartbeats 2000000 in
set_option maxRecDepth 100000 in
theorem copyCounted_zero (ad : Addr) (c : Nat) (n : Int) (w : World) (hc : c ≤ maxLen) :
    Calls Try.prog 54 #[.agg #[.slice (some ad) 0 c, .int .i64 n]] w fun e w' => (∃ u g, e = .returned (.agg #[u, .int .i64 n]) ∧ RowF w' u [] g ∧ Own w' w.heap.size g) ∧ Below w.heap.size w w' := by
  go_enter Try.func54, Try.ntmps54
  go_wp2_with fail
  go_region_held3 (fun w' => w'.cell? ⟨w.heap.size, 0, none⟩ = some (.slice (some ad) 0 c) ∧ w'.cell? ⟨w.heap.size, 1, none⟩ = some (.int .i64 n)) (go_keep) (fail)
  go_wp2
  refine bodyPost_ret (v := .agg #[.slice (some ⟨w.heap.size + 1 + 1, 0, none⟩) 0 0, .int .i64 n]) (by simp [results, Try.results54, go_sem, *]) rfl ⟨⟨_, [], rfl, ⟨_, 0, rfl, Nat.le_refl _, by simp, fun _ => rfl, fun _ => rfl, fun x => absurd rfl x⟩, by simp [Own, Free]⟩, ?_⟩
  repeat (first | (with_reducible exact Below.refl _ _) | (with_reducible refine Below.drew ?_) | (with_reducible refine Below.alloc ?_ ?hh _; case hh => first | (simp; done) | (simp; omega) | omega) | (with_reducible refine Below.setCell ?_ ?hh _; case hh => first | (simp; done) | (simp; omega) | omega) | refine bstep (by assumption) (by first | (simp; done) | (simp; omega) | omega) ?_)
theorem copyCounted_any (v : Value) (vs : List V3) (g0 : List Nat) (n : Int) (w : World) (hr : RowF w v vs g0) (hn : vs.length ≤ 1048576) :
    Calls Try.prog 54 #[.agg #[v, .int .i64 n]] w fun e w' => (∃ u g, e = .returned (.agg #[u, .int .i64 n]) ∧ RowF w' u vs g ∧ Own w' w.heap.size g) ∧ Below w.heap.size w w' := by
  obtain ⟨a, c, rfl, hl, hc, hz, _, h⟩ := hr
  by_cases hne : vs = []
  · subst hne
    cases a with
    | none => obtain rfl := hz rfl; exact copyCounted_none n w
    | some ad => exact copyCounted_zero ad c n w hc
  · obtain ⟨b, o, rfl, hlt, _, hL⟩ := h hne
    exact copyCounted_some ⟨b, o, none⟩ c vs n w hl hc hn hne fun j u hu w' hb => rc_cells (hL.below hb hlt) j u hu
end Go.Proofs.Ytooeohhkcemoiaa
