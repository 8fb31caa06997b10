/- Own text. The contracts of the helpers on bags: how much one weighs, one made anew, that one is the same as another one. -/
import Derived.Test.YtlobjpdkjlmglaaGreatRowC
import Derived.Test.YtlobjpdkjlmglaaGreatToVS
import Derived.Handy
import Derived.Deep.RegionHeld3
namespace Go.Proofs.YtlobjpdkjlmglaaGreat
open Go.RowKit
set_option linter.unusedVariables false
theorem RowsIs.pick {w : World} {v : Value} {cs : List C2} (h : RowsIs w v cs) :
    ∃ a c b o, v = .slice a cs.length c ∧ cs.length ≤ c ∧ c ≤ maxLen ∧ ∀ k, k < cs.length → a = some ⟨b, o, none⟩ ∧ b < w.heap.size ∧ CLies w b o cs := by
  obtain ⟨a, c, rfl, hl, hc, h⟩ := h
  by_cases hne : cs = []
  · exact ⟨a, c, 0, 0, rfl, hl, hc, fun k hk => by rw [hne] at hk; simp at hk⟩
  · obtain ⟨b, o, h⟩ := h hne
    exact ⟨a, c, b, o, rfl, hl, hc, fun _ _ => h⟩
theorem RowIs.shape {w : World} {v : Value} {vs : List V3} (h : RowIs w v vs) : ∃ a l c, v = .slice a l c := by
  obtain ⟨a, c, h, _⟩ := h
  exact ⟨a, _, c, h⟩
theorem RowsIs.shape {w : World} {v : Value} {cs : List C2} (h : RowsIs w v cs) : ∃ a l c, v = .slice a l c := by
  obtain ⟨a, c, h, _⟩ := h
  exact ⟨a, _, c, h⟩
theorem CLies.at {w w' : World} {b o : Nat} {cs : List C2} (h : CLies w b o cs) (hlt : b < w.heap.size) (hb : Below w.heap.size w w') {k : Nat} (hk : k < cs.length) :
    ∃ x v, cs[k]? = some x ∧ w'.cell? ⟨b, o + k * 2, none⟩ = some v ∧ RowIs w' v x.r ∧ w'.cell? ⟨b, o + k * 2 + 1, none⟩ = some (.int .i64 x.n) ∧ b < w'.heap.size := by
  obtain ⟨v, h0, h1, h2⟩ := h.below hb hlt k cs[k] (by simp [hk])
  exact ⟨cs[k], v, by simp [hk], h0, h1, h2, Nat.lt_of_lt_of_le hlt hb.size⟩
/-- what the rows of a bag weigh. -/
def wtcs (cs : List C2) : Nat := (cs.map fun x => wt x.r).sum
def wtb (cs : List C2) : Nat := cs.length + wtcs cs
theorem wtcs_take {cs : List C2} {k : Nat} {x : C2} (h : cs[k]? = some x) : wtcs (cs.take (k + 1)) = wtcs (cs.take k) + wt x.r := by
  unfold wtcs
  obtain ⟨hk, rfl⟩ := List.getElem?_eq_some_iff.1 h
  rw [List.take_succ_eq_append_getElem hk, List.map_append, List.sum_append]
  simp only [List.map_cons, List.map_nil, List.sum_cons, List.sum_nil, Nat.add_zero]
theorem wt_mem {cs : List C2} {x : C2} (h : x ∈ cs) : wt x.r ≤ wtcs cs := by
  unfold wtcs
  induction cs with
  | nil => cases h
  | cons y ys ih =>
    simp only [List.map_cons, List.sum_cons]
    rcases List.mem_cons.1 h with rfl | h
    · omega
    · have := ih h; omega
set_option maxHeartbeats 1000000 in
theorem eqCounted_same (v u : Value) (r : List V3) (n : Int) (w : World) (hr : RowIs w v r) (hu : RowIs w u r) :
    Calls Tryz.prog 148 #[.agg #[v, .int .i64 n], .agg #[u, .int .i64 n]] w fun e w' => e = .returned (.bool true) ∧ Below w.heap.size w w' := by
  have hb0 : ∀ o p, Below w.heap.size w ((w.alloc o).alloc p) := fun o p => ((Below.refl _ _).alloc (Nat.le_refl _) o).alloc (by simp) p
  go_enter Tryz.func148, Tryz.ntmps148
  go_wp2_with fail
  refine (eqValueS_same v u r _ (hr.below (hb0 _ _)) (hu.below (hb0 _ _))).mono ?_
  rintro e w1 ⟨rfl, hb1⟩
  have hz1 := hb1.size
  simp only [World.size_alloc] at hz1
  have q0 : w1.cell? ⟨w.heap.size, 1, none⟩ = some (.int .i64 n) := cell_later hb1 (by go_simp)
  have q1 : w1.cell? ⟨w.heap.size + 1, 1, none⟩ = some (.int .i64 n) := cell_later hb1 (by go_simp)
  go_wp2
  go_returns
  exact ⟨rfl, by repeat (first | exact Below.refl _ _ | refine Below.drew ?_ | refine Below.alloc ?_ (by first | (simp; done) | (simp; omega) | omega) _ | refine Below.setCell ?_ (by first | (simp; done) | (simp; omega) | omega) _ | refine bstep (by assumption) (by first | (simp; done) | (simp; omega) | omega) ?_)⟩
set_option maxHeartbeats 2000000 in
set_option maxRecDepth 100000 in
theorem eqCountedS_same (v u : Value) (cs : List C2) (w : World) (hr : RowsIs w v cs) (hu : RowsIs w u cs) :
    Calls Tryz.prog 144 #[v, u] w fun e w' => e = .returned (.bool true) ∧ Below w.heap.size w w' := by
  obtain ⟨a, c, b, o, rfl, hl, hc, ha⟩ := hr.pick
  obtain ⟨a', c', b', o', rfl, hl', hc', ha'⟩ := hu.pick
  unfold maxLen at hc hc'
  clear hr hu
  go_enter Tryz.func144, Tryz.ntmps144
  go_wp2
  go_loopw [5] (fun i wr => ∃ k : Nat, k ≤ cs.length ∧ i = .int .i64 k ∧ Below w.heap.size w wr) (fun i _ => cs.length - (intOf i).toNat)
  case atStart => exact ⟨0, Nat.zero_le _, rfl, by go_grown⟩
  case round =>
    obtain ⟨k, hk, rfl, hb⟩ := hrel
    by_cases hlt : k < cs.length
    · have hzb := hb.size
      obtain ⟨rfl, hblt, hL⟩ := ha k hlt
      obtain ⟨rfl, hblt', hL'⟩ := ha' k hlt
      obtain ⟨x, v, hx, c0, hR, c1, hbr⟩ := hL.at hblt hb hlt
      obtain ⟨x', u, hx', c0', hR', c1', hbr'⟩ := hL'.at hblt' hb hlt
      obtain rfl : x = x' := by rw [hx] at hx'; exact Option.some.inj hx'
      clear ha ha' hL hL' hx hx'
      go_wp2_with fail
      go_region_held3 (fun w' => w'.cell? ⟨b, o + k * 2, none⟩ = some v ∧ w'.cell? ⟨b, o + k * 2 + 1, none⟩ = some (.int .i64 x.n) ∧ w'.cell? ⟨b', o' + k * 2, none⟩ = some u ∧ w'.cell? ⟨b', o' + k * 2 + 1, none⟩ = some (.int .i64 x.n)) (refine ⟨?_, ?_, ?_, ?_⟩ <;> first | (go_simp; done) | (exact cell_later (by assumption) (by go_simp))) (first | (go_at_call 148; refine (eqCounted_same v u x.r x.n _ (hR.below (by repeat (first | exact Below.refl _ _ | refine Below.drew ?_ | refine Below.alloc ?_ (by first | (simp; done) | (simp; omega) | omega) _ | refine Below.setCell ?_ (by first | (simp; done) | (simp; omega) | omega) _ | refine bstep (by assumption) (by first | (simp; done) | (simp; omega) | omega) ?_))) (hR'.below (by repeat (first | exact Below.refl _ _ | refine Below.drew ?_ | refine Below.alloc ?_ (by first | (simp; done) | (simp; omega) | omega) _ | refine Below.setCell ?_ (by first | (simp; done) | (simp; omega) | omega) _ | refine bstep (by assumption) (by first | (simp; done) | (simp; omega) | omega) ?_)))).mono ?_; rintro e w1 ⟨rfl, hb1⟩))
      go_wp2
      go_roundw
      case rel => exact ⟨k + 1, hlt, by simp, by repeat (first | exact Below.refl _ _ | refine Below.drew ?_ | refine Below.alloc ?_ (by first | (simp; done) | (simp; omega) | omega) _ | refine Below.setCell ?_ (by first | (simp; done) | (simp; omega) | omega) _ | refine bstep (by assumption) (by first | (simp; done) | (simp; omega) | omega) ?_)⟩
      case measure => simp [intOf]; omega
    · go_wp2
      go_returns
      exact ⟨rfl, hb⟩
set_option maxHeartbeats 1000000 in
theorem eqBag_same (W : Int) (v u : Value) (cs : List C2) (w : World) (hr : RowsIs w v cs) (hu : RowsIs w u cs) :
    Calls Tryz.prog 136 #[.agg #[.int .i64 W, v], .agg #[.int .i64 W, u]] w fun e w' => e = .returned (.bool true) ∧ Below w.heap.size w w' := by
  have hb0 : ∀ o p, Below w.heap.size w ((w.alloc o).alloc p) := fun o p => ((Below.refl _ _).alloc (Nat.le_refl _) o).alloc (by simp) p
  go_enter Tryz.func136, Tryz.ntmps136
  go_wp2_with fail
  refine (eqCountedS_same v u cs _ (hr.below (hb0 _ _)) (hu.below (hb0 _ _))).mono ?_
  rintro e w1 ⟨rfl, hb1⟩
  have hz1 := hb1.size
  simp only [World.size_alloc] at hz1
  go_wp2
  go_returns
  exact ⟨rfl, by repeat (first | exact Below.refl _ _ | refine Below.drew ?_ | refine Below.alloc ?_ (by first | (simp; done) | (simp; omega) | omega) _ | refine Below.setCell ?_ (by first | (simp; done) | (simp; omega) | omega) _ | refine bstep (by assumption) (by first | (simp; done) | (simp; omega) | omega) ?_)⟩
end Go.Proofs.YtlobjpdkjlmglaaGreat
