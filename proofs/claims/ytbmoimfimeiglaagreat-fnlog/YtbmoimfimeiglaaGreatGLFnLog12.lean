/- Own texts, joined: contracts that the law's proof goes by. -/
import Derived.Test.YtbmoimfimeiglaaGreatGLFnLog2
import Derived.Test.YtbmoimfimeiglaaGreatGLFnLog4
import Derived.Handy
import Derived.Deep.RegionHeld3
import Derived.Test.YtbmoimfimeiglaaGreatGLFnLog7
import Derived.Test.YtbmoimfimeiglaaGreatGLFnLog9
import Derived.BigQuiet
namespace Go.Proofs.YtbmoimfimeiglaaGreat
open Go.RowKit
set_option linter.unusedVariables false
theorem RowsIs.pick {w : World} {v : Value} {cs : List C2} (h : RowsIs w v cs) :
    ∃ a c b o, v = .slice a cs.length c ∧ cs.length ≤ c ∧ c ≤ maxLen ∧ ∀ k, k < cs.length → a = some ⟨b, o, none⟩ ∧ b < w.heap.size ∧ CLies w b o cs := by
  obtain ⟨a, c, rfl, hl, hc, h⟩ := h
  by_cases hne : cs = []
  · exact ⟨a, c, 0, 0, rfl, hl, hc, fun k hk => by rw [hne] at hk; simp at hk⟩
  · obtain ⟨b, o, h⟩ := h hne
    exact ⟨a, c, b, o, rfl, hl, hc, fun _ _ => h⟩
theorem RowIs.shape {w : World} {v : Value} {vs : List V3} (h : RowIs w v vs) : ∃ a l c, v = .slice a l c := by
  obtain ⟨a, c, h, _⟩ := h
  exact ⟨a, _, c, h⟩
theorem RowsIs.shape {w : World} {v : Value} {cs : List C2} (h : RowsIs w v cs) : ∃ a l c, v = .slice a l c := by
  obtain ⟨a, c, h, _⟩ := h
  exact ⟨a, _, c, h⟩
theorem CLies.at {w w' : World} {b o : Nat} {cs : List C2} (h : CLies w b o cs) (hlt : b < w.heap.size) (hb : Below w.heap.size w w') {k : Nat} (hk : k < cs.length) :
    ∃ x v, cs[k]? = some x ∧ w'.cell? ⟨b, o + k * 2, none⟩ = some v ∧ RowIs w' v x.r ∧ w'.cell? ⟨b, o + k * 2 + 1, none⟩ = some (.int .i64 x.n) ∧ b < w'.heap.size := by
  obtain ⟨v, h0, h1, h2⟩ := h.below hb hlt k cs[k] (by simp [hk])
  exact ⟨cs[k], v, by simp [hk], h0, h1, h2, Nat.lt_of_lt_of_le hlt hb.size⟩
def wtcs (cs : List C2) : Nat := (cs.map fun x => wt x.r).sum
def wtb (cs : List C2) : Nat := cs.length + wtcs cs
end Go.Proofs.YtbmoimfimeiglaaGreat
namespace Go.Proofs.YtbmoimfimeiglaaGreat
open Go.RowKit
set_option linter.unusedVariables false
theorem neSame (k n : Int) (s : ByteArray) (w : World) : (binOp .neq 119 (.agg #[.int .i64 k, .int .i64 n, .string s]) (.agg #[.int .i64 k, .int .i64 n, .string s])).run Tryz.prog w = .ok (.bool false) w := by
  rw [neV]; simp
set_option maxHeartbeats 2000000 in
set_option maxRecDepth 100000 in
theorem sameRow_any (v u : Value) (vs : List V3) (w : World) (hr : RowIs w v vs) (hu : RowIs w u vs) :
    Calls Tryz.prog 104 #[v, u] w fun e w' => e = .returned (.bool true) ∧ Below w.heap.size w w' := by
  obtain ⟨a, c, b, o, rfl, hl, hc, ha⟩ := hr.pick
  obtain ⟨a', c', b', o', rfl, hl', hc', ha'⟩ := hu.pick
  unfold maxLen at hc hc'
  clear hr hu
  go_enter Tryz.func104, Tryz.ntmps104
  go_wp2
  go_loopw [5] (fun i wr => ∃ k : Nat, k ≤ vs.length ∧ i = .int .i64 k ∧ Below w.heap.size w wr) (fun i _ => vs.length - (intOf i).toNat)
  case atStart => exact ⟨0, Nat.zero_le _, rfl, by go_grown⟩
  case round =>
    obtain ⟨k, hk, rfl, hb⟩ := hrel
    by_cases hlt : k < vs.length
    · have hzb := hb.size
      obtain ⟨rfl, hblt, hL⟩ := ha k hlt
      obtain ⟨rfl, hblt', hL'⟩ := ha' k hlt
      obtain ⟨x, hx, c0, c1, c2, hbr⟩ := hL.at hblt hb hlt
      obtain ⟨x', hx', c0', c1', c2', hbr'⟩ := hL'.at hblt' hb hlt
      obtain rfl : x = x' := by rw [hx] at hx'; exact Option.some.inj hx'
      have q2 := neSame x.k x.n x.s
      clear ha ha' hL hL' hx hx'
      go_wp2_with fail
      go_quiet (fail)
      go_wp2
      go_roundw
      case rel => exact ⟨k + 1, hlt, by simp, ⟨hb.os, hb.tape, hb.output, hb.size, hb.block⟩⟩
      case measure => simp [intOf]; omega
    · go_wp2
      go_returns
      exact ⟨rfl, hb⟩
set_option maxHeartbeats 2000000 in
set_option maxRecDepth 100000 in
theorem sameBag_any (W : Int) (v u : Value) (cs : List C2) (w : World) (hr : RowsIs w v cs) (hu : RowsIs w u cs) :
    Calls Tryz.prog 74 #[.agg #[.int .i64 W, v], .agg #[.int .i64 W, u]] w fun e w' => e = .returned (.bool true) ∧ Below w.heap.size w w' := by
  obtain ⟨a, c, b, o, rfl, hl, hc, ha⟩ := hr.pick
  obtain ⟨a', c', b', o', rfl, hl', hc', ha'⟩ := hu.pick
  unfold maxLen at hc hc'
  clear hr hu
  go_enter Tryz.func74, Tryz.ntmps74
  go_wp2
  go_loopw [5] (fun i wr => ∃ k : Nat, k ≤ cs.length ∧ i = .int .i64 k ∧ Below w.heap.size w wr ∧ wr.cell? ⟨w.heap.size, 0, none⟩ = some (.int .i64 W) ∧ wr.cell? ⟨w.heap.size, 1, none⟩ = some (.slice a cs.length c) ∧ wr.cell? ⟨w.heap.size + 1, 0, none⟩ = some (.int .i64 W) ∧ wr.cell? ⟨w.heap.size + 1, 1, none⟩ = some (.slice a' cs.length c')) (fun i _ => cs.length - (intOf i).toNat)
  case atStart => exact ⟨0, Nat.zero_le _, rfl, bela, by go_simp, by go_simp, by go_simp, by go_simp⟩
  case round =>
    obtain ⟨k, hk, rfl, hb, b0, b1, b2, b3⟩ := hrel
    by_cases hlt : k < cs.length
    · have hzb := hb.size
      obtain ⟨rfl, hblt, hL⟩ := ha k hlt
      obtain ⟨rfl, hblt', hL'⟩ := ha' k hlt
      obtain ⟨x, v, hx, c0, hR, c1, hbr⟩ := hL.at hblt hb hlt
      obtain ⟨x', u, hx', c0', hR', c1', hbr'⟩ := hL'.at hblt' hb hlt
      obtain rfl : x = x' := by rw [hx] at hx'; exact Option.some.inj hx'
      clear ha ha' hL hL' hx hx'
      go_wp2_with fail
      go_region_held3 (fun w' => w'.cell? ⟨w.heap.size, 1, none⟩ = some (.slice (some ⟨b, o, none⟩) cs.length c) ∧ w'.cell? ⟨w.heap.size + 1, 1, none⟩ = some (.slice (some ⟨b', o', none⟩) cs.length c') ∧ w'.cell? ⟨b, o + k * 2, none⟩ = some v ∧ w'.cell? ⟨b, o + k * 2 + 1, none⟩ = some (.int .i64 x.n) ∧ w'.cell? ⟨b', o' + k * 2, none⟩ = some u ∧ w'.cell? ⟨b', o' + k * 2 + 1, none⟩ = some (.int .i64 x.n)) (refine ⟨?_, ?_, ?_, ?_, ?_, ?_⟩ <;> first | (go_simp; done) | (exact cell_later (by assumption) (by go_simp))) (first | (go_at_call 104; refine (sameRow_any v u x.r _ (hR.below (bela)) (hR'.below (bela))).mono ?_; rintro e w1 ⟨rfl, hb1⟩))
      go_wp2
      go_roundw
      case rel => exact ⟨k + 1, hlt, by simp, bela, cell_later (by assumption) (by go_simp), cell_later (by assumption) (by go_simp), cell_later (by assumption) (by go_simp), cell_later (by assumption) (by go_simp)⟩
      case measure => simp [intOf]; omega
    · go_wp2
      go_returns
      exact ⟨rfl, hb⟩
end Go.Proofs.YtbmoimfimeiglaaGreat
namespace Go.Proofs.YtbmoimfimeiglaaGreat
open Go.RowKit Go.Deep
set_option linter.unusedVariables false
theorem RowF.cells {w : World} {v : Value} {vs : List V3} {g : List Nat} (h : RowF w v vs g) :
    ∃ a c b o, v = .slice a vs.length c ∧ vs.length ≤ c ∧ c ≤ maxLen ∧ (a = none → c = 0) ∧ CellsAre w b o (vs.length * 3) (cf vs) ∧ (vs = [] → g = []) ∧ ∀ n, n < vs.length → a = some ⟨b, o, none⟩ ∧ b < w.heap.size ∧ g = [b] := by
  obtain ⟨a, c, rfl, hl, hc, hz, h0, h⟩ := h
  by_cases hne : vs = []
  · exact ⟨a, c, 0, 0, rfl, hl, hc, hz, by subst hne; intro j hj; simp at hj, h0, fun k hk => by rw [hne] at hk; simp at hk⟩
  · obtain ⟨b, o, rfl, hlt, hg, hL⟩ := h hne
    exact ⟨_, c, b, o, rfl, hl, hc, hz, lies_cells.1 hL, h0, fun _ _ => ⟨rfl, hlt, hg⟩⟩
def CLF (w : World) (b o : Nat) (cs : List C2) (G : List (List Nat)) : Prop :=
  ∀ i x g, cs[i]? = some x → G[i]? = some g → ∃ u, w.cell? ⟨b, o + i * 2, none⟩ = some u ∧ RowF w u x.r g ∧ w.cell? ⟨b, o + i * 2 + 1, none⟩ = some (.int .i64 x.n)
theorem RowsF.pick {w : World} {v : Value} {cs : List C2} {F : List Nat} (h : RowsF w v cs F) :
    ∃ a c b o G, v = .slice a cs.length c ∧ cs.length ≤ c ∧ c ≤ maxLen ∧ (a = none → c = 0) ∧ G.length = cs.length ∧ (cs = [] → F = []) ∧ CLF w b o cs G ∧ ∀ n, n < cs.length → a = some ⟨b, o, none⟩ ∧ b < w.heap.size ∧ F = b :: G.flatten := by
  obtain ⟨a, c, G, rfl, hl, hc, hz, hG, h0, h⟩ := h
  by_cases hne : cs = []
  · exact ⟨a, c, 0, 0, G, rfl, hl, hc, hz, hG, h0, fun i x g hx => by rw [hne] at hx; simp at hx, fun k hk => by rw [hne] at hk; simp at hk⟩
  · obtain ⟨b, o, rfl, hlt, hF, hL⟩ := h hne
    exact ⟨_, c, b, o, G, rfl, hl, hc, hz, hG, h0, hL, fun _ _ => ⟨rfl, hlt, hF⟩⟩
end Go.Proofs.YtbmoimfimeiglaaGreat
