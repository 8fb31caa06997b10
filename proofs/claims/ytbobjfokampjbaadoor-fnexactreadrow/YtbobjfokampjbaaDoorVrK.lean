/- Own text. Rows of values: held against each other, marked, in memory of their own. -/
import Derived.Test.YtbobjfokampjbaaDoorOwnF
import Derived.Test.YtbobjfokampjbaaDoorEqV
import Derived.Test.YtbobjfokampjbaaDoorMarkT
import Derived.Handy
import Derived.Laws.AppendOwnNone
import Derived.Deep.AppendLies
import Derived.Deep.RegionHeld3
namespace Go.Proofs.YtbobjfokampjbaaDoor
open Go.RowKit Go.Deep Go.ChangeShapes Go.WideShapes
set_option linter.unusedVariables false
set_option maxHeartbeats 2000000 in
set_option maxRecDepth 100000 in
theorem eqValueS_same (v u : Value) (vs : List V3) (w : World) (hr : RowIs w v vs) (hu : RowIs w u vs) :
    Calls Tryd.prog 6 #[v, u] w fun e w' => e = .returned (.bool true) ∧ Below w.heap.size w w' := by
  obtain ⟨a, c, b, o, rfl, hl, hc, ha⟩ := hr.pick
  obtain ⟨a', c', b', o', rfl, hl', hc', ha'⟩ := hu.pick
  unfold maxLen at hc hc'
  clear hr hu
  go_enter Tryd.func6, Tryd.ntmps6
  go_wp2
  go_loopw [5] (fun i wr => ∃ k : Nat, k ≤ vs.length ∧ i = .int .i64 k ∧ Below w.heap.size w wr) (fun i _ => vs.length - (intOf i).toNat)
  case atStart => exact ⟨0, Nat.zero_le _, rfl, by go_grown⟩
  case round =>
    obtain ⟨k, hk, rfl, hb⟩ := hrel
    by_cases hlt : k < vs.length
    · have hzb := hb.size
      obtain ⟨rfl, hblt, hL⟩ := ha k hlt
      obtain ⟨rfl, hblt', hL'⟩ := ha' k hlt
      obtain ⟨x, hx, c0, c1, c2, hbr⟩ := hL.at hblt hb hlt
      obtain ⟨x', hx', c0', c1', c2', hbr'⟩ := hL'.at hblt' hb hlt
      obtain rfl : x = x' := by rw [hx] at hx'; exact Option.some.inj hx'
      clear ha ha' hL hL' hx hx'
      go_wp2_with fail
      go_region_held3 (fun w' => w'.cell? ⟨b, o + k * 3, none⟩ = some (.int .i64 x.k) ∧ w'.cell? ⟨b, o + k * 3 + 1, none⟩ = some (.int .i64 x.n) ∧ w'.cell? ⟨b, o + k * 3 + 2, none⟩ = some (.string x.s) ∧ w'.cell? ⟨b', o' + k * 3, none⟩ = some (.int .i64 x.k) ∧ w'.cell? ⟨b', o' + k * 3 + 1, none⟩ = some (.int .i64 x.n) ∧ w'.cell? ⟨b', o' + k * 3 + 2, none⟩ = some (.string x.s)) (refine ⟨?_, ?_, ?_, ?_, ?_, ?_⟩ <;> first | (go_simp; done) | (exact cell_later (by assumption) (by go_simp))) (first | (go_at_call 13; refine (eqValue_same _ _ _ _).mono ?_; rintro e w1 ⟨rfl, hb1⟩))
      go_wp2
      go_roundw
      case rel => exact ⟨k + 1, hlt, by simp, by repeat (first | exact Below.refl _ _ | refine Below.drew ?_ | refine Below.alloc ?_ (by first | (simp; done) | (simp; omega) | omega) _ | refine Below.setCell ?_ (by first | (simp; done) | (simp; omega) | omega) _ | refine bstep (by assumption) (by first | (simp; done) | (simp; omega) | omega) ?_)⟩
      case measure => simp [intOf]; omega
    · go_wp2
      go_returns
      exact ⟨rfl, hb⟩
theorem RowF.cells {w : World} {v : Value} {vs : List V3} {g : List Nat} (h : RowF w v vs g) :
    ∃ a c b o, v = .slice a vs.length c ∧ vs.length ≤ c ∧ c ≤ maxLen ∧ (a = none → c = 0) ∧ CellsAre w b o (vs.length * 3) (cf vs) ∧ (vs = [] → g = []) ∧ ∀ n, n < vs.length → a = some ⟨b, o, none⟩ ∧ b < w.heap.size ∧ g = [b] := by
  obtain ⟨a, c, rfl, hl, hc, hz, h0, h⟩ := h
  by_cases hne : vs = []
  · exact ⟨a, c, 0, 0, rfl, hl, hc, hz, by subst hne; intro j hj; simp at hj, h0, fun k hk => by rw [hne] at hk; simp at hk⟩
  · obtain ⟨b, o, rfl, hlt, hg, hL⟩ := h hne
    exact ⟨_, c, b, o, rfl, hl, hc, hz, lies_cells.1 hL, h0, fun _ _ => ⟨rfl, hlt, hg⟩⟩
theorem RowIs.shape' {w : World} {v : Value} {vs : List V3} (h : RowIs w v vs) : ∃ a c, v = .slice a vs.length c ∧ vs.length ≤ c ∧ c ≤ maxLen := by
  obtain ⟨a, c, h, h1, h2, _⟩ := h
  exact ⟨a, c, h, h1, h2⟩
theorem RowF.mk {w w' : World} {v : Value} {vs us : List V3} {g : List Nat} {a : Option Addr} {c b o : Nat} (hs : w.heap.size ≤ w'.heap.size) (hl : us.length = vs.length) (hv : v = .slice a vs.length c) (hlc : vs.length ≤ c) (hc : c ≤ maxLen) (hz : a = none → c = 0) (h0 : vs = [] → g = []) (ha : ∀ n, n < vs.length → a = some ⟨b, o, none⟩ ∧ b < w.heap.size ∧ g = [b])
    (hC : CellsAre w' b o (us.length * 3) (cf us)) : RowF w' v us g := by
  refine ⟨a, c, by rw [hl]; exact hv, by omega, hc, hz, fun e => h0 (by have := congrArg List.length e; rw [hl] at this; exact List.length_eq_zero_iff.1 this), fun hne => ?_⟩
  have hp : 0 < vs.length := by rw [← hl]; exact List.length_pos_iff.2 hne
  obtain ⟨e, hlt, hg⟩ := ha 0 hp
  exact ⟨b, o, e, by omega, hg, lies_cells.2 hC⟩
/-- the values of a row that is marked from k on. -/
def mV (k : Nat) (vs : List V3) : List V3 := vs.mapIdx fun j _ => ⟨((k + 3 * j : Nat) : Int), ((k + 3 * j + 1 : Nat) : Int), mt ((k + 3 * j + 2 : Nat) : Int)⟩
theorem mV_len (k : Nat) (vs : List V3) : (mV k vs).length = vs.length := by simp [mV]
theorem mV_at {k i : Nat} {vs : List V3} (hi : i < vs.length) : (mV k vs)[i]? = some ⟨((k + 3 * i : Nat) : Int), ((k + 3 * i + 1 : Nat) : Int), mt ((k + 3 * i + 2 : Nat) : Int)⟩ := by
  simp [mV, hi]
/-- a row whose first i values are marked. -/
def half (k i : Nat) (vs : List V3) (j : Nat) : Value := if j < i * 3 then cf (mV k vs) j else cf vs j
theorem half_step {w w2 : World} {b o k i : Nat} {vs : List V3} (hi : i < vs.length) (h : CellsAre w b o (vs.length * 3) (half k i vs))
    (h2 : w2.heap[b]? = ((w.setCell ⟨b, o + i * 3, none⟩ (.int .i64 ((k + 3 * i : Nat) : Int))).setCell ⟨b, o + i * 3 + 1, none⟩ (.int .i64 ((k + 3 * i + 1 : Nat) : Int))).heap[b]?) :
    CellsAre (w2.setCell ⟨b, o + i * 3 + 2, none⟩ (.string (mt ((k + 3 * i + 2 : Nat) : Int)))) b o (vs.length * 3) (half k (i + 1) vs) := by
  have h1 := (h.put (j0 := i * 3) (by omega) rfl (.int .i64 ((k + 3 * i : Nat) : Int))).put (j0 := i * 3 + 1) (q := o + i * 3 + 1) (by omega) (by omega) (.int .i64 ((k + 3 * i + 1 : Nat) : Int))
  refine ((h1.keep h2).put (j0 := i * 3 + 2) (q := o + i * 3 + 2) (by omega) (by omega) _).congr fun j hj => ?_
  obtain ⟨e0, e1, e2⟩ := cf_at (mV_at (k := k) hi)
  unfold half
  by_cases a2 : j = i * 3 + 2
  · subst a2; rw [if_pos rfl, if_pos (by omega), e2]
  by_cases a1 : j = i * 3 + 1
  · subst a1; rw [if_neg a2, if_pos rfl, if_pos (by omega), e1]
  by_cases a0 : j = i * 3
  · subst a0; rw [if_neg a2, if_neg a1, if_pos rfl, if_pos (by omega), e0]
  rw [if_neg a2, if_neg a1, if_neg a0]
  by_cases hlt : j < i * 3
  · rw [if_pos hlt, if_pos (by omega)]
  · rw [if_neg hlt, if_neg (by omega)]
set_option maxHeartbeats 2000000 in
set_option maxRecDepth 100000 in
theorem markValueS_any (k : Nat) (v : Value) (vs : List V3) (g : List Nat) (w : World) (hr : RowF w v vs g) (hf : Free w g) (h0 : 0 < k) (h1 : k + 3 * vs.length ≤ 999999990) :
    Calls Tryd.prog 7 #[v, .int .i64 k] w fun e w' => e = .returned (.int .i64 ((k + 3 * vs.length : Nat) : Int)) ∧ RowF w' v (mV k vs) g ∧ Chg g w w' := by
  obtain ⟨a, c, b, o, rfl, hl, hc, hz, hC, hg0, ha⟩ := hr.cells
  have hlt0 := hr.lt
  have hcm := hc
  unfold maxLen at hc
  clear hr
  go_enter Tryd.func7, Tryd.ntmps7
  go_wp2
  go_loopw [1, 5] (fun kk i wr => ∃ n : Nat, n ≤ vs.length ∧ i = .int .i64 n ∧ kk = .int .i64 ((k + 3 * n : Nat) : Int) ∧ CellsAre wr b o (vs.length * 3) (half k n vs) ∧ Chg g w wr) (fun _ i _ => vs.length - (intOf i).toNat)
  case atStart => exact ⟨0, Nat.zero_le _, rfl, rfl, hC.congr (fun j hj => by unfold half; rw [if_neg (by omega)]), Chg.refl _ _⟩
  case round =>
    obtain ⟨n, hn, rfl, rfl, hH, hch⟩ := hrel
    by_cases hlt : n < vs.length
    · obtain ⟨rfl, hblt, rfl⟩ := ha n hlt
      have hzb := hch.size
      have hbr : b < wr.heap.size := by omega
      have hfr : ∀ i, wr.frozen? ⟨b, i, none⟩ = false := hch.free hf b (by simp)
      have c0 : wr.cell? ⟨b, o + n * 3, none⟩ = some (half k n vs (n * 3)) := hH _ (by omega)
      have c1 : wr.cell? ⟨b, o + n * 3 + 1, none⟩ = some (half k n vs (n * 3 + 1)) := hH (n * 3 + 1) (by omega)
      have c2 : wr.cell? ⟨b, o + n * 3 + 2, none⟩ = some (half k n vs (n * 3 + 2)) := hH (n * 3 + 2) (by omega)
      generalize half k n vs (n * 3) = y0 at c0
      generalize half k n vs (n * 3 + 1) = y1 at c1
      generalize half k n vs (n * 3 + 2) = y2 at c2
      clear ha hC
      have e0 : ((k + 3 * n : Nat) : Int) = (k : Int) + 3 * (n : Int) := by omega
      have e1 : ((k + 3 * n + 1 : Nat) : Int) = (k : Int) + 3 * (n : Int) + 1 := by omega
      have e2 : ((k + 3 * n + 2 : Nat) : Int) = (k : Int) + 3 * (n : Int) + 1 + 1 := by omega
      have hM := fun w => markText_any (k + 3 * n + 2) w (by omega) (by omega)
      have hS := fun w2 => half_step (w2 := w2) hlt hH
      rw [e2] at hM
      simp only [e0, e1, e2] at hS
      clear e0 e1 e2 hH
      go_wp2_with fail
      refine Calls.mono (hM _) ?_
      rintro x w2 ⟨rfl, hb2⟩
      have hz2 := hb2.size
      simp only [World.size_setCell] at hz2
      have hS2 := hS w2 (hb2.block b (by simpa using hbr))
      have q2 : w2.cell? ⟨b, o + n * 3 + 2, none⟩ = some y2 := cell_later hb2 (by go_simp)
      have hfr2 : ∀ i, w2.frozen? ⟨b, i, none⟩ = false := fun i => ((bcell hb2).2 b i (by simpa using hbr)).trans (by simpa using hfr i)
      have hch2 : Chg [b] w w2 := ((hch.setCell (p := ⟨b, _, none⟩) (by simp) _).setCell (p := ⟨b, _, none⟩) (by simp) _).trans (Chg.of_below hb2 (by simpa using hbr))
      clear hS hM hb2 hch hf hfr c0 c1 c2
      go_wp2
      exact ⟨⟨n + 1, hlt, by simp, by congr 1, hS2, hch2.setCell (p := ⟨b, _, none⟩) (by simp) _⟩, by simp [intOf]; omega⟩
    · go_wp2
      go_returns
      obtain rfl : n = vs.length := by omega
      refine ⟨rfl, RowF.mk hch.size (mV_len k vs) rfl hl hcm hz hg0 ha ?_, hch⟩
      rw [mV_len]
      exact hH.congr fun j hj => by unfold half; rw [if_pos hj]
set_option maxHeartbeats 2000000 in
set_option maxRecDepth 100000 in
theorem heldValueS_any (k : Nat) (v : Value) (vs : List V3) (w : World) (hr : RowIs w v (mV k vs)) (h0 : 0 < k) (h1 : k + 3 * vs.length ≤ 999999990) :
    Calls Tryd.prog 8 #[v, .int .i64 k] w fun e w' => e = .returned (.int .i64 ((k + 3 * vs.length : Nat) : Int)) ∧ Below w.heap.size w w' := by
  obtain ⟨a, c, b, o, rfl, hl, hc, ha⟩ := hr.pick
  rw [mV_len] at hl ha
  rw [mV_len]
  unfold maxLen at hc
  clear hr
  go_enter Tryd.func8, Tryd.ntmps8
  go_wp2
  go_loopw [1, 5] (fun kk i wr => ∃ n : Nat, n ≤ vs.length ∧ i = .int .i64 n ∧ kk = .int .i64 ((k + 3 * n : Nat) : Int) ∧ Below w.heap.size w wr) (fun _ i _ => vs.length - (intOf i).toNat)
  case atStart => exact ⟨0, Nat.zero_le _, rfl, rfl, by go_grown⟩
  case round =>
    obtain ⟨n, hn, rfl, rfl, hb⟩ := hrel
    by_cases hlt : n < vs.length
    · obtain ⟨rfl, hblt, hL⟩ := ha n hlt
      have hzb := hb.size
      have hbr : b < wr.heap.size := by omega
      obtain ⟨c0, c1, c2⟩ := hL.below hb hblt n _ (mV_at hlt)
      have e0 : ((k + 3 * n : Nat) : Int) = (k : Int) + 3 * (n : Int) := by omega
      have e1 : ((k + 3 * n + 1 : Nat) : Int) = (k : Int) + 3 * (n : Int) + 1 := by omega
      have e2 : ((k + 3 * n + 2 : Nat) : Int) = (k : Int) + 3 * (n : Int) + 1 + 1 := by omega
      have hM := fun w => markText_any (k + 3 * n + 2) w (by omega) (by omega)
      rw [e2] at hM c2
      rw [e0] at c0
      rw [e1] at c1
      clear e0 e1 e2 ha hL
      go_wp2_with fail
      go_region_with (first | (go_at_call 14; refine (hM _).mono ?_; rintro x w2 ⟨rfl, hb2⟩; have hz2 := hb2.size; (try simp at hz2); have q2 : w2.cell? ⟨b, o + n * 3 + 2, none⟩ = some (.string (mt ((k : Int) + 3 * (n : Int) + 1 + 1))) := cell_later hb2 (by go_simp)))
      all_goals go_wp2
      all_goals exact ⟨⟨n + 1, hlt, by simp, by congr 1, by repeat (first | (with_reducible exact Below.refl _ _) | (with_reducible refine Below.drew ?_) | (with_reducible refine Below.alloc ?_ ?hh _; case hh => first | (simp; done) | (simp; omega) | omega) | (with_reducible refine Below.setCell ?_ ?hh _; case hh => first | (simp; done) | (simp; omega) | omega) | refine bstep (by assumption) (by first | (simp; done) | (simp; omega) | omega) ?_)⟩, by simp [intOf]; omega⟩
    · go_wp2
      go_returns
      obtain rfl : n = vs.length := by omega
      exact ⟨rfl, hb⟩
/-- the cells of a row, in a list. -/
def rc (vs : List V3) : List Value := (List.range (vs.length * 3)).map (cf vs)
theorem rc_len (vs : List V3) : (rc vs).length = vs.length * 3 := by simp [rc]
theorem rc_one (vs : List V3) : ∀ u ∈ rc vs, u.oneCell' = true := by
  intro u hu
  obtain ⟨j, _, rfl⟩ := List.mem_map.1 hu
  unfold cf
  split
  · rfl
  · split <;> rfl
theorem rc_cells {w : World} {b o : Nat} {vs : List V3} (h : Lies w b o vs) : ∀ j u, (rc vs)[j]? = some u → w.cell? ((⟨b, o, none⟩ : Addr).add j) = some u := by
  intro j u hu
  have hj : j < vs.length * 3 := by have := (List.getElem?_eq_some_iff.1 hu).1; rwa [rc_len] at this
  have e : u = cf vs j := by simp [rc, hj] at hu; exact hu.symm
  rw [add_plain, e]
  exact lies_cells.1 h j hj
theorem own_rowF {w : World} {N n : Nat} {v : Value} {vs : List V3} {t : TypeId} (h : w.ownsRow N t 3 v n (rc vs)) : ∃ g, RowF w v vs g ∧ Own w N g := by
  obtain ⟨hl, h⟩ := h
  rw [rc_len] at hl
  obtain rfl : n = vs.length := by omega
  by_cases hne : vs = []
  · refine ⟨[], ?_, by simp [Own, Free]⟩
    subst hne
    rcases h with ⟨rfl, _⟩ | ⟨g, cap, cur, rfl, _, _, hn, hm, _⟩
    · exact ⟨none, 0, rfl, Nat.le_refl _, by simp, fun _ => rfl, fun _ => rfl, fun x => absurd rfl x⟩
    · exact ⟨_, cap, rfl, hn, hm, (fun x => by cases x), fun _ => rfl, fun x => absurd rfl x⟩
  have hp : 0 < vs.length := List.length_pos_iff.2 hne
  rcases h with ⟨_, h0⟩ | ⟨g, cap, cur, rfl, hg, hc, hn, hm, hs, ht⟩
  · omega
  have hlt : g < w.heap.size := by
    rcases Nat.lt_or_ge g w.heap.size with h' | h'
    · exact h'
    · simp [Array.getElem?_eq_none h'] at hc
  refine ⟨[g], ⟨_, cap, rfl, hn, hm, (fun x => by cases x), fun x => absurd x hne, fun _ => ⟨g, 0, rfl, hlt, rfl, lies_cells.2 fun j hj => ?_⟩⟩, by simp, by simpa using hg, fun b hb o => ?_⟩
  · rw [Nat.zero_add]
    simp only [World.cell?, hc]
    have h1 : (cur.toList.take (vs.length * 3))[j]? = some (cf vs j) := by rw [ht]; simp [rc, hj]
    rw [List.getElem?_take, if_pos hj, Array.getElem?_toList] at h1
    simpa using h1
  · rcases List.mem_singleton.1 hb with rfl
    simp [World.frozen?, hc]
theorem rowF_own_nil {w : World} : RowF w (.slice none 0 0) [] [] := ⟨none, 0, rfl, Nat.le_refl _, by simp, fun _ => rfl, fun _ => rfl, fun x => absurd rfl x⟩
theorem own_empty (w : World) (t : TypeId) (n : Nat) : (w.alloc (.cells #[] t)).ownsRow w.heap.size t n (.slice (some ⟨w.heap.size, 0, none⟩) 0 0) 0 [] :=
  ⟨by simp, .inr ⟨w.heap.size, 0, #[], rfl, Nat.le_refl _, heap_alloc_new w _, Nat.le_refl _, by simp, by simp, by simp⟩⟩
theorem own_none {w : World} {N H : Nat} (hH : w.heap.size = H) (hN : N ≤ H) (t : TypeId) (n : Nat) : (w.alloc (.cells #[] t)).ownsRow N t n (.slice (some ⟨H, 0, none⟩) 0 0) 0 [] := by
  subst hH
  exact ⟨by simp, .inr ⟨w.heap.size, 0, #[], rfl, hN, heap_alloc_new w _, Nat.le_refl _, by simp, by simp, by simp⟩⟩
theorem ownsRow_lt {w : World} {N e n s : Nat} {v : Value} {xs : List Value} (h : w.ownsRow N e s v n xs) : ∀ b, v.ownBlock = some b → N ≤ b ∧ b < w.heap.size := by
  intro b hb
  rcases h.2 with ⟨rfl, _⟩ | ⟨g, cap, cur, rfl, hg, hc, _⟩
  · simp [Value.ownBlock] at hb
  · simp [Value.ownBlock] at hb
    subst hb
    refine ⟨hg, ?_⟩
    rcases Nat.lt_or_ge g w.heap.size with h' | h'
    · exact h'
    · simp [Array.getElem?_eq_none h'] at hc
theorem ownsRow_keep {w w' : World} {N e n s : Nat} {v : Value} {xs : List Value} (h : w.ownsRow N e s v n xs) (hb : ∀ b, v.ownBlock = some b → w'.heap[b]? = w.heap[b]?) : w'.ownsRow N e s v n xs := by
  refine ⟨h.1, ?_⟩
  rcases h.2 with hn | ⟨g, cap, cur, rfl, hg, hc, rest⟩
  · exact .inl hn
  · exact .inr ⟨g, cap, cur, rfl, hg, (hb g rfl).trans hc, rest⟩
end Go.Proofs.YtbobjfokampjbaaDoor
