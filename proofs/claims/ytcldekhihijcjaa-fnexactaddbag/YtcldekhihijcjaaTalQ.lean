/- Own text. The contract of the tally's method ascending, as an iterator. -/
import Derived.Test.YtcldekhihijcjaaTalC
import Derived.Test.YtcldekhihijcjaaRngB
import Derived.Maps.RangeWalk
import Derived.RangeFuncBox
import Derived.Handy
namespace Go.Proofs.Ytcldekhihijcjaa
open Go.RowKit Go.Shelf
set_option linter.unusedVariables false
/-- the cells of collected rows. -/
def flatT {w : World} {b : Nat} (ss : List (RowT w b)) : List Value := ss.flatMap encT
theorem flatT_len {w : World} {b : Nat} (ss : List (RowT w b)) : (flatT ss).length = ss.length * 2 := by
  induction ss with
  | nil => rfl
  | cons x xs ih => unfold flatT at *; rw [List.flatMap_cons, List.length_append, ih, List.length_cons]; simp [encT]; omega
theorem flatT_snoc {w : World} {b : Nat} (ss : List (RowT w b)) (x : RowT w b) : flatT (ss ++ [x]) = flatT ss ++ [x.1.1, .int .i64 x.1.2.n] := by
  unfold flatT; rw [List.flatMap_append]; simp [encT]
theorem flatT_at {w : World} {b : Nat} : ∀ {ss : List (RowT w b)} {i : Nat} {x : RowT w b}, ss[i]? = some x → (flatT ss)[i * 2]? = some x.1.1 ∧ (flatT ss)[i * 2 + 1]? = some (.int .i64 x.1.2.n)
  | y :: ss, 0, x, h => by
    obtain rfl : y = x := by simpa using h
    constructor <;> simp [flatT, encT]
  | y :: ss, i + 1, x, h => by
    have ih := flatT_at (ss := ss) (i := i) (x := x) (by simpa using h)
    have e : flatT (y :: ss) = y.1.1 :: .int .i64 y.1.2.n :: flatT ss := by unfold flatT; rw [List.flatMap_cons]; rfl
    rw [e, show (i + 1) * 2 = i * 2 + 1 + 1 by omega]
    simpa using ih
theorem infoCntT : (Try.prog.info? 85).map (fun i => (i.zero, i.size, i.bytes)) = some (some (.agg #[.slice none 0 0, .int .i64 0]), 2, 32) := by kernel_rfl
structure VT where
  a : Option Addr
  l : Nat
  c : Nat
  n : Int
theorem own_cells {w : World} {N e n g cap : Nat} {xs : List Value} (h : w.ownsRow N e 2 (.slice (some ⟨g, 0, none⟩) n cap) n xs) : g < w.heap.size ∧ N ≤ g ∧ (∀ i u, xs[i]? = some u → w.cell? ⟨g, i, none⟩ = some u) ∧ ∀ o, w.frozen? ⟨g, o, none⟩ = false := by
  obtain ⟨hl, h⟩ := h
  rcases h with ⟨h, _⟩ | ⟨g', cap', cur, e1, hN, hb, h1, h2, h3, h4⟩
  · cases h
  · obtain ⟨rfl, rfl⟩ : g = g' ∧ cap = cap' := by injection e1 with e2 _ e3; injection e2 with e4; injection e4 with e5; exact ⟨e5, e3⟩
    refine ⟨(Array.getElem?_eq_some_iff.1 hb).1, hN, fun i u hu => ?_, fun o => by simp [World.frozen?, hb]⟩
    rw [← h4, List.getElem?_take] at hu
    split at hu
    · simp only [World.cell?, hb]
      simpa using hu
    · cases hu
set_option maxHeartbeats 8000000 in
set_option maxRecDepth 100000 in
theorem asc_seq (b n : Nat) (W : Int) (cs : List C2) (w : World) (hT : TalIs w b n W cs) (hn : n ≤ 4194304) (hW : W ≤ 1048576) :
    SeqAll Try.prog 60 (.map (some b)) (fun x : RowT w b => #[.agg #[x.1.1, .int .i64 x.1.2.n]]) 4194304 (fun xs => OrderedOf W cs (xs.map fun x => x.1.2)) w := by
  intro l J U hU hJ hY O hJ0 hO
  have hlb := hT.lt
  obtain ⟨D, hown0, hTD⟩ := hT
  have hown : U.ownsMap Try.prog 9 Rc b n D := hown0.kept (row := none) ⟨hU.os, hU.tape, hU.output, hU.size, fun k hk _ => hU.block k hk⟩ (by simp)
  have hsz := hown.size_le
  obtain ⟨i0, hi, hz0, hz1, hz2⟩ := info_parts infoCntT
  have hbU : b < U.heap.size := Nat.lt_of_lt_of_le hlb hU.size
  refine callsIn_wide.2 ?_
  go_enter Try.func60, Try.ntmps60
  go_wp2_with (first
    | (at_len; refine wpList_len_own _ rfl _ 55 rfl 9 85 Try.underlying55 _ b n D rfl hown ?_)
    | (at_make; refine wpList_make_own _ rfl _ _ 24 rfl U.heap.size 85 i0 _ 2 Try.underlying24 hi hz0 hz1 .i64 .i64 _ (Maps.size D) rfl rfl rfl (by rw [hz2]; omega) (by unfold maxLen; omega) (Nat.le_refl _) ?_; intro w1 hrow1 hg1)
    | (at_range; refine wpList_range_own _ rfl _ 55 rfl 9 85 (Maps.string_keyed Try.underlying9) Try.underlying55 _ b n D rfl (hown.kept hg1 (by simp)) ?_; intro w2 hrg2 hg2 hs2))
  have hs1 := hg1.size
  have hb2 : Below U.heap.size U w2 := ((Below.refl _ U).grown hg1 (Nat.le_refl _) (fun k e => by cases e)).grown hg2 hs1 (fun k e => by cases e)
  have hrow2 := ownsRow_keep hrow1 (fun k hk => hg2.block k (ownsRow_lt hrow1 k hk).2 (by simp))
  have invK : ∀ key kl, keyOf Try.prog 9 key = some kl → ∃ x : ByteArray, key = Value.string x := fun key kl h => by
    obtain ⟨s, e, _⟩ := WideMaps.string_of_keyOf Try.underlying9 h
    exact ⟨s, e⟩
  have invV : ∀ v y, Rc v = some y → ∃ p : VT, v = .agg #[.slice p.a p.l p.c, .int .i64 p.n] := fun v y h => by
    obtain ⟨a, l, c, m, e, _⟩ := Rc_inv h
    exact ⟨⟨a, l, c, m⟩, e⟩
  obtain ⟨r, hr⟩ : ∃ r, w1.heap.size = r := ⟨_, rfl⟩
  rw [hr] at hrg2 ⊢
  have hrU : U.heap.size ≤ r := by omega
  clear hrow1 hg1 hg2 hs2 hs1 hown hown0 hr hsz
  go_loopw [4] (fun y wr => ∃ (left : Lit → Bool) (cnt : Nat) (ss : List (RowT w b)) (g cap : Nat), y = .slice (some ⟨g, 0, none⟩) ss.length cap ∧ wr.ranges Try.prog 9 Rc b r n D left cnt ∧ wr.ownsRow U.heap.size 85 2 (.slice (some ⟨g, 0, none⟩) ss.length cap) ss.length (flatT ss) ∧ Below U.heap.size U wr ∧ Coll D W cs left ss ∧ ss.length + cnt ≤ n) (fun _ wr => wr.rangeLeft b r)
  case atStart => exact ⟨_, _, [], _, _, rfl, hrg2, hrow2, hb2, Coll.start hTD, by have := hrg2.owns.size_le; simpa using this⟩
  case round =>
    obtain ⟨left, cnt, ss, g, cap, rfl, hrg, hrow, hb, hC, hcn⟩ := hrel
    clear hrg2 hrow2 hb2
    obtain ⟨hgl, hgN, hcell, hfrz⟩ := own_cells hrow
    have hzb := hb.size
    have hgb : b ≠ g := by omega
    have hgr : r ≠ g := by
      rintro rfl
      obtain ⟨o, ho, hw⟩ := hrg.iter_walk
      rcases hrow.2 with ⟨e, _⟩ | ⟨g', _, cur, e, _, hc, _⟩
      · cases e
      · injection e with e1; injection e1 with e2; injection e2 with e3
        rw [← e3, ho] at hc
        cases hc; cases hw
    have hUs := hb.size
    go_wp2_with (first
      | (at_next; refine wpList_next_ranges _ rfl _ rfl 9 (Maps.string_keyed Try.underlying9) Rc (fun s : ByteArray => Value.string s) (fun p : VT => Value.agg #[.slice p.a p.l p.c, .int .i64 p.n]) invK invV b r n D left cnt rfl hrg (fun hc0 hl0 => ?_) (fun kx p kl y w3 cnt3 hkey hlk hRv hat hrg3 hlt3 hg3 hs3 hen => ?_))
      | (at_builtin; refine wpList_append_own _ rfl _ _ 24 rfl U.heap.size 85 i0 _ 2 32 Try.underlying24 hi hz0 hz1 hz2 rfl (by decide) (.slice (some ⟨g, 0, none⟩) ss.length cap) ss.length (flatT ss) rfl ?hown ⟨wr.heap.size + 1, 0, none⟩ 1 1 [.slice p.a p.l p.c, .int .i64 p.n] rfl rfl ?c1 ?c2 ?c3 ?c4 ?c5 ?_))
    case hown =>
      refine ownsRow_keep hrow fun k hk => ?_
      have h1 := ownsRow_lt hrow k hk
      rw [Below.heap_alloc _ _ _ (by simp; omega), Below.heap_alloc _ _ _ (by omega)]
      exact hg3.block k h1.2 (by simp only [Value.ownBlock, Option.some.injEq] at hk; subst hk; simp only [ne_eq, Option.some.injEq]; exact fun e => hgr e.symm)
    case c1 =>
      intro j' u hu
      match j', hu with
      | 0, hu => simp at hu; subst hu; go_simp
      | 1, hu => simp at hu; subst hu; go_simp
    case c2 => intro u hu; simp at hu; rcases hu with rfl | rfl <;> rfl
    case c3 => unfold maxLen; omega
    case c4 => omega
    case c5 => simp; omega
    · have hbw : Below b w wr := (hU.mono (Nat.le_of_lt hlb)).trans (hb.mono (Nat.le_of_lt hbU))
      have hsort := sortT_any w wr b g cap hbw (by omega) hgl ss (by omega) (fun i x hx => ⟨hcell _ _ (flatT_at hx).1, hcell _ _ (flatT_at hx).2⟩) hfrz
      refine Calls.mono hsort ?_
      rintro e w5 ⟨rfl, xs, hp, hs, hxc, ho1, ho2, ho3, hsz5, hbl5⟩
      have hord := hC.done hl0 hp hs
      have hxl : Hid (xs.length = ss.length) := hp.length_eq
      have hJ5 : J [] O w5 := hJ _ _ _ _ hJ0 ⟨ho1.trans hb.os, ho2.trans hb.tape, ho3.trans hb.output, Nat.le_trans hUs hsz5, fun k hk _ => (hbl5 k (by omega) (by omega)).trans (hb.block k hk)⟩
      have hg5 : g < w5.heap.size := by omega
      have hOg : ¬ O g := fun h => by have := hO g h; omega
      clear hsort hC hrow hcell hfrz hrg hp hs hbl5 ho1 ho2 ho3 hbw hc0 hl0
      go_wp2_with fail
      refine (wpIn_wide (n := 0)).1 ?_
      gi_loopw [26] (fun i wr => ∃ (k : Nat) (O2 : Nat → Prop), k ≤ ss.length ∧ i = .int .i64 k ∧ J (xs.take k) O2 wr ∧ wr.heap[g]? = w5.heap[g]? ∧ ¬ O2 g ∧ g < wr.heap.size) (fun i _ => ss.length - (intOf i).toNat)
      case atStart => exact ⟨0, O, Nat.zero_le _, rfl, hJ5, rfl, hOg, hg5⟩
      case round =>
        obtain ⟨k, O2, hk, rfl, hJk, hgk, hO2, hgl2⟩ := hrel
        by_cases hlt : k < ss.length
        · have hkx : k < xs.length := by rw [hxl.out]; exact hlt
          obtain ⟨x, hx⟩ : ∃ x, xs[k]? = some x := ⟨xs[k], by simp⟩
          have HT : Hid (xs.take (k + 1) = xs.take k ++ [x]) := take_snoc hx
          obtain ⟨c0, c1⟩ := hxc k x hx
          replace c0 := (cell_blk hgk).trans c0
          replace c1 := (cell_blk hgk).trans c1
          obtain ⟨⟨u, rr, nn⟩, hxB⟩ := x
          obtain ⟨ua, uc, hu⟩ : ∃ a c, u = .slice a rr.length c := by obtain ⟨⟨_, ⟨a, c, e, _⟩, _⟩, _⟩ := hxB; exact ⟨a, c, e⟩
          dsimp only at c0 c1
          subst hu
          have hJ1 := hJ _ _ _ (wr.alloc (.cells #[.slice ua rr.length uc, .int .i64 nn] 85)) hJk (SameOn.of_below ((Below.refl _ _).alloc (Nat.le_refl _) _))
          obtain ⟨fn, tmps, assign, body, hy, hR⟩ := hY _ _ ⟨(.slice ua rr.length uc, ⟨rr, nn⟩), hxB⟩ _ hJ1 (by rw [List.length_take]; omega)
          dsimp only at hy
          clear hJk hJ5 hJ0 hx hxc
          gi_wp2
          refine ⟨rfl, hR.mono ?_⟩
          rintro e W3 ⟨rfl, O3, hJ3, hkept, hO3⟩
          have hs3 := hkept.1
          simp only [World.size_alloc] at hs3
          have hg3 : W3.heap[g]? = w5.heap[g]? := (hkept.2 g (by simp; omega) hO2).trans ((Below.heap_alloc wr _ g hgl2).trans hgk)
          have hO3g : ¬ O3 g := fun h => by
            rcases hO3 g h with h | h
            · exact hO2 h
            · simp at h; omega
          clear hkept hO3 hR hy hJ1
          gi_wp2
          go_roundw
          case rel => exact ⟨k + 1, O3, hlt, by simp, by rw [HT.out]; exact hJ3, hg3, hO3g, by omega⟩
          case measure => simp [intOf]; omega
        · obtain rfl : k = ss.length := by omega
          rw [← hxl.out, List.take_length] at hJk
          clear hJ5 hJ0 hxc hY
          gi_wp2
          go_end0
          exact ⟨⟨_, rfl⟩, xs, O2, hord, hJk⟩
    · intro v4 w4 hown4 hgrow4 _
      obtain ⟨x, hx1, hx2, hC3⟩ := Coll.next hTD hW hC hlk (a := p.a) (l := p.l) (c := p.c) (m := p.n) (fun z => by rw [hat z]; have e := (Rc_mk p.a p.l p.c p.n).symm.trans hRv; exact (congrArg Prod.fst (Option.some.inj e)).symm)
      obtain ⟨g4, cap4, rfl⟩ := ownsRow_succ hown4
      have hlen : (ss ++ [x]).length = ss.length + 1 := by simp
      have hfl : flatT ss ++ [.slice p.a p.l p.c, .int .i64 p.n] = flatT (ss ++ [x]) := by rw [flatT_snoc, hx1, hx2]
      rw [hfl] at hown4
      have hrg4 := (((hrg3.alloc (.cells #[.slice p.a p.l p.c, .int .i64 p.n] 85)).alloc (.cells #[.slice p.a p.l p.c, .int .i64 p.n] 85)).kept hgrow4 (by simp [Value.ownBlock]; exact hgb) (by simp [Value.ownBlock]; exact hgr))
      have hb3 : Below U.heap.size U w3 := hb.grown hg3 hzb (fun k e => by simp at e; omega)
      have hb4 : Below U.heap.size U w4 := ((hb3.alloc (by omega) _).alloc (by simp; omega) _).grown hgrow4 (by simp; omega) (fun k e => by simp [Value.ownBlock] at e; omega)
      have hmold := hrg.left_eq
      clear hrow hcell hfrz hC hrg hrg3 hg3 hb3 hgrow4 hat hRv hkey
      go_wp2_with fail
      refine ⟨⟨_, cnt3, ss ++ [x], g4, cap4, by rw [hlen], hrg4, by rw [hlen]; exact hown4, hb4, hC3, by rw [hlen]; omega⟩, ?_⟩
      rw [hrg4.left_eq, hmold]
      exact hlt3
end Go.Proofs.Ytcldekhihijcjaa
