/- Own texts, joined: contracts that the law's proof goes by. -/
import Derived.Test.YtooeohhkcemoiaaPutP
import Derived.Test.YtooeohhkcemoiaaMLChangeOk1
import Derived.Test.YtooeohhkcemoiaaToB
import Derived.Test.YtooeohhkcemoiaaLastE
import Derived.Test.YtooeohhkcemoiaaTake
import Derived.Handy
import Derived.Deep.RegionHeld3
import Derived.Deep.QuietTactic
import Derived.BigQuiet
import Derived.Test.YtooeohhkcemoiaaClfA
/- Own text. The contract of spec.l02Put: a bag of the caller's own, with a row so much more often. -/
namespace Go.Proofs.Ytooeohhkcemoiaa
open Go.RowKit Go.Deep Go.ChangeShapes Go.WideShapes
set_option linter.unusedVariables false
theorem BagOwn.cellsX {w : World} {N : Nat} {v : Value} {cs : List C2} {us : List Value} {G : List (List Nat)} (h : BagOwn w N v cs us G) {i : Nat} {x : C2} (hx : cs[i]? = some x) :
    ∃ g cap u gg, v = .slice (some ⟨g, 0, none⟩) cs.length cap ∧ cs.length ≤ cap ∧ cap ≤ maxLen ∧ N ≤ g ∧ g < w.heap.size ∧ us[i]? = some u ∧ G[i]? = some gg ∧ w.cell? ⟨g, i * 2, none⟩ = some u ∧ w.cell? ⟨g, i * 2 + 1, none⟩ = some (.int .i64 x.n) ∧ RowF w u x.r gg ∧ ∀ q, w.frozen? ⟨g, q, none⟩ = false := by
  have hi : i < cs.length := (List.getElem?_eq_some_iff.1 hx).1
  have hiu : i < us.length := by rw [h.ul]; exact hi
  have hig : i < G.length := by rw [h.gl]; exact hi
  have hlt := ownsRow_lt h.own
  obtain ⟨hl, ho⟩ := h.own
  rcases ho with ⟨_, h0⟩ | ⟨g, cap, cur, rfl, hg, hc, hn, hm, hs, ht⟩
  · omega
  obtain ⟨e0, e1⟩ := cc_at h.ul (i := i) (u := us[i]) (x := x) (by simp) hx
  have get : ∀ j u, j < cs.length * 2 → (cc us cs)[j]? = some u → w.cell? ⟨g, j, none⟩ = some u := by
    intro j u hj hu
    simp only [World.cell?, hc]
    rw [← ht, List.getElem?_take, if_pos hj, Array.getElem?_toList] at hu
    simpa using hu
  exact ⟨g, cap, us[i], G[i], rfl, hn, hm, hg, (hlt g rfl).2, by simp, by simp, get _ _ (by omega) e0, get _ _ (by omega) e1, h.row i x us[i] G[i] hx (by simp) (by simp), fun q => by simp [World.frozen?, hc]⟩
set_option maxHeartbeats 4000000 in
set_option maxRecDepth 100000 in
theorem l02Put_any (wd n : Int) (v rv : Value) (cs : List C2) (us : List Value) (G : List (List Nat)) (row : List V3) (g0 : List Nat) (N : Nat) (w : World) (hB : BagOwn w N v cs us G) (hr : RowF w rv row g0) (hA : Asc cs) (hN : N ≤ w.heap.size) (hl : cs.length ≤ 2097152) (hrl : row.length ≤ 1048576) (hn0 : -1000000000000000000 ≤ n) (hn1 : n ≤ 1000000000000000000) (hc : ∀ c ∈ cs, -4000000000000000000 ≤ c.n ∧ c.n ≤ 4000000000000000000) (P : List C2) (hP : Hid (putC cs row n = P)) :
    Calls Try.prog 28 #[.agg #[.int .i64 wd, v], rv, .int .i64 n] w (PutOut w N wd v G P) := by
  obtain ⟨av, cv, rfl⟩ := hB.shape
  have hcv : cs.length ≤ cv ∧ cv ≤ 9223372036854775807 := by
    rcases hB.own.2 with ⟨e, h0⟩ | ⟨g, cap, cur, e, _, _, h1, h2, _⟩
    · injection e with _ _ e3; omega
    · injection e with _ _ e3; unfold maxLen at h2; omega
  have hr0 := hr
  obtain ⟨ar, cr, rfl, _, _, _⟩ := hr
  go_enter Try.func28, Try.ntmps28
  go_wp2_with fail
  go_region_held3 (fun w' => w'.cell? ⟨w.heap.size, 1, none⟩ = some (.slice av cs.length cv)) (go_simp) (fail)
  go_wp2_with fail
  go_loopw [7, 8] (fun l h wr => ∃ lo hi : Nat, l = .int .i64 lo ∧ h = .int .i64 hi ∧ lo ≤ ahead cs row ∧ ahead cs row ≤ hi ∧ hi ≤ cs.length ∧ Below w.heap.size w wr ∧ w.heap.size + 1 < wr.heap.size ∧ wr.cell? ⟨w.heap.size, 0, none⟩ = some (.int .i64 wd) ∧ wr.cell? ⟨w.heap.size, 1, none⟩ = some (.slice av cs.length cv) ∧ (∀ q, wr.frozen? ⟨w.heap.size, q, none⟩ = false) ∧ wr.cell? ⟨w.heap.size + 1, 0, none⟩ = some (.int .i64 0) ∧ wr.cell? ⟨w.heap.size + 1, 1, none⟩ = some (.slice none 0 0) ∧ (∀ q, wr.frozen? ⟨w.heap.size + 1, q, none⟩ = false)) (fun l h _ => (intOf h).toNat - (intOf l).toNat)
  case atStart => exact ⟨0, cs.length, rfl, rfl, Nat.zero_le _, ahead_le _ _, Nat.le_refl _, by repeat (first | (with_reducible exact Below.refl _ _) | (with_reducible refine Below.drew ?_) | (with_reducible refine Below.alloc ?_ ?hh _; case hh => first | (simp; done) | (simp; omega) | omega) | (with_reducible refine Below.setCell ?_ ?hh _; case hh => first | (simp; done) | (simp; omega) | omega) | refine bstep (by assumption) (by first | (simp; done) | (simp; omega) | omega) ?_), by simp, by go_simp, by go_simp, fun q => by go_simp, by go_simp, by go_simp, fun q => by go_simp⟩
  case round =>
    obtain ⟨lo, hi, rfl, rfl, h1, h2, h3, hb, hz, b0, b1, bf, t0, t1, tf⟩ := hrel
    have hzb := hb.size
    by_cases hlt : lo < hi
    · obtain ⟨mid, hmid⟩ : ∃ m, m = (lo + hi) / 2 := ⟨_, rfl⟩
      have hm1 : lo ≤ mid := by omega
      have hm2 : mid < hi := by omega
      have hq : (((lo : Int) + (hi : Int)).tdiv 2) = (mid : Int) := by
        rw [Int.tdiv_eq_ediv_of_nonneg (by omega)]
        omega
      obtain ⟨x, hx⟩ : ∃ x, cs[mid]? = some x := ⟨cs[mid]'(by omega), by simp⟩
      obtain ⟨g, cap, u, gg, hv, _, _, hgN, hgl, hu, hgg, c0, c1, hR, _⟩ := hB.cellsX hx
      injection hv with e1 _ e3
      subst e1 e3
      have d0 := (hb.cell (p := ⟨g, _, none⟩) hgl).trans c0
      have hgr : g < wr.heap.size := by omega
      have hmI : (mid : Int) < cs.length := by omega
      have hmI0 : (0 : Int) ≤ mid := by omega
      have hiff := ahead_lt (row := row) hA hx
      clear hx c0 c1 hmid
      by_cases hcmp : cmpRow x.r row < 0
      · have hd : decide (cmpRow x.r row < 0) = true := by simpa using hcmp
        have hah := hiff.2 hcmp
        go_wp2_with fail
        refine Calls.mono (specRow_any u (.slice ar row.length cr) x.r row wr (hR.is.below hb) (hr0.is.below hb)) ?_
        rintro z w1 ⟨rfl, hb1⟩
        have hz1 := hb1.size
        have hbw1 : Below w.heap.size w w1 := hb.trans (hb1.mono hb.size)
        have B0 := ((bcell hb1).1 _ _ (show w.heap.size < wr.heap.size by omega)).trans b0
        have B1 := ((bcell hb1).1 _ _ (show w.heap.size < wr.heap.size by omega)).trans b1
        have BF : ∀ q, w1.frozen? ⟨w.heap.size, q, none⟩ = false := fun q => ((bcell hb1).2 _ q (show w.heap.size < wr.heap.size by omega)).trans (bf q)
        have T0 := ((bcell hb1).1 _ _ hz).trans t0
        have T1 := ((bcell hb1).1 _ _ hz).trans t1
        have TF : ∀ q, w1.frozen? ⟨w.heap.size + 1, q, none⟩ = false := fun q => ((bcell hb1).2 _ q hz).trans (tf q)
        clear hb1 b0 b1 bf t0 t1 tf
        go_wp2
        exact ⟨⟨mid + 1, hi, by simp, rfl, hah, h2, h3, hbw1, by omega, B0, B1, BF, T0, T1, TF⟩, by simp [intOf]; omega⟩
      · have hd : decide (cmpRow x.r row < 0) = false := by simpa using hcmp
        have hah : ahead cs row ≤ mid := by
          rcases Nat.lt_or_ge mid (ahead cs row) with h | h
          · exact absurd (hiff.1 h) hcmp
          · exact h
        go_wp2_with fail
        refine Calls.mono (specRow_any u (.slice ar row.length cr) x.r row wr (hR.is.below hb) (hr0.is.below hb)) ?_
        rintro z w1 ⟨rfl, hb1⟩
        have hz1 := hb1.size
        have hbw1 : Below w.heap.size w w1 := hb.trans (hb1.mono hb.size)
        have B0 := ((bcell hb1).1 _ _ (show w.heap.size < wr.heap.size by omega)).trans b0
        have B1 := ((bcell hb1).1 _ _ (show w.heap.size < wr.heap.size by omega)).trans b1
        have BF : ∀ q, w1.frozen? ⟨w.heap.size, q, none⟩ = false := fun q => ((bcell hb1).2 _ q (show w.heap.size < wr.heap.size by omega)).trans (bf q)
        have T0 := ((bcell hb1).1 _ _ hz).trans t0
        have T1 := ((bcell hb1).1 _ _ hz).trans t1
        have TF : ∀ q, w1.frozen? ⟨w.heap.size + 1, q, none⟩ = false := fun q => ((bcell hb1).2 _ q hz).trans (tf q)
        clear hb1 b0 b1 bf t0 t1 tf
        go_wp2
        exact ⟨⟨lo, mid, rfl, rfl, h1, hah, by omega, hbw1, by omega, B0, B1, BF, T0, T1, TF⟩, by simp [intOf]; omega⟩
    · have hlo : lo = ahead cs row := by omega
      cases hx : cs[lo]? with
      | none =>
        have hll : cs.length = lo := by have := List.getElem?_eq_none_iff.1 hx; omega
        have hPi : P = if n ≠ 0 then cs.take lo ++ (⟨row, n⟩ : C2) :: cs.drop lo else cs := by rw [← hP.out]; unfold putC; rw [← hlo, hx]
        have hll2 : decide ((lo : Int) < cs.length) = false := by simp; omega
        by_cases hn : n ≠ 0
        · have hPn : Hid (P = cs.take lo ++ (⟨row, n⟩ : C2) :: cs.drop lo) := by rw [if_pos hn] at hPi; exact hPi
          have B0 := b0
          have B1 := b1
          have BF := bf
          have T0 := t0
          have T1 := t1
          have TF := tf
          have hbw1 := hb
          have hB1 := hB.below hb
          have hlc : lo ≤ cv := by omega
          have hI1 : (lo : Int) ≤ cs.length := by omega
          have hI2 : lo ≤ cs.length := by omega
          have hnb : (n != 0) = true := by simpa using hn
          have hGl := hB.lt
          have hsh : av = none ∨ ∃ g, av = some ⟨g, 0, none⟩ := by
            rcases hB.own.2 with ⟨e, _⟩ | ⟨g, cap, cur, e, _⟩
            · injection e with e; exact .inl e
            · injection e with e; exact .inr ⟨g, e⟩
          have hllH : Hid (cs.length = lo) := hll
          have hnl : ¬ (lo < cs.length) := by omega
          have hnl2 : ¬ ((lo : Int) < cs.length) := by omega
          clear hPi hlo hP hx b0 b1 bf t0 t1 tf hll
          rcases hsh with rfl | ⟨g, rfl⟩
          · go_wp2_with fail
            obtain ⟨i0, fi, f0, f1, f2⟩ := info_parts Try.infoCnt
            refine startE 18 (fun w' => w'.cell? ⟨w.heap.size, 1, none⟩ = some (.slice none cs.length cv)) (by kernel_rfl) ?_ (fun hHeld => ?_)
            · (try dsimp only)
              exact B1
            refine takeE (i := 1) (d := 82) (v := ?_) rfl rfl (by kernel_rfl) (by kernel_rfl) (by kernel_rfl) (by kernel_rfl) (fun _ _ _ h => h) (by rfl) (by assumption) ?_ ?_
            rotate_left
            · intro w' hSw; (try dsimp only at hSw); go_simp; try exact rfl
            try simp only [List.setIfInBounds_toArray, List.set_cons_zero, List.set_cons_succ]
            refine takeE (i := 2) (d := 83) (v := ?_) rfl rfl (by kernel_rfl) (by kernel_rfl) (by kernel_rfl) (by kernel_rfl) (fun _ _ _ h => h) (by rfl) (by assumption) ?_ ?_
            rotate_left
            · intro w' hSw; (try dsimp only at hSw); go_simp; try exact rfl
            try simp only [List.setIfInBounds_toArray, List.set_cons_zero, List.set_cons_succ]
            refine takeE (i := 3) (d := 84) (v := ?_) rfl rfl (by kernel_rfl) (by kernel_rfl) (by kernel_rfl) (by kernel_rfl) (fun _ _ _ h => h) (by rfl) (by assumption) ?_ ?_
            rotate_left
            · intro w' hSw; (try dsimp only at hSw); go_simp; try exact rfl
            try simp only [List.setIfInBounds_toArray, List.set_cons_zero, List.set_cons_succ]
            refine takeE (i := 4) (d := 85) (v := ?_) rfl rfl (by kernel_rfl) (by kernel_rfl) (by kernel_rfl) (by kernel_rfl) (fun _ _ _ h => h) (by rfl) (by assumption) ?_ ?_
            rotate_left
            · intro w' hSw; (try dsimp only at hSw); go_simp; try exact rfl
            try simp only [List.setIfInBounds_toArray, List.set_cons_zero, List.set_cons_succ]
            refine takeE (i := 6) (d := 87) (v := ?_) rfl rfl (by kernel_rfl) (by kernel_rfl) (by kernel_rfl) (by kernel_rfl) (fun _ _ _ h => h) (by rfl) (by assumption) ?_ ?_
            rotate_left
            · intro w' hSw; (try dsimp only at hSw); go_simp; try exact rfl
            try simp only [List.setIfInBounds_toArray, List.set_cons_zero, List.set_cons_succ]
            refine takeE (i := 8) (d := 89) (v := ?_) rfl rfl (by kernel_rfl) (by kernel_rfl) (by kernel_rfl) (by kernel_rfl) (fun _ _ _ h => h) (by rfl) (by assumption) ?_ ?_
            rotate_left
            · intro w' hSw; (try dsimp only at hSw); go_simp; try exact rfl
            try simp only [List.setIfInBounds_toArray, List.set_cons_zero, List.set_cons_succ]
            refine takeE (i := 12) (d := 93) (v := ?_) rfl rfl (by kernel_rfl) (by kernel_rfl) (by kernel_rfl) (by kernel_rfl) (fun _ _ _ h => h) (by rfl) (by assumption) ?_ ?_
            rotate_left
            · intro w' hSw; (try dsimp only at hSw); go_simp; try exact rfl
            try simp only [List.setIfInBounds_toArray, List.set_cons_zero, List.set_cons_succ]
            refine takeE (i := 13) (d := 94) (v := ?_) rfl rfl (by kernel_rfl) (by kernel_rfl) (by kernel_rfl) (by kernel_rfl) (fun _ _ _ h => h) (by rfl) (by assumption) ?_ ?_
            rotate_left
            · intro w' hSw; (try dsimp only at hSw); go_simp; try exact rfl
            try simp only [List.setIfInBounds_toArray, List.set_cons_zero, List.set_cons_succ]
            refine takeE (i := 14) (d := 95) (v := ?_) rfl rfl (by kernel_rfl) (by kernel_rfl) (by kernel_rfl) (by kernel_rfl) (fun _ _ _ h => h) (by rfl) (by assumption) ?_ ?_
            rotate_left
            · intro w' hSw; (try dsimp only at hSw); go_simp; try exact rfl
            try simp only [List.setIfInBounds_toArray, List.set_cons_zero, List.set_cons_succ]
            refine takeE (i := 15) (d := 96) (v := ?_) rfl rfl (by kernel_rfl) (by kernel_rfl) (by kernel_rfl) (by kernel_rfl) (fun _ _ _ h => h) (by rfl) (by assumption) ?_ ?_
            rotate_left
            · intro w' hSw; (try dsimp only at hSw); go_simp; try exact rfl
            try simp only [List.setIfInBounds_toArray, List.set_cons_zero, List.set_cons_succ]
            refine oneE (i := 0) (by kernel_rfl) rfl (fun K hK => ?_)
            go_simp
            refine hK.out _ _ ?_ (fun hHeld0 => ?_)
            · intro _
              (try dsimp only)
              exact (cell_blk (Below.heap_alloc wr _ _ (by omega))).trans B1
            clear hK
            replace hHeld0 := hHeld0 (by decide)
            try simp only [List.setIfInBounds_toArray, List.set_cons_zero, List.set_cons_succ]
            refine oneE (i := 5) (by kernel_rfl) rfl (fun K hK => ?_)
            refine step_append_src _ (by rfl) _ _ _ (by rfl) wr.heap.size 53 i0 _ 2 32 Try.underlying35 fi f0 f1 f2 rfl (by omega) (.slice (some ⟨wr.heap.size, 0, none⟩) 0 0) 0 [] (by rfl) (own_none (w := wr) rfl (Nat.le_refl _) _ 2) (.slice none lo cv) lo _ (by rfl) (hB1.src1 (by repeat (first | (with_reducible exact Below.refl _ _) | (with_reducible refine Below.drew ?_) | (with_reducible refine Below.alloc ?_ ?hh _; case hh => first | (simp; done) | (simp; omega) | omega) | (with_reducible refine Below.setCell ?_ ?hh _; case hh => first | (simp; done) | (simp; omega) | omega) | refine bstep (by assumption) (by first | (simp; done) | (simp; omega) | omega) ?_)) (by omega)) (cc_one fun u hu => hB1.one u (List.mem_of_mem_take hu)) (by simp only [maxLen]; omega) (by omega) (by simp) ?_
            intro v5 w5 hown5 hgrow5 hat5
            rw [List.nil_append, Nat.zero_add] at hown5
            have hz5 := hgrow5.size
            simp at hz5
            have bel5 : Below wr.heap.size wr w5 := Below.grown (show Below wr.heap.size wr _ by repeat (first | (with_reducible exact Below.refl _ _) | (with_reducible refine Below.drew ?_) | (with_reducible refine Below.alloc ?_ ?hh _; case hh => first | (simp; done) | (simp; omega) | omega) | (with_reducible refine Below.setCell ?_ ?hh _; case hh => first | (simp; done) | (simp; omega) | omega) | refine bstep (by assumption) (by first | (simp; done) | (simp; omega) | omega) ?_)) hgrow5 (by simp) (fun b hb => by simp [Value.ownBlock] at hb; omega)
            refine hK.out _ _ ?_ (fun hHeld5 => ?_)
            · intro _
              (try dsimp only)
              exact ((bcell bel5).1 _ _ (by omega)).trans B1
            clear hK
            replace hHeld5 := hHeld5 (by decide)
            try simp only [List.setIfInBounds_toArray, List.set_cons_zero, List.set_cons_succ]
            refine oneE (i := 7) (by kernel_rfl) rfl (fun K hK => ?_)
            go_simp
            go_at_call 37
            refine Calls.mono (l02CopyRow_any (.slice ar row.length cr) row g0 _ (hr0.belowX (hbw1.trans (bel5.mono hbw1.size))) hrl) ?_
            rintro e w7 ⟨⟨u7, g7, rfl, hR7, hO7⟩, hb7⟩
            obtain ⟨a7, c7, rfl⟩ := hR7.shapeX
            have hz7 := hb7.size
            have bel7 : Below wr.heap.size wr w7 := bel5.trans (hb7.mono bel5.size)
            have hown7 := ownsRow_keep hown5 (fun b hb => hb7.block b (ownsRow_lt hown5 b hb).2)
            have hR7l := hR7.lt
            try go_wp2_with fail
            refine hK.out _ _ ?_ (fun hHeld7 => ?_)
            · intro _
              (try dsimp only)
              exact ((bcell bel7).1 _ _ (by omega)).trans B1
            clear hK
            replace hHeld7 := hHeld7 (by decide)
            try simp only [List.setIfInBounds_toArray, List.set_cons_zero, List.set_cons_succ]
            refine takeE (i := 9) (d := 90) (v := ?_) rfl rfl (by kernel_rfl) (by kernel_rfl) (by kernel_rfl) (by kernel_rfl) (fun _ _ _ h => h) (by rfl) (by assumption) ?_ ?_
            rotate_left
            · intro w' hSw; (try dsimp only at hSw); go_simp; try exact rfl
            try simp only [List.setIfInBounds_toArray, List.set_cons_zero, List.set_cons_succ]
            refine oneE (i := 10) (by kernel_rfl) rfl (fun K hK => ?_)
            go_simp
            refine hK.out _ _ ?_ (fun hHeld10 => ?_)
            · intro _
              (try dsimp only)
              exact (cell_blk (Below.heap_alloc w7 _ _ (by omega))).trans (((bcell bel7).1 _ _ (by omega)).trans B1)
            clear hK
            replace hHeld10 := hHeld10 (by decide)
            try simp only [List.setIfInBounds_toArray, List.set_cons_zero, List.set_cons_succ]
            refine oneE (i := 11) (by kernel_rfl) rfl (fun K hK => ?_)
            refine step_append_src _ (by rfl) _ _ _ (by rfl) wr.heap.size 53 i0 _ 2 32 Try.underlying35 fi f0 f1 f2 rfl (by omega) v5 lo _ (by rfl) (ownsRow_keep hown7 fun b hb => Below.heap_alloc w7 _ _ (ownsRow_lt hown7 b hb).2) (.slice (some ⟨w7.heap.size, 0, none⟩) 1 1) 1 [.slice a7 row.length c7, .int .i64 n] (by rfl) ⟨by rfl, .inr ⟨_, _, rfl, World.news_of_block (cs := #[.slice a7 row.length c7, .int .i64 n]) (t := 53) (fr := (0, 0)) (heap_alloc_new w7 _)⟩⟩ (by simp [Value.oneCell']) (by simp only [maxLen]; omega) (by omega) (by simp; omega) ?_
            intro v11 w11 hown11 hgrow11 hat11
            have hz11 := hgrow11.size
            simp at hz11
            have bel11 : Below wr.heap.size wr w11 := Below.grown (bel7.alloc (by omega) _) hgrow11 (by simp; omega) (fun b hb => (ownsRow_lt hown7 b hb).1)
            refine hK.out _ _ ?_ (fun hHeld11 => ?_)
            · intro _
              (try dsimp only)
              exact ((bcell bel11).1 _ _ (by omega)).trans B1
            clear hK
            replace hHeld11 := hHeld11 (by decide)
            try simp only [List.setIfInBounds_toArray, List.set_cons_zero, List.set_cons_succ]
            refine oneE (i := 16) (by kernel_rfl) rfl (fun K hK => ?_)
            refine step_append_src _ (by rfl) _ _ _ (by rfl) wr.heap.size 53 i0 _ 2 32 Try.underlying35 fi f0 f1 f2 rfl (by omega) v11 (lo + 1) _ (by rfl) hown11 _ (cs.length - lo) _ (by rfl) (by have hsr := hB1.src4 (k := lo) bel11 (by omega); exact hsr) (cc_one fun u hu => hB1.one u (List.mem_of_mem_drop hu)) (by simp only [maxLen]; omega) (by omega) (by omega) ?_
            intro v16 w16 hown16 hgrow16 hat16
            have hz16 := hgrow16.size
            obtain ⟨a16, c16, rfl⟩ := own_shapeX hown16
            have bel16 : Below wr.heap.size wr w16 := Below.grown bel11 hgrow16 (by omega) (fun b hb => (ownsRow_lt hown11 b hb).1)
            have hv11 : ∀ b, v11.ownBlock = some b → b ∉ g7 := by
              intro b hb hm
              have h1 := hO7.2.1 b hm
              have h2 := hR7l b hm
              rcases hat11 with h | h
              · have := (ownsRow_lt hown5 b (h.symm.trans hb)).2; omega
              · rw [h] at hb; have := Option.some.inj hb; simp at this; omega
            have hv16 : ∀ b, (Value.slice a16 (lo + 1 + (cs.length - lo)) c16).ownBlock = some b → b ∉ g7 := by
              intro b hb hm
              have h2 := hR7l b hm
              rcases hat16 with h | h
              · exact hv11 b (h.symm.trans hb) hm
              · rw [h] at hb; have := Option.some.inj hb; omega
            have hk16 : ∀ b, b < wr.heap.size ∨ b ∈ g7 → w16.heap[b]? = w7.heap[b]? := by
              intro b hb
              rcases hb with hb | hb
              · exact (bel16.block b hb).trans (bel7.block b hb).symm
              · have h1 := hO7.2.1 b hb
                have h2 := hR7l b hb
                refine (hgrow16.block b (by omega) (fun e => hv11 b e.symm hb)).trans ((hgrow11.block b (by simp; omega) (fun e => ?_)).trans (Below.heap_alloc w7 _ _ h2))
                have := (ownsRow_lt hown5 b e.symm).2
                omega
            have hBc := hB1.put (x := ⟨row, n⟩) (by omega) bel7 hR7 ⟨hO7.1, fun b hb => Nat.le_trans bel5.size (hO7.2.1 b hb), hO7.2.2⟩ hk16 (by omega) (k := lo) (by omega) (Nat.le_refl _) hv16 hown16
            have B016 := ((bcell bel16).1 w.heap.size 0 (by omega)).trans B0
            have B116 := ((bcell bel16).1 w.heap.size 1 (by omega)).trans B1
            have BF16 : ∀ q, w16.frozen? ⟨w.heap.size, q, none⟩ = false := fun q => ((bcell bel16).2 w.heap.size q (by omega)).trans (BF q)
            have T016 := ((bcell bel16).1 (w.heap.size + 1) 0 (by omega)).trans T0
            have T116 := ((bcell bel16).1 (w.heap.size + 1) 1 (by omega)).trans T1
            have TF16 : ∀ q, w16.frozen? ⟨w.heap.size + 1, q, none⟩ = false := fun q => ((bcell bel16).2 (w.heap.size + 1) q (by omega)).trans (TF q)
            refine hK.out _ _ ?_ (fun hHeld16 => ?_)
            · intro _
              (try dsimp only)
              exact B116
            clear hK
            replace hHeld16 := hHeld16 (by decide)
            try simp only [List.setIfInBounds_toArray, List.set_cons_zero, List.set_cons_succ]
            refine takeE (i := 17) (d := 98) (v := ?_) rfl rfl (by kernel_rfl) (by kernel_rfl) (by kernel_rfl) (by kernel_rfl) (fun _ _ _ h => h) (by rfl) (by assumption) ?_ ?_
            rotate_left
            · intro w' hSw; (try dsimp only at hSw); go_simp; try exact rfl
            try simp only [List.setIfInBounds_toArray, List.set_cons_zero, List.set_cons_succ]
            refine oneE (i := 18) (by kernel_rfl) rfl (fun K hK => ?_)
            go_simp
            refine hK.out _ _ ?_ (fun hHeld18 => ?_)
            · exact fun h => absurd rfl h
            clear hK hHeld18
            try simp only [List.setIfInBounds_toArray, List.set_cons_zero, List.set_cons_succ]
            refine doneE (by kernel_rfl) ?_ _
            have belw : Below w.heap.size w w16 := hbw1.trans (bel16.mono hbw1.size)
            clear hB hB1 hc hA hr0
            go_wp2
            all_goals
              refine bodyPost_ret (v := .agg #[.int .i64 wd, .slice a16 (lo + 1 + (cs.length - lo)) c16]) (by simp [results, Try.results28, go_sem, *]) rfl (PutOut.of_below (us' := us.take lo ++ .slice a7 row.length c7 :: us.drop lo) (G' := G.take lo ++ g7 :: G.drop lo) ?_ (fun b hb h => ?_) (fun b hb h => ?_) ?_ hN)
              · rw [hPn.out]
                refine hBc.keepO (by simp) (fun b hvb => ?_) fun b hgb => ?_
                · have := (ownsRow_lt hown16 b hvb).1
                  exact (Below.heap_setCell _ _ _ _ (by show b ≠ w.heap.size + 1; omega)).trans ((Below.heap_setCell _ _ _ _ (by show b ≠ w.heap.size + 1; omega)).trans (Below.heap_setCell _ _ _ _ (by show b ≠ w.heap.size; omega)))
                · have : b < w.heap.size ∨ w.heap.size + 1 < b := (put_mem hgb).elim (fun h => .inl (hGl b h)) (fun h => .inr (by have := hO7.2.1 b h; omega))
                  exact (Below.heap_setCell _ _ _ _ (by show b ≠ w.heap.size + 1; omega)).trans ((Below.heap_setCell _ _ _ _ (by show b ≠ w.heap.size + 1; omega)).trans (Below.heap_setCell _ _ _ _ (by show b ≠ w.heap.size; omega)))
              · have := (ownsRow_lt hown16 b h).1
                omega
              · exact (put_mem h).elim id (fun h => absurd (hO7.2.1 b h) (by omega))
              · repeat (first | (with_reducible exact belw) | (with_reducible refine Below.setCell ?_ ?hh _; case hh => (simp; try omega)))
          · by_cases hcl : cv = lo
            · have hcl2 := hcl.symm
              clear hcl
              subst hcl2
              clear hcv
              go_wp2_with fail
              obtain ⟨i0, fi, f0, f1, f2⟩ := info_parts Try.infoCnt
              refine startE 18 (fun w' => w'.cell? ⟨w.heap.size, 1, none⟩ = some (.slice (some ⟨g, 0, none⟩) cs.length lo)) (by kernel_rfl) ?_ (fun hHeld => ?_)
              · (try dsimp only)
                exact B1
              refine takeE (i := 1) (d := 82) (v := ?_) rfl rfl (by kernel_rfl) (by kernel_rfl) (by kernel_rfl) (by kernel_rfl) (fun _ _ _ h => h) (by rfl) (by assumption) ?_ ?_
              rotate_left
              · intro w' hSw; (try dsimp only at hSw); go_simp; try exact rfl
              try simp only [List.setIfInBounds_toArray, List.set_cons_zero, List.set_cons_succ]
              refine takeE (i := 2) (d := 83) (v := ?_) rfl rfl (by kernel_rfl) (by kernel_rfl) (by kernel_rfl) (by kernel_rfl) (fun _ _ _ h => h) (by rfl) (by assumption) ?_ ?_
              rotate_left
              · intro w' hSw; (try dsimp only at hSw); go_simp; try exact rfl
              try simp only [List.setIfInBounds_toArray, List.set_cons_zero, List.set_cons_succ]
              refine takeE (i := 3) (d := 84) (v := ?_) rfl rfl (by kernel_rfl) (by kernel_rfl) (by kernel_rfl) (by kernel_rfl) (fun _ _ _ h => h) (by rfl) (by assumption) ?_ ?_
              rotate_left
              · intro w' hSw; (try dsimp only at hSw); go_simp; try exact rfl
              try simp only [List.setIfInBounds_toArray, List.set_cons_zero, List.set_cons_succ]
              refine takeE (i := 4) (d := 85) (v := ?_) rfl rfl (by kernel_rfl) (by kernel_rfl) (by kernel_rfl) (by kernel_rfl) (fun _ _ _ h => h) (by rfl) (by assumption) ?_ ?_
              rotate_left
              · intro w' hSw; (try dsimp only at hSw); go_simp; try exact rfl
              try simp only [List.setIfInBounds_toArray, List.set_cons_zero, List.set_cons_succ]
              refine takeE (i := 6) (d := 87) (v := ?_) rfl rfl (by kernel_rfl) (by kernel_rfl) (by kernel_rfl) (by kernel_rfl) (fun _ _ _ h => h) (by rfl) (by assumption) ?_ ?_
              rotate_left
              · intro w' hSw; (try dsimp only at hSw); go_simp; try exact rfl
              try simp only [List.setIfInBounds_toArray, List.set_cons_zero, List.set_cons_succ]
              refine takeE (i := 8) (d := 89) (v := ?_) rfl rfl (by kernel_rfl) (by kernel_rfl) (by kernel_rfl) (by kernel_rfl) (fun _ _ _ h => h) (by rfl) (by assumption) ?_ ?_
              rotate_left
              · intro w' hSw; (try dsimp only at hSw); go_simp; try exact rfl
              try simp only [List.setIfInBounds_toArray, List.set_cons_zero, List.set_cons_succ]
              refine takeE (i := 12) (d := 93) (v := ?_) rfl rfl (by kernel_rfl) (by kernel_rfl) (by kernel_rfl) (by kernel_rfl) (fun _ _ _ h => h) (by rfl) (by assumption) ?_ ?_
              rotate_left
              · intro w' hSw; (try dsimp only at hSw); go_simp; try exact rfl
              try simp only [List.setIfInBounds_toArray, List.set_cons_zero, List.set_cons_succ]
              refine takeE (i := 13) (d := 94) (v := ?_) rfl rfl (by kernel_rfl) (by kernel_rfl) (by kernel_rfl) (by kernel_rfl) (fun _ _ _ h => h) (by rfl) (by assumption) ?_ ?_
              rotate_left
              · intro w' hSw; (try dsimp only at hSw); go_simp; try exact rfl
              try simp only [List.setIfInBounds_toArray, List.set_cons_zero, List.set_cons_succ]
              refine takeE (i := 14) (d := 95) (v := ?_) rfl rfl (by kernel_rfl) (by kernel_rfl) (by kernel_rfl) (by kernel_rfl) (fun _ _ _ h => h) (by rfl) (by assumption) ?_ ?_
              rotate_left
              · intro w' hSw; (try dsimp only at hSw); go_simp; try exact rfl
              try simp only [List.setIfInBounds_toArray, List.set_cons_zero, List.set_cons_succ]
              refine takeE (i := 15) (d := 96) (v := ?_) rfl rfl (by kernel_rfl) (by kernel_rfl) (by kernel_rfl) (by kernel_rfl) (fun _ _ _ h => h) (by rfl) (by assumption) ?_ ?_
              rotate_left
              · intro w' hSw; (try dsimp only at hSw); go_simp; try exact rfl
              try simp only [List.setIfInBounds_toArray, List.set_cons_zero, List.set_cons_succ]
              refine oneE (i := 0) (by kernel_rfl) rfl (fun K hK => ?_)
              go_simp
              refine hK.out _ _ ?_ (fun hHeld0 => ?_)
              · intro _
                (try dsimp only)
                exact (cell_blk (Below.heap_alloc wr _ _ (by omega))).trans B1
              clear hK
              replace hHeld0 := hHeld0 (by decide)
              try simp only [List.setIfInBounds_toArray, List.set_cons_zero, List.set_cons_succ]
              refine oneE (i := 5) (by kernel_rfl) rfl (fun K hK => ?_)
              refine step_append_src _ (by rfl) _ _ _ (by rfl) wr.heap.size 53 i0 _ 2 32 Try.underlying35 fi f0 f1 f2 rfl (by omega) (.slice (some ⟨wr.heap.size, 0, none⟩) 0 0) 0 [] (by rfl) (own_none (w := wr) rfl (Nat.le_refl _) _ 2) (.slice (some ⟨g, 0, none⟩) lo lo) lo _ (by rfl) (hB1.src1 (by repeat (first | (with_reducible exact Below.refl _ _) | (with_reducible refine Below.drew ?_) | (with_reducible refine Below.alloc ?_ ?hh _; case hh => first | (simp; done) | (simp; omega) | omega) | (with_reducible refine Below.setCell ?_ ?hh _; case hh => first | (simp; done) | (simp; omega) | omega) | refine bstep (by assumption) (by first | (simp; done) | (simp; omega) | omega) ?_)) (by omega)) (cc_one fun u hu => hB1.one u (List.mem_of_mem_take hu)) (by simp only [maxLen]; omega) (by omega) (by simp) ?_
              intro v5 w5 hown5 hgrow5 hat5
              rw [List.nil_append, Nat.zero_add] at hown5
              have hz5 := hgrow5.size
              simp at hz5
              have bel5 : Below wr.heap.size wr w5 := Below.grown (show Below wr.heap.size wr _ by repeat (first | (with_reducible exact Below.refl _ _) | (with_reducible refine Below.drew ?_) | (with_reducible refine Below.alloc ?_ ?hh _; case hh => first | (simp; done) | (simp; omega) | omega) | (with_reducible refine Below.setCell ?_ ?hh _; case hh => first | (simp; done) | (simp; omega) | omega) | refine bstep (by assumption) (by first | (simp; done) | (simp; omega) | omega) ?_)) hgrow5 (by simp) (fun b hb => by simp [Value.ownBlock] at hb; omega)
              refine hK.out _ _ ?_ (fun hHeld5 => ?_)
              · intro _
                (try dsimp only)
                exact ((bcell bel5).1 _ _ (by omega)).trans B1
              clear hK
              replace hHeld5 := hHeld5 (by decide)
              try simp only [List.setIfInBounds_toArray, List.set_cons_zero, List.set_cons_succ]
              refine oneE (i := 7) (by kernel_rfl) rfl (fun K hK => ?_)
              go_simp
              go_at_call 37
              refine Calls.mono (l02CopyRow_any (.slice ar row.length cr) row g0 _ (hr0.belowX (hbw1.trans (bel5.mono hbw1.size))) hrl) ?_
              rintro e w7 ⟨⟨u7, g7, rfl, hR7, hO7⟩, hb7⟩
              obtain ⟨a7, c7, rfl⟩ := hR7.shapeX
              have hz7 := hb7.size
              have bel7 : Below wr.heap.size wr w7 := bel5.trans (hb7.mono bel5.size)
              have hown7 := ownsRow_keep hown5 (fun b hb => hb7.block b (ownsRow_lt hown5 b hb).2)
              have hR7l := hR7.lt
              try go_wp2_with fail
              refine hK.out _ _ ?_ (fun hHeld7 => ?_)
              · intro _
                (try dsimp only)
                exact ((bcell bel7).1 _ _ (by omega)).trans B1
              clear hK
              replace hHeld7 := hHeld7 (by decide)
              try simp only [List.setIfInBounds_toArray, List.set_cons_zero, List.set_cons_succ]
              refine takeE (i := 9) (d := 90) (v := ?_) rfl rfl (by kernel_rfl) (by kernel_rfl) (by kernel_rfl) (by kernel_rfl) (fun _ _ _ h => h) (by rfl) (by assumption) ?_ ?_
              rotate_left
              · intro w' hSw; (try dsimp only at hSw); go_simp; try exact rfl
              try simp only [List.setIfInBounds_toArray, List.set_cons_zero, List.set_cons_succ]
              refine oneE (i := 10) (by kernel_rfl) rfl (fun K hK => ?_)
              go_simp
              refine hK.out _ _ ?_ (fun hHeld10 => ?_)
              · intro _
                (try dsimp only)
                exact (cell_blk (Below.heap_alloc w7 _ _ (by omega))).trans (((bcell bel7).1 _ _ (by omega)).trans B1)
              clear hK
              replace hHeld10 := hHeld10 (by decide)
              try simp only [List.setIfInBounds_toArray, List.set_cons_zero, List.set_cons_succ]
              refine oneE (i := 11) (by kernel_rfl) rfl (fun K hK => ?_)
              refine step_append_src _ (by rfl) _ _ _ (by rfl) wr.heap.size 53 i0 _ 2 32 Try.underlying35 fi f0 f1 f2 rfl (by omega) v5 lo _ (by rfl) (ownsRow_keep hown7 fun b hb => Below.heap_alloc w7 _ _ (ownsRow_lt hown7 b hb).2) (.slice (some ⟨w7.heap.size, 0, none⟩) 1 1) 1 [.slice a7 row.length c7, .int .i64 n] (by rfl) ⟨by rfl, .inr ⟨_, _, rfl, World.news_of_block (cs := #[.slice a7 row.length c7, .int .i64 n]) (t := 53) (fr := (0, 0)) (heap_alloc_new w7 _)⟩⟩ (by simp [Value.oneCell']) (by simp only [maxLen]; omega) (by omega) (by simp; omega) ?_
              intro v11 w11 hown11 hgrow11 hat11
              have hz11 := hgrow11.size
              simp at hz11
              have bel11 : Below wr.heap.size wr w11 := Below.grown (bel7.alloc (by omega) _) hgrow11 (by simp; omega) (fun b hb => (ownsRow_lt hown7 b hb).1)
              refine hK.out _ _ ?_ (fun hHeld11 => ?_)
              · intro _
                (try dsimp only)
                exact ((bcell bel11).1 _ _ (by omega)).trans B1
              clear hK
              replace hHeld11 := hHeld11 (by decide)
              try simp only [List.setIfInBounds_toArray, List.set_cons_zero, List.set_cons_succ]
              refine oneE (i := 16) (by kernel_rfl) rfl (fun K hK => ?_)
              refine step_append_src _ (by rfl) _ _ _ (by rfl) wr.heap.size 53 i0 _ 2 32 Try.underlying35 fi f0 f1 f2 rfl (by omega) v11 (lo + 1) _ (by rfl) hown11 _ (cs.length - lo) _ (by rfl) (by have hsr := hB1.src3 (k := lo) bel11 (by omega); rw [if_pos rfl, Nat.sub_self] at hsr; exact hsr) (cc_one fun u hu => hB1.one u (List.mem_of_mem_drop hu)) (by simp only [maxLen]; omega) (by omega) (by omega) ?_
              intro v16 w16 hown16 hgrow16 hat16
              have hz16 := hgrow16.size
              obtain ⟨a16, c16, rfl⟩ := own_shapeX hown16
              have bel16 : Below wr.heap.size wr w16 := Below.grown bel11 hgrow16 (by omega) (fun b hb => (ownsRow_lt hown11 b hb).1)
              have hv11 : ∀ b, v11.ownBlock = some b → b ∉ g7 := by
                intro b hb hm
                have h1 := hO7.2.1 b hm
                have h2 := hR7l b hm
                rcases hat11 with h | h
                · have := (ownsRow_lt hown5 b (h.symm.trans hb)).2; omega
                · rw [h] at hb; have := Option.some.inj hb; simp at this; omega
              have hv16 : ∀ b, (Value.slice a16 (lo + 1 + (cs.length - lo)) c16).ownBlock = some b → b ∉ g7 := by
                intro b hb hm
                have h2 := hR7l b hm
                rcases hat16 with h | h
                · exact hv11 b (h.symm.trans hb) hm
                · rw [h] at hb; have := Option.some.inj hb; omega
              have hk16 : ∀ b, b < wr.heap.size ∨ b ∈ g7 → w16.heap[b]? = w7.heap[b]? := by
                intro b hb
                rcases hb with hb | hb
                · exact (bel16.block b hb).trans (bel7.block b hb).symm
                · have h1 := hO7.2.1 b hb
                  have h2 := hR7l b hb
                  refine (hgrow16.block b (by omega) (fun e => hv11 b e.symm hb)).trans ((hgrow11.block b (by simp; omega) (fun e => ?_)).trans (Below.heap_alloc w7 _ _ h2))
                  have := (ownsRow_lt hown5 b e.symm).2
                  omega
              have hBc := hB1.put (x := ⟨row, n⟩) (by omega) bel7 hR7 ⟨hO7.1, fun b hb => Nat.le_trans bel5.size (hO7.2.1 b hb), hO7.2.2⟩ hk16 (by omega) (k := lo) (by omega) (Nat.le_refl _) hv16 hown16
              have B016 := ((bcell bel16).1 w.heap.size 0 (by omega)).trans B0
              have B116 := ((bcell bel16).1 w.heap.size 1 (by omega)).trans B1
              have BF16 : ∀ q, w16.frozen? ⟨w.heap.size, q, none⟩ = false := fun q => ((bcell bel16).2 w.heap.size q (by omega)).trans (BF q)
              have T016 := ((bcell bel16).1 (w.heap.size + 1) 0 (by omega)).trans T0
              have T116 := ((bcell bel16).1 (w.heap.size + 1) 1 (by omega)).trans T1
              have TF16 : ∀ q, w16.frozen? ⟨w.heap.size + 1, q, none⟩ = false := fun q => ((bcell bel16).2 (w.heap.size + 1) q (by omega)).trans (TF q)
              refine hK.out _ _ ?_ (fun hHeld16 => ?_)
              · intro _
                (try dsimp only)
                exact B116
              clear hK
              replace hHeld16 := hHeld16 (by decide)
              try simp only [List.setIfInBounds_toArray, List.set_cons_zero, List.set_cons_succ]
              refine takeE (i := 17) (d := 98) (v := ?_) rfl rfl (by kernel_rfl) (by kernel_rfl) (by kernel_rfl) (by kernel_rfl) (fun _ _ _ h => h) (by rfl) (by assumption) ?_ ?_
              rotate_left
              · intro w' hSw; (try dsimp only at hSw); go_simp; try exact rfl
              try simp only [List.setIfInBounds_toArray, List.set_cons_zero, List.set_cons_succ]
              refine oneE (i := 18) (by kernel_rfl) rfl (fun K hK => ?_)
              go_simp
              refine hK.out _ _ ?_ (fun hHeld18 => ?_)
              · exact fun h => absurd rfl h
              clear hK hHeld18
              try simp only [List.setIfInBounds_toArray, List.set_cons_zero, List.set_cons_succ]
              refine doneE (by kernel_rfl) ?_ _
              have belw : Below w.heap.size w w16 := hbw1.trans (bel16.mono hbw1.size)
              clear hB hB1 hc hA hr0
              go_wp2
              all_goals
                refine bodyPost_ret (v := .agg #[.int .i64 wd, .slice a16 (lo + 1 + (cs.length - lo)) c16]) (by simp [results, Try.results28, go_sem, *]) rfl (PutOut.of_below (us' := us.take lo ++ .slice a7 row.length c7 :: us.drop lo) (G' := G.take lo ++ g7 :: G.drop lo) ?_ (fun b hb h => ?_) (fun b hb h => ?_) ?_ hN)
                · rw [hPn.out]
                  refine hBc.keepO (by simp) (fun b hvb => ?_) fun b hgb => ?_
                  · have := (ownsRow_lt hown16 b hvb).1
                    exact (Below.heap_setCell _ _ _ _ (by show b ≠ w.heap.size + 1; omega)).trans ((Below.heap_setCell _ _ _ _ (by show b ≠ w.heap.size + 1; omega)).trans (Below.heap_setCell _ _ _ _ (by show b ≠ w.heap.size; omega)))
                  · have : b < w.heap.size ∨ w.heap.size + 1 < b := (put_mem hgb).elim (fun h => .inl (hGl b h)) (fun h => .inr (by have := hO7.2.1 b h; omega))
                    exact (Below.heap_setCell _ _ _ _ (by show b ≠ w.heap.size + 1; omega)).trans ((Below.heap_setCell _ _ _ _ (by show b ≠ w.heap.size + 1; omega)).trans (Below.heap_setCell _ _ _ _ (by show b ≠ w.heap.size; omega)))
                · have := (ownsRow_lt hown16 b h).1
                  omega
                · exact (put_mem h).elim id (fun h => absurd (hO7.2.1 b h) (by omega))
                · repeat (first | (with_reducible exact belw) | (with_reducible refine Below.setCell ?_ ?hh _; case hh => (simp; try omega)))
            · go_wp2_with fail
              obtain ⟨i0, fi, f0, f1, f2⟩ := info_parts Try.infoCnt
              refine startE 18 (fun w' => w'.cell? ⟨w.heap.size, 1, none⟩ = some (.slice (some ⟨g, 0, none⟩) cs.length cv)) (by kernel_rfl) ?_ (fun hHeld => ?_)
              · (try dsimp only)
                exact B1
              refine takeE (i := 1) (d := 82) (v := ?_) rfl rfl (by kernel_rfl) (by kernel_rfl) (by kernel_rfl) (by kernel_rfl) (fun _ _ _ h => h) (by rfl) (by assumption) ?_ ?_
              rotate_left
              · intro w' hSw; (try dsimp only at hSw); go_simp; try exact rfl
              try simp only [List.setIfInBounds_toArray, List.set_cons_zero, List.set_cons_succ]
              refine takeE (i := 2) (d := 83) (v := ?_) rfl rfl (by kernel_rfl) (by kernel_rfl) (by kernel_rfl) (by kernel_rfl) (fun _ _ _ h => h) (by rfl) (by assumption) ?_ ?_
              rotate_left
              · intro w' hSw; (try dsimp only at hSw); go_simp; try exact rfl
              try simp only [List.setIfInBounds_toArray, List.set_cons_zero, List.set_cons_succ]
              refine takeE (i := 3) (d := 84) (v := ?_) rfl rfl (by kernel_rfl) (by kernel_rfl) (by kernel_rfl) (by kernel_rfl) (fun _ _ _ h => h) (by rfl) (by assumption) ?_ ?_
              rotate_left
              · intro w' hSw; (try dsimp only at hSw); go_simp; try exact rfl
              try simp only [List.setIfInBounds_toArray, List.set_cons_zero, List.set_cons_succ]
              refine takeE (i := 4) (d := 85) (v := ?_) rfl rfl (by kernel_rfl) (by kernel_rfl) (by kernel_rfl) (by kernel_rfl) (fun _ _ _ h => h) (by rfl) (by assumption) ?_ ?_
              rotate_left
              · intro w' hSw; (try dsimp only at hSw); go_simp; try exact rfl
              try simp only [List.setIfInBounds_toArray, List.set_cons_zero, List.set_cons_succ]
              refine takeE (i := 6) (d := 87) (v := ?_) rfl rfl (by kernel_rfl) (by kernel_rfl) (by kernel_rfl) (by kernel_rfl) (fun _ _ _ h => h) (by rfl) (by assumption) ?_ ?_
              rotate_left
              · intro w' hSw; (try dsimp only at hSw); go_simp; try exact rfl
              try simp only [List.setIfInBounds_toArray, List.set_cons_zero, List.set_cons_succ]
              refine takeE (i := 8) (d := 89) (v := ?_) rfl rfl (by kernel_rfl) (by kernel_rfl) (by kernel_rfl) (by kernel_rfl) (fun _ _ _ h => h) (by rfl) (by assumption) ?_ ?_
              rotate_left
              · intro w' hSw; (try dsimp only at hSw); go_simp; try exact rfl
              try simp only [List.setIfInBounds_toArray, List.set_cons_zero, List.set_cons_succ]
              refine takeE (i := 12) (d := 93) (v := ?_) rfl rfl (by kernel_rfl) (by kernel_rfl) (by kernel_rfl) (by kernel_rfl) (fun _ _ _ h => h) (by rfl) (by assumption) ?_ ?_
              rotate_left
              · intro w' hSw; (try dsimp only at hSw); go_simp; try exact rfl
              try simp only [List.setIfInBounds_toArray, List.set_cons_zero, List.set_cons_succ]
              refine takeE (i := 13) (d := 94) (v := ?_) rfl rfl (by kernel_rfl) (by kernel_rfl) (by kernel_rfl) (by kernel_rfl) (fun _ _ _ h => h) (by rfl) (by assumption) ?_ ?_
              rotate_left
              · intro w' hSw; (try dsimp only at hSw); go_simp; try exact rfl
              try simp only [List.setIfInBounds_toArray, List.set_cons_zero, List.set_cons_succ]
              refine takeE (i := 14) (d := 95) (v := ?_) rfl rfl (by kernel_rfl) (by kernel_rfl) (by kernel_rfl) (by kernel_rfl) (fun _ _ _ h => h) (by rfl) (by assumption) ?_ ?_
              rotate_left
              · intro w' hSw; (try dsimp only at hSw); go_simp; try exact rfl
              try simp only [List.setIfInBounds_toArray, List.set_cons_zero, List.set_cons_succ]
              refine takeE (i := 15) (d := 96) (v := ?_) rfl rfl (by kernel_rfl) (by kernel_rfl) (by kernel_rfl) (by kernel_rfl) (fun _ _ _ h => h) (by rfl) (by assumption) ?_ ?_
              rotate_left
              · intro w' hSw; (try dsimp only at hSw); go_simp; try exact rfl
              try simp only [List.setIfInBounds_toArray, List.set_cons_zero, List.set_cons_succ]
              refine oneE (i := 0) (by kernel_rfl) rfl (fun K hK => ?_)
              go_simp
              refine hK.out _ _ ?_ (fun hHeld0 => ?_)
              · intro _
                (try dsimp only)
                exact (cell_blk (Below.heap_alloc wr _ _ (by omega))).trans B1
              clear hK
              replace hHeld0 := hHeld0 (by decide)
              try simp only [List.setIfInBounds_toArray, List.set_cons_zero, List.set_cons_succ]
              refine oneE (i := 5) (by kernel_rfl) rfl (fun K hK => ?_)
              refine step_append_src _ (by rfl) _ _ _ (by rfl) wr.heap.size 53 i0 _ 2 32 Try.underlying35 fi f0 f1 f2 rfl (by omega) (.slice (some ⟨wr.heap.size, 0, none⟩) 0 0) 0 [] (by rfl) (own_none (w := wr) rfl (Nat.le_refl _) _ 2) (.slice (some ⟨g, 0, none⟩) lo cv) lo _ (by rfl) (hB1.src1 (by repeat (first | (with_reducible exact Below.refl _ _) | (with_reducible refine Below.drew ?_) | (with_reducible refine Below.alloc ?_ ?hh _; case hh => first | (simp; done) | (simp; omega) | omega) | (with_reducible refine Below.setCell ?_ ?hh _; case hh => first | (simp; done) | (simp; omega) | omega) | refine bstep (by assumption) (by first | (simp; done) | (simp; omega) | omega) ?_)) (by omega)) (cc_one fun u hu => hB1.one u (List.mem_of_mem_take hu)) (by simp only [maxLen]; omega) (by omega) (by simp) ?_
              intro v5 w5 hown5 hgrow5 hat5
              rw [List.nil_append, Nat.zero_add] at hown5
              have hz5 := hgrow5.size
              simp at hz5
              have bel5 : Below wr.heap.size wr w5 := Below.grown (show Below wr.heap.size wr _ by repeat (first | (with_reducible exact Below.refl _ _) | (with_reducible refine Below.drew ?_) | (with_reducible refine Below.alloc ?_ ?hh _; case hh => first | (simp; done) | (simp; omega) | omega) | (with_reducible refine Below.setCell ?_ ?hh _; case hh => first | (simp; done) | (simp; omega) | omega) | refine bstep (by assumption) (by first | (simp; done) | (simp; omega) | omega) ?_)) hgrow5 (by simp) (fun b hb => by simp [Value.ownBlock] at hb; omega)
              refine hK.out _ _ ?_ (fun hHeld5 => ?_)
              · intro _
                (try dsimp only)
                exact ((bcell bel5).1 _ _ (by omega)).trans B1
              clear hK
              replace hHeld5 := hHeld5 (by decide)
              try simp only [List.setIfInBounds_toArray, List.set_cons_zero, List.set_cons_succ]
              refine oneE (i := 7) (by kernel_rfl) rfl (fun K hK => ?_)
              go_simp
              go_at_call 37
              refine Calls.mono (l02CopyRow_any (.slice ar row.length cr) row g0 _ (hr0.belowX (hbw1.trans (bel5.mono hbw1.size))) hrl) ?_
              rintro e w7 ⟨⟨u7, g7, rfl, hR7, hO7⟩, hb7⟩
              obtain ⟨a7, c7, rfl⟩ := hR7.shapeX
              have hz7 := hb7.size
              have bel7 : Below wr.heap.size wr w7 := bel5.trans (hb7.mono bel5.size)
              have hown7 := ownsRow_keep hown5 (fun b hb => hb7.block b (ownsRow_lt hown5 b hb).2)
              have hR7l := hR7.lt
              try go_wp2_with fail
              refine hK.out _ _ ?_ (fun hHeld7 => ?_)
              · intro _
                (try dsimp only)
                exact ((bcell bel7).1 _ _ (by omega)).trans B1
              clear hK
              replace hHeld7 := hHeld7 (by decide)
              try simp only [List.setIfInBounds_toArray, List.set_cons_zero, List.set_cons_succ]
              refine takeE (i := 9) (d := 90) (v := ?_) rfl rfl (by kernel_rfl) (by kernel_rfl) (by kernel_rfl) (by kernel_rfl) (fun _ _ _ h => h) (by rfl) (by assumption) ?_ ?_
              rotate_left
              · intro w' hSw; (try dsimp only at hSw); go_simp; try exact rfl
              try simp only [List.setIfInBounds_toArray, List.set_cons_zero, List.set_cons_succ]
              refine oneE (i := 10) (by kernel_rfl) rfl (fun K hK => ?_)
              go_simp
              refine hK.out _ _ ?_ (fun hHeld10 => ?_)
              · intro _
                (try dsimp only)
                exact (cell_blk (Below.heap_alloc w7 _ _ (by omega))).trans (((bcell bel7).1 _ _ (by omega)).trans B1)
              clear hK
              replace hHeld10 := hHeld10 (by decide)
              try simp only [List.setIfInBounds_toArray, List.set_cons_zero, List.set_cons_succ]
              refine oneE (i := 11) (by kernel_rfl) rfl (fun K hK => ?_)
              refine step_append_src _ (by rfl) _ _ _ (by rfl) wr.heap.size 53 i0 _ 2 32 Try.underlying35 fi f0 f1 f2 rfl (by omega) v5 lo _ (by rfl) (ownsRow_keep hown7 fun b hb => Below.heap_alloc w7 _ _ (ownsRow_lt hown7 b hb).2) (.slice (some ⟨w7.heap.size, 0, none⟩) 1 1) 1 [.slice a7 row.length c7, .int .i64 n] (by rfl) ⟨by rfl, .inr ⟨_, _, rfl, World.news_of_block (cs := #[.slice a7 row.length c7, .int .i64 n]) (t := 53) (fr := (0, 0)) (heap_alloc_new w7 _)⟩⟩ (by simp [Value.oneCell']) (by simp only [maxLen]; omega) (by omega) (by simp; omega) ?_
              intro v11 w11 hown11 hgrow11 hat11
              have hz11 := hgrow11.size
              simp at hz11
              have bel11 : Below wr.heap.size wr w11 := Below.grown (bel7.alloc (by omega) _) hgrow11 (by simp; omega) (fun b hb => (ownsRow_lt hown7 b hb).1)
              refine hK.out _ _ ?_ (fun hHeld11 => ?_)
              · intro _
                (try dsimp only)
                exact ((bcell bel11).1 _ _ (by omega)).trans B1
              clear hK
              replace hHeld11 := hHeld11 (by decide)
              try simp only [List.setIfInBounds_toArray, List.set_cons_zero, List.set_cons_succ]
              refine oneE (i := 16) (by kernel_rfl) rfl (fun K hK => ?_)
              refine step_append_src _ (by rfl) _ _ _ (by rfl) wr.heap.size 53 i0 _ 2 32 Try.underlying35 fi f0 f1 f2 rfl (by omega) v11 (lo + 1) _ (by rfl) hown11 _ (cs.length - lo) _ (by rfl) (by have hsr := hB1.src3 (k := lo) bel11 (by omega); rw [if_neg hcl] at hsr; exact hsr) (cc_one fun u hu => hB1.one u (List.mem_of_mem_drop hu)) (by simp only [maxLen]; omega) (by omega) (by omega) ?_
              intro v16 w16 hown16 hgrow16 hat16
              have hz16 := hgrow16.size
              obtain ⟨a16, c16, rfl⟩ := own_shapeX hown16
              have bel16 : Below wr.heap.size wr w16 := Below.grown bel11 hgrow16 (by omega) (fun b hb => (ownsRow_lt hown11 b hb).1)
              have hv11 : ∀ b, v11.ownBlock = some b → b ∉ g7 := by
                intro b hb hm
                have h1 := hO7.2.1 b hm
                have h2 := hR7l b hm
                rcases hat11 with h | h
                · have := (ownsRow_lt hown5 b (h.symm.trans hb)).2; omega
                · rw [h] at hb; have := Option.some.inj hb; simp at this; omega
              have hv16 : ∀ b, (Value.slice a16 (lo + 1 + (cs.length - lo)) c16).ownBlock = some b → b ∉ g7 := by
                intro b hb hm
                have h2 := hR7l b hm
                rcases hat16 with h | h
                · exact hv11 b (h.symm.trans hb) hm
                · rw [h] at hb; have := Option.some.inj hb; omega
              have hk16 : ∀ b, b < wr.heap.size ∨ b ∈ g7 → w16.heap[b]? = w7.heap[b]? := by
                intro b hb
                rcases hb with hb | hb
                · exact (bel16.block b hb).trans (bel7.block b hb).symm
                · have h1 := hO7.2.1 b hb
                  have h2 := hR7l b hb
                  refine (hgrow16.block b (by omega) (fun e => hv11 b e.symm hb)).trans ((hgrow11.block b (by simp; omega) (fun e => ?_)).trans (Below.heap_alloc w7 _ _ h2))
                  have := (ownsRow_lt hown5 b e.symm).2
                  omega
              have hBc := hB1.put (x := ⟨row, n⟩) (by omega) bel7 hR7 ⟨hO7.1, fun b hb => Nat.le_trans bel5.size (hO7.2.1 b hb), hO7.2.2⟩ hk16 (by omega) (k := lo) (by omega) (Nat.le_refl _) hv16 hown16
              have B016 := ((bcell bel16).1 w.heap.size 0 (by omega)).trans B0
              have B116 := ((bcell bel16).1 w.heap.size 1 (by omega)).trans B1
              have BF16 : ∀ q, w16.frozen? ⟨w.heap.size, q, none⟩ = false := fun q => ((bcell bel16).2 w.heap.size q (by omega)).trans (BF q)
              have T016 := ((bcell bel16).1 (w.heap.size + 1) 0 (by omega)).trans T0
              have T116 := ((bcell bel16).1 (w.heap.size + 1) 1 (by omega)).trans T1
              have TF16 : ∀ q, w16.frozen? ⟨w.heap.size + 1, q, none⟩ = false := fun q => ((bcell bel16).2 (w.heap.size + 1) q (by omega)).trans (TF q)
              refine hK.out _ _ ?_ (fun hHeld16 => ?_)
              · intro _
                (try dsimp only)
                exact B116
              clear hK
              replace hHeld16 := hHeld16 (by decide)
              try simp only [List.setIfInBounds_toArray, List.set_cons_zero, List.set_cons_succ]
              refine takeE (i := 17) (d := 98) (v := ?_) rfl rfl (by kernel_rfl) (by kernel_rfl) (by kernel_rfl) (by kernel_rfl) (fun _ _ _ h => h) (by rfl) (by assumption) ?_ ?_
              rotate_left
              · intro w' hSw; (try dsimp only at hSw); go_simp; try exact rfl
              try simp only [List.setIfInBounds_toArray, List.set_cons_zero, List.set_cons_succ]
              refine oneE (i := 18) (by kernel_rfl) rfl (fun K hK => ?_)
              go_simp
              refine hK.out _ _ ?_ (fun hHeld18 => ?_)
              · exact fun h => absurd rfl h
              clear hK hHeld18
              try simp only [List.setIfInBounds_toArray, List.set_cons_zero, List.set_cons_succ]
              refine doneE (by kernel_rfl) ?_ _
              have belw : Below w.heap.size w w16 := hbw1.trans (bel16.mono hbw1.size)
              clear hB hB1 hc hA hr0
              go_wp2
              all_goals
                refine bodyPost_ret (v := .agg #[.int .i64 wd, .slice a16 (lo + 1 + (cs.length - lo)) c16]) (by simp [results, Try.results28, go_sem, *]) rfl (PutOut.of_below (us' := us.take lo ++ .slice a7 row.length c7 :: us.drop lo) (G' := G.take lo ++ g7 :: G.drop lo) ?_ (fun b hb h => ?_) (fun b hb h => ?_) ?_ hN)
                · rw [hPn.out]
                  refine hBc.keepO (by simp) (fun b hvb => ?_) fun b hgb => ?_
                  · have := (ownsRow_lt hown16 b hvb).1
                    exact (Below.heap_setCell _ _ _ _ (by show b ≠ w.heap.size + 1; omega)).trans ((Below.heap_setCell _ _ _ _ (by show b ≠ w.heap.size + 1; omega)).trans (Below.heap_setCell _ _ _ _ (by show b ≠ w.heap.size; omega)))
                  · have : b < w.heap.size ∨ w.heap.size + 1 < b := (put_mem hgb).elim (fun h => .inl (hGl b h)) (fun h => .inr (by have := hO7.2.1 b h; omega))
                    exact (Below.heap_setCell _ _ _ _ (by show b ≠ w.heap.size + 1; omega)).trans ((Below.heap_setCell _ _ _ _ (by show b ≠ w.heap.size + 1; omega)).trans (Below.heap_setCell _ _ _ _ (by show b ≠ w.heap.size; omega)))
                · have := (ownsRow_lt hown16 b h).1
                  omega
                · exact (put_mem h).elim id (fun h => absurd (hO7.2.1 b h) (by omega))
                · repeat (first | (with_reducible exact belw) | (with_reducible refine Below.setCell ?_ ?hh _; case hh => (simp; try omega)))
        · have hPn : Hid (P = cs) := by rw [if_neg hn] at hPi; exact hPi
          have hn0' : n = 0 := by omega
          subst hn0'
          clear hPi hlo hP hx
          go_wp2
          refine bodyPost_ret (v := .agg #[.int .i64 wd, .slice av cs.length cv]) (by simp [results, Try.results28, go_sem, *]) rfl (PutOut.of_below (us' := us) (G' := G) ?_ (fun _ _ h => h) (fun _ _ h => h) ?_ hN)
          · rw [hPn.out]
            exact hB.below (by repeat (first | (with_reducible exact hb) | (with_reducible exact hbw1) | (with_reducible refine Below.setCell ?_ ?hh _; case hh => (simp; try omega))))
          · repeat (first | (with_reducible exact hb) | (with_reducible exact hbw1) | (with_reducible refine Below.setCell ?_ ?hh _; case hh => (simp; try omega)))
      | some x =>
        obtain ⟨g, cap, u, gg, hv, _, _, hgN, hgl, hu, hgg, c0, c1, hR, gf⟩ := hB.cellsX hx
        injection hv with e1 _ e3
        subst e1 e3
        have hxl : lo < cs.length := (List.getElem?_eq_some_iff.1 hx).1
        have hll2 : decide ((lo : Int) < cs.length) = true := by simp; omega
        have hxI : (lo : Int) < cs.length := by omega
        have d0 := (hb.cell (p := ⟨g, _, none⟩) hgl).trans c0
        have d1 := (hb.cell (p := ⟨g, _, none⟩) hgl).trans c1
        have hgr : g < wr.heap.size := by omega
        by_cases hcmp : cmpRow x.r row = 0
        · have hPs : Hid (P = if n + x.n ≠ 0 then cs.set lo ⟨x.r, n + x.n⟩ else cs.take lo ++ cs.drop (lo + 1)) := by show P = _; rw [← hP.out]; unfold putC; rw [← hlo, hx]; dsimp only; rw [if_pos hcmp]
          clear hlo hP
          have hcb : (cmpRow x.r row == 0) = true := by simpa using hcmp
          have hxn := hc x (List.mem_of_getElem? hx)
          go_wp2_with fail
          refine Calls.mono (specRow_any u (.slice ar row.length cr) x.r row wr (hR.is.below hb) (hr0.is.below hb)) ?_
          rintro z w1 ⟨rfl, hb1⟩
          have hz1 := hb1.size
          have hbw1 : Below w.heap.size w w1 := hb.trans (hb1.mono hb.size)
          have B0 := ((bcell hb1).1 _ _ (show w.heap.size < wr.heap.size by omega)).trans b0
          have B1 := ((bcell hb1).1 _ _ (show w.heap.size < wr.heap.size by omega)).trans b1
          have BF : ∀ q, w1.frozen? ⟨w.heap.size, q, none⟩ = false := fun q => ((bcell hb1).2 _ q (show w.heap.size < wr.heap.size by omega)).trans (bf q)
          have T0 := ((bcell hb1).1 _ _ hz).trans t0
          have T1 := ((bcell hb1).1 _ _ hz).trans t1
          have TF : ∀ q, w1.frozen? ⟨w.heap.size + 1, q, none⟩ = false := fun q => ((bcell hb1).2 _ q hz).trans (tf q)
          have D1 := ((bcell hb1).1 _ _ hgr).trans d1
          have GF : ∀ q, w1.frozen? ⟨g, q, none⟩ = false := fun q => ((bcell hb1).2 _ q hgr).trans (((bcell hb).2 _ q hgl).trans (gf q))
          have hgr1 : g < w1.heap.size := by omega
          have hgb : g ≠ w.heap.size := by omega
          have hgt : g ≠ w.heap.size + 1 := by omega
          clear hb1 b0 b1 bf t0 t1 tf
          by_cases hm : n + x.n ≠ 0
          · have hPn : Hid (P = cs.set lo ⟨x.r, n + x.n⟩) := by have h := hPs.out; rw [if_pos hm] at h; exact h
            have hmb : (n + x.n != 0) = true := by simpa using hm
            have hwr : wrap64 (n + x.n) = n + x.n := by unfold wrap64; omega
            have hB1 := (hB.below hbw1).setN hx (n + x.n)
            have hGl := hB.lt
            clear hPs hx hB
            go_wp2
            refine bodyPost_ret (v := .agg #[.int .i64 wd, .slice (some ⟨g, 0, none⟩) cs.length cv]) (by simp [results, Try.results28, go_sem, *]) rfl ⟨_, us, G, rfl, ?_, fun _ _ h => h, fun _ _ h => h, ?_, ?_⟩
            · rw [hPn.out]
              refine hB1.keepO (by simp) (fun b hvb => ?_) fun b hgb => ?_
              · cases hvb
                exact (Below.heap_setCell _ _ _ _ (by show g ≠ w.heap.size + 1; omega)).trans (Below.heap_setCell _ _ _ _ (by show g ≠ w.heap.size + 1; omega))
              · have := hGl b hgb
                exact (Below.heap_setCell _ _ _ _ (by show b ≠ w.heap.size + 1; omega)).trans (Below.heap_setCell _ _ _ _ (by show b ≠ w.heap.size + 1; omega))
            · repeat (first | (with_reducible exact hbw1.mono hN) | (with_reducible refine Below.setCell ?_ ?hh _; case hh => (simp; try omega)))
            · exact grown_cell (grown_cell (grown_set hbw1 g _ _) (by simp) _) (by simp) _
          · have hPn : Hid (P = cs.take lo ++ cs.drop (lo + 1)) := by have h := hPs.out; rw [if_neg hm] at h; exact h
            have hmb : (n + x.n != 0) = false := by simpa using hm
            have hm0 : n + x.n = 0 := by omega
            have hwr : wrap64 (n + x.n) = n + x.n := by unfold wrap64; omega
            have hlc : lo ≤ cv := by omega
            have hwI : IntKind.i64.wrap ((lo : Int) + 1) = (lo : Int) + 1 := by rw [IntKind.wrap_i64]; omega
            have hI0 : (0 : Int) ≤ (lo : Int) + 1 := by omega
            have hI1 : (lo : Int) + 1 ≤ cs.length := by omega
            have hTn : ((lo : Int) + 1).toNat = lo + 1 := by omega
            have hB1 := hB.below hbw1
            have hGl := hB.lt
            clear hPs
            go_wp2_with fail
            obtain ⟨i0, fi, f0, f1, f2⟩ := info_parts Try.infoCnt
            refine startE 13 (fun w' => w'.cell? ⟨w.heap.size, 1, none⟩ = some (.slice (some ⟨g, 0, none⟩) cs.length cv)) (by kernel_rfl) ?_ (fun hHeld => ?_)
            · (try dsimp only)
              exact B1
            refine takeE (i := 1) (d := 66) (v := ?_) rfl rfl (by kernel_rfl) (by kernel_rfl) (by kernel_rfl) (by kernel_rfl) (fun _ _ _ h => h) (by rfl) (by assumption) ?_ ?_
            rotate_left
            · intro w' hSw; (try dsimp only at hSw); go_simp; try exact rfl
            try simp only [List.setIfInBounds_toArray, List.set_cons_zero, List.set_cons_succ]
            refine takeE (i := 2) (d := 67) (v := ?_) rfl rfl (by kernel_rfl) (by kernel_rfl) (by kernel_rfl) (by kernel_rfl) (fun _ _ _ h => h) (by rfl) (by assumption) ?_ ?_
            rotate_left
            · intro w' hSw; (try dsimp only at hSw); go_simp; try exact rfl
            try simp only [List.setIfInBounds_toArray, List.set_cons_zero, List.set_cons_succ]
            refine takeE (i := 3) (d := 68) (v := ?_) rfl rfl (by kernel_rfl) (by kernel_rfl) (by kernel_rfl) (by kernel_rfl) (fun _ _ _ h => h) (by rfl) (by assumption) ?_ ?_
            rotate_left
            · intro w' hSw; (try dsimp only at hSw); go_simp; try exact rfl
            try simp only [List.setIfInBounds_toArray, List.set_cons_zero, List.set_cons_succ]
            refine takeE (i := 4) (d := 69) (v := ?_) rfl rfl (by kernel_rfl) (by kernel_rfl) (by kernel_rfl) (by kernel_rfl) (fun _ _ _ h => h) (by rfl) (by assumption) ?_ ?_
            rotate_left
            · intro w' hSw; (try dsimp only at hSw); go_simp; try exact rfl
            try simp only [List.setIfInBounds_toArray, List.set_cons_zero, List.set_cons_succ]
            refine takeE (i := 6) (d := 71) (v := ?_) rfl rfl (by kernel_rfl) (by kernel_rfl) (by kernel_rfl) (by kernel_rfl) (fun _ _ _ h => h) (by rfl) (by assumption) ?_ ?_
            rotate_left
            · intro w' hSw; (try dsimp only at hSw); go_simp; try exact rfl
            try simp only [List.setIfInBounds_toArray, List.set_cons_zero, List.set_cons_succ]
            refine takeE (i := 7) (d := 72) (v := ?_) rfl rfl (by kernel_rfl) (by kernel_rfl) (by kernel_rfl) (by kernel_rfl) (fun _ _ _ h => h) (by rfl) (by assumption) ?_ ?_
            rotate_left
            · intro w' hSw; (try dsimp only at hSw); go_simp; try exact rfl
            try simp only [List.setIfInBounds_toArray, List.set_cons_zero, List.set_cons_succ]
            refine takeE (i := 8) (d := 73) (v := ?_) rfl rfl (by kernel_rfl) (by kernel_rfl) (by kernel_rfl) (by kernel_rfl) (fun _ _ _ h => h) (by rfl) (by assumption) ?_ ?_
            rotate_left
            · intro w' hSw; (try dsimp only at hSw); go_simp; try exact rfl
            try simp only [List.setIfInBounds_toArray, List.set_cons_zero, List.set_cons_succ]
            refine takeE (i := 9) (d := 74) (v := ?_) rfl rfl (by kernel_rfl) (by kernel_rfl) (by kernel_rfl) (by kernel_rfl) (fun _ _ _ h => h) (by rfl) (by assumption) ?_ ?_
            rotate_left
            · intro w' hSw; (try dsimp only at hSw); go_simp; try exact rfl
            try simp only [List.setIfInBounds_toArray, List.set_cons_zero, List.set_cons_succ]
            refine takeE (i := 10) (d := 75) (v := ?_) rfl rfl (by kernel_rfl) (by kernel_rfl) (by kernel_rfl) (by kernel_rfl) (fun _ _ _ h => h) (by rfl) (by assumption) ?_ ?_
            rotate_left
            · intro w' hSw; (try dsimp only at hSw); go_simp; try exact rfl
            try simp only [List.setIfInBounds_toArray, List.set_cons_zero, List.set_cons_succ]
            refine oneE (i := 0) (by kernel_rfl) rfl (fun K hK => ?_)
            go_simp
            refine hK.out _ _ ?_ (fun hHeld0 => ?_)
            · intro _
              (try dsimp only)
              exact (cell_blk (Below.heap_alloc w1 _ _ (by omega))).trans B1
            clear hK
            replace hHeld0 := hHeld0 (by decide)
            try simp only [List.setIfInBounds_toArray, List.set_cons_zero, List.set_cons_succ]
            refine oneE (i := 5) (by kernel_rfl) rfl (fun K hK => ?_)
            refine step_append_src _ (by rfl) _ _ _ (by rfl) w1.heap.size 53 i0 _ 2 32 Try.underlying35 fi f0 f1 f2 rfl (by omega) (.slice (some ⟨w1.heap.size, 0, none⟩) 0 0) 0 [] (by rfl) (own_none (w := w1) rfl (Nat.le_refl _) _ 2) (.slice (some ⟨g, 0, none⟩) lo cv) lo _ (by rfl) (hB1.src1 (by repeat (first | (with_reducible exact Below.refl _ _) | (with_reducible refine Below.drew ?_) | (with_reducible refine Below.alloc ?_ ?hh _; case hh => first | (simp; done) | (simp; omega) | omega) | (with_reducible refine Below.setCell ?_ ?hh _; case hh => first | (simp; done) | (simp; omega) | omega) | refine bstep (by assumption) (by first | (simp; done) | (simp; omega) | omega) ?_)) (by omega)) (cc_one fun u hu => hB1.one u (List.mem_of_mem_take hu)) (by simp only [maxLen]; omega) (by omega) (by simp) ?_
            intro v5 w5 hown5 hgrow5 hat5
            rw [List.nil_append, Nat.zero_add] at hown5
            have hz5 := hgrow5.size
            simp at hz5
            have bel5 : Below w1.heap.size w1 w5 := Below.grown (show Below w1.heap.size w1 _ by repeat (first | (with_reducible exact Below.refl _ _) | (with_reducible refine Below.drew ?_) | (with_reducible refine Below.alloc ?_ ?hh _; case hh => first | (simp; done) | (simp; omega) | omega) | (with_reducible refine Below.setCell ?_ ?hh _; case hh => first | (simp; done) | (simp; omega) | omega) | refine bstep (by assumption) (by first | (simp; done) | (simp; omega) | omega) ?_)) hgrow5 (by simp) (fun b hb => by simp [Value.ownBlock] at hb; omega)
            refine hK.out _ _ ?_ (fun hHeld5 => ?_)
            · intro _
              (try dsimp only)
              exact ((bcell bel5).1 _ _ (by omega)).trans B1
            clear hK
            replace hHeld5 := hHeld5 (by decide)
            try simp only [List.setIfInBounds_toArray, List.set_cons_zero, List.set_cons_succ]
            refine oneE (i := 11) (by kernel_rfl) rfl (fun K hK => ?_)
            refine step_append_src _ (by rfl) _ _ _ (by rfl) w1.heap.size 53 i0 _ 2 32 Try.underlying35 fi f0 f1 f2 rfl (by omega) v5 lo _ (by rfl) hown5 _ (cs.length - (lo + 1)) _ (by rfl) (hB1.src3 bel5 (by omega)) (cc_one fun u hu => hB1.one u (List.mem_of_mem_drop hu)) (by simp only [maxLen]; omega) (by omega) (by omega) ?_
            intro v11 w11 hown11 hgrow11 hat11
            have hz11 := hgrow11.size
            obtain ⟨a11, c11, rfl⟩ := own_shapeX hown11
            have bel11 : Below w1.heap.size w1 w11 := Below.grown bel5 hgrow11 (by omega) (fun b hb => (ownsRow_lt hown5 b hb).1)
            have hBc := hB1.cut (by omega) bel11 hxl (Nat.le_refl _) hown11
            have B011 := ((bcell bel11).1 w.heap.size 0 (by omega)).trans B0
            have B111 := ((bcell bel11).1 w.heap.size 1 (by omega)).trans B1
            have BF11 : ∀ q, w11.frozen? ⟨w.heap.size, q, none⟩ = false := fun q => ((bcell bel11).2 w.heap.size q (by omega)).trans (BF q)
            have T011 := ((bcell bel11).1 (w.heap.size + 1) 0 (by omega)).trans T0
            have T111 := ((bcell bel11).1 (w.heap.size + 1) 1 (by omega)).trans T1
            have TF11 : ∀ q, w11.frozen? ⟨w.heap.size + 1, q, none⟩ = false := fun q => ((bcell bel11).2 (w.heap.size + 1) q (by omega)).trans (TF q)
            refine hK.out _ _ ?_ (fun hHeld11 => ?_)
            · intro _
              (try dsimp only)
              exact B111
            clear hK
            replace hHeld11 := hHeld11 (by decide)
            try simp only [List.setIfInBounds_toArray, List.set_cons_zero, List.set_cons_succ]
            refine takeE (i := 12) (d := 77) (v := ?_) rfl rfl (by kernel_rfl) (by kernel_rfl) (by kernel_rfl) (by kernel_rfl) (fun _ _ _ h => h) (by rfl) (by assumption) ?_ ?_
            rotate_left
            · intro w' hSw; (try dsimp only at hSw); go_simp; try exact rfl
            try simp only [List.setIfInBounds_toArray, List.set_cons_zero, List.set_cons_succ]
            refine oneE (i := 13) (by kernel_rfl) rfl (fun K hK => ?_)
            go_simp
            refine hK.out _ _ ?_ (fun hHeld13 => ?_)
            · exact fun h => absurd rfl h
            clear hK hHeld13
            try simp only [List.setIfInBounds_toArray, List.set_cons_zero, List.set_cons_succ]
            refine doneE (by kernel_rfl) ?_ _
            have belw : Below w.heap.size w w11 := hbw1.trans (bel11.mono hbw1.size)
            clear hB hB1 hc hA hr0
            go_wp2
            all_goals
              refine bodyPost_ret (v := .agg #[.int .i64 wd, .slice a11 (lo + (cs.length - (lo + 1))) c11]) (by simp [results, Try.results28, go_sem, *]) rfl (PutOut.of_below (us' := us.take lo ++ us.drop (lo + 1)) (G' := G.take lo ++ G.drop (lo + 1)) ?_ (fun b hb h => ?_) (fun b hb h => ?_) ?_ hN)
              · rw [hPn.out]
                refine hBc.keepO (by simp) (fun b hvb => ?_) fun b hgb => ?_
                · have := (ownsRow_lt hown11 b hvb).1
                  exact (Below.heap_setCell _ _ _ _ (by show b ≠ w.heap.size + 1; omega)).trans ((Below.heap_setCell _ _ _ _ (by show b ≠ w.heap.size + 1; omega)).trans (Below.heap_setCell _ _ _ _ (by show b ≠ w.heap.size; omega)))
                · have := hGl b (cut_mem hgb)
                  exact (Below.heap_setCell _ _ _ _ (by show b ≠ w.heap.size + 1; omega)).trans ((Below.heap_setCell _ _ _ _ (by show b ≠ w.heap.size + 1; omega)).trans (Below.heap_setCell _ _ _ _ (by show b ≠ w.heap.size; omega)))
              · have := (ownsRow_lt hown11 b h).1
                omega
              · exact cut_mem h
              · repeat (first | (with_reducible exact belw) | (with_reducible refine Below.setCell ?_ ?hh _; case hh => (simp; try omega)))
        · have hPi : Hid (P = if n ≠ 0 then cs.take lo ++ (⟨row, n⟩ : C2) :: cs.drop lo else cs) := by show P = _; rw [← hP.out]; unfold putC; rw [← hlo, hx]; dsimp only; rw [if_neg hcmp]
          clear hlo hP
          have hcb : (cmpRow x.r row == 0) = false := by simpa using hcmp
          by_cases hn : n ≠ 0
          · have hPn : Hid (P = cs.take lo ++ (⟨row, n⟩ : C2) :: cs.drop lo) := by have h := hPi.out; rw [if_pos hn] at h; exact h
            have hlc : lo ≤ cv := by omega
            have hI1 : (lo : Int) ≤ cs.length := by omega
            have hI2 : lo ≤ cs.length := by omega
            have hnb : (n != 0) = true := by simpa using hn
            have hGl := hB.lt
            clear hPi hx
            go_wp2_with fail
            refine Calls.mono (specRow_any u (.slice ar row.length cr) x.r row wr (hR.is.below hb) (hr0.is.below hb)) ?_
            rintro z w1 ⟨rfl, hb1⟩
            have hz1 := hb1.size
            have hbw1 : Below w.heap.size w w1 := hb.trans (hb1.mono hb.size)
            have B0 := ((bcell hb1).1 _ _ (show w.heap.size < wr.heap.size by omega)).trans b0
            have B1 := ((bcell hb1).1 _ _ (show w.heap.size < wr.heap.size by omega)).trans b1
            have BF : ∀ q, w1.frozen? ⟨w.heap.size, q, none⟩ = false := fun q => ((bcell hb1).2 _ q (show w.heap.size < wr.heap.size by omega)).trans (bf q)
            have T0 := ((bcell hb1).1 _ _ hz).trans t0
            have T1 := ((bcell hb1).1 _ _ hz).trans t1
            have TF : ∀ q, w1.frozen? ⟨w.heap.size + 1, q, none⟩ = false := fun q => ((bcell hb1).2 _ q hz).trans (tf q)
            have D1 := ((bcell hb1).1 _ _ hgr).trans d1
            have GF : ∀ q, w1.frozen? ⟨g, q, none⟩ = false := fun q => ((bcell hb1).2 _ q hgr).trans (((bcell hb).2 _ q hgl).trans (gf q))
            have hgr1 : g < w1.heap.size := by omega
            have hgb : g ≠ w.heap.size := by omega
            have hgt : g ≠ w.heap.size + 1 := by omega
            clear hb1 b0 b1 bf t0 t1 tf
            have hB1 := hB.below hbw1
            go_wp2_with fail
            obtain ⟨i0, fi, f0, f1, f2⟩ := info_parts Try.infoCnt
            refine startE 18 (fun w' => w'.cell? ⟨w.heap.size, 1, none⟩ = some (.slice (some ⟨g, 0, none⟩) cs.length cv)) (by kernel_rfl) ?_ (fun hHeld => ?_)
            · (try dsimp only)
              exact B1
            refine takeE (i := 1) (d := 82) (v := ?_) rfl rfl (by kernel_rfl) (by kernel_rfl) (by kernel_rfl) (by kernel_rfl) (fun _ _ _ h => h) (by rfl) (by assumption) ?_ ?_
            rotate_left
            · intro w' hSw; (try dsimp only at hSw); go_simp; try exact rfl
            try simp only [List.setIfInBounds_toArray, List.set_cons_zero, List.set_cons_succ]
            refine takeE (i := 2) (d := 83) (v := ?_) rfl rfl (by kernel_rfl) (by kernel_rfl) (by kernel_rfl) (by kernel_rfl) (fun _ _ _ h => h) (by rfl) (by assumption) ?_ ?_
            rotate_left
            · intro w' hSw; (try dsimp only at hSw); go_simp; try exact rfl
            try simp only [List.setIfInBounds_toArray, List.set_cons_zero, List.set_cons_succ]
            refine takeE (i := 3) (d := 84) (v := ?_) rfl rfl (by kernel_rfl) (by kernel_rfl) (by kernel_rfl) (by kernel_rfl) (fun _ _ _ h => h) (by rfl) (by assumption) ?_ ?_
            rotate_left
            · intro w' hSw; (try dsimp only at hSw); go_simp; try exact rfl
            try simp only [List.setIfInBounds_toArray, List.set_cons_zero, List.set_cons_succ]
            refine takeE (i := 4) (d := 85) (v := ?_) rfl rfl (by kernel_rfl) (by kernel_rfl) (by kernel_rfl) (by kernel_rfl) (fun _ _ _ h => h) (by rfl) (by assumption) ?_ ?_
            rotate_left
            · intro w' hSw; (try dsimp only at hSw); go_simp; try exact rfl
            try simp only [List.setIfInBounds_toArray, List.set_cons_zero, List.set_cons_succ]
            refine takeE (i := 6) (d := 87) (v := ?_) rfl rfl (by kernel_rfl) (by kernel_rfl) (by kernel_rfl) (by kernel_rfl) (fun _ _ _ h => h) (by rfl) (by assumption) ?_ ?_
            rotate_left
            · intro w' hSw; (try dsimp only at hSw); go_simp; try exact rfl
            try simp only [List.setIfInBounds_toArray, List.set_cons_zero, List.set_cons_succ]
            refine takeE (i := 8) (d := 89) (v := ?_) rfl rfl (by kernel_rfl) (by kernel_rfl) (by kernel_rfl) (by kernel_rfl) (fun _ _ _ h => h) (by rfl) (by assumption) ?_ ?_
            rotate_left
            · intro w' hSw; (try dsimp only at hSw); go_simp; try exact rfl
            try simp only [List.setIfInBounds_toArray, List.set_cons_zero, List.set_cons_succ]
            refine takeE (i := 12) (d := 93) (v := ?_) rfl rfl (by kernel_rfl) (by kernel_rfl) (by kernel_rfl) (by kernel_rfl) (fun _ _ _ h => h) (by rfl) (by assumption) ?_ ?_
            rotate_left
            · intro w' hSw; (try dsimp only at hSw); go_simp; try exact rfl
            try simp only [List.setIfInBounds_toArray, List.set_cons_zero, List.set_cons_succ]
            refine takeE (i := 13) (d := 94) (v := ?_) rfl rfl (by kernel_rfl) (by kernel_rfl) (by kernel_rfl) (by kernel_rfl) (fun _ _ _ h => h) (by rfl) (by assumption) ?_ ?_
            rotate_left
            · intro w' hSw; (try dsimp only at hSw); go_simp; try exact rfl
            try simp only [List.setIfInBounds_toArray, List.set_cons_zero, List.set_cons_succ]
            refine takeE (i := 14) (d := 95) (v := ?_) rfl rfl (by kernel_rfl) (by kernel_rfl) (by kernel_rfl) (by kernel_rfl) (fun _ _ _ h => h) (by rfl) (by assumption) ?_ ?_
            rotate_left
            · intro w' hSw; (try dsimp only at hSw); go_simp; try exact rfl
            try simp only [List.setIfInBounds_toArray, List.set_cons_zero, List.set_cons_succ]
            refine takeE (i := 15) (d := 96) (v := ?_) rfl rfl (by kernel_rfl) (by kernel_rfl) (by kernel_rfl) (by kernel_rfl) (fun _ _ _ h => h) (by rfl) (by assumption) ?_ ?_
            rotate_left
            · intro w' hSw; (try dsimp only at hSw); go_simp; try exact rfl
            try simp only [List.setIfInBounds_toArray, List.set_cons_zero, List.set_cons_succ]
            refine oneE (i := 0) (by kernel_rfl) rfl (fun K hK => ?_)
            go_simp
            refine hK.out _ _ ?_ (fun hHeld0 => ?_)
            · intro _
              (try dsimp only)
              exact (cell_blk (Below.heap_alloc w1 _ _ (by omega))).trans B1
            clear hK
            replace hHeld0 := hHeld0 (by decide)
            try simp only [List.setIfInBounds_toArray, List.set_cons_zero, List.set_cons_succ]
            refine oneE (i := 5) (by kernel_rfl) rfl (fun K hK => ?_)
            refine step_append_src _ (by rfl) _ _ _ (by rfl) w1.heap.size 53 i0 _ 2 32 Try.underlying35 fi f0 f1 f2 rfl (by omega) (.slice (some ⟨w1.heap.size, 0, none⟩) 0 0) 0 [] (by rfl) (own_none (w := w1) rfl (Nat.le_refl _) _ 2) (.slice (some ⟨g, 0, none⟩) lo cv) lo _ (by rfl) (hB1.src1 (by repeat (first | (with_reducible exact Below.refl _ _) | (with_reducible refine Below.drew ?_) | (with_reducible refine Below.alloc ?_ ?hh _; case hh => first | (simp; done) | (simp; omega) | omega) | (with_reducible refine Below.setCell ?_ ?hh _; case hh => first | (simp; done) | (simp; omega) | omega) | refine bstep (by assumption) (by first | (simp; done) | (simp; omega) | omega) ?_)) (by omega)) (cc_one fun u hu => hB1.one u (List.mem_of_mem_take hu)) (by simp only [maxLen]; omega) (by omega) (by simp) ?_
            intro v5 w5 hown5 hgrow5 hat5
            rw [List.nil_append, Nat.zero_add] at hown5
            have hz5 := hgrow5.size
            simp at hz5
            have bel5 : Below w1.heap.size w1 w5 := Below.grown (show Below w1.heap.size w1 _ by repeat (first | (with_reducible exact Below.refl _ _) | (with_reducible refine Below.drew ?_) | (with_reducible refine Below.alloc ?_ ?hh _; case hh => first | (simp; done) | (simp; omega) | omega) | (with_reducible refine Below.setCell ?_ ?hh _; case hh => first | (simp; done) | (simp; omega) | omega) | refine bstep (by assumption) (by first | (simp; done) | (simp; omega) | omega) ?_)) hgrow5 (by simp) (fun b hb => by simp [Value.ownBlock] at hb; omega)
            refine hK.out _ _ ?_ (fun hHeld5 => ?_)
            · intro _
              (try dsimp only)
              exact ((bcell bel5).1 _ _ (by omega)).trans B1
            clear hK
            replace hHeld5 := hHeld5 (by decide)
            try simp only [List.setIfInBounds_toArray, List.set_cons_zero, List.set_cons_succ]
            refine oneE (i := 7) (by kernel_rfl) rfl (fun K hK => ?_)
            go_simp
            go_at_call 37
            refine Calls.mono (l02CopyRow_any (.slice ar row.length cr) row g0 _ (hr0.belowX (hbw1.trans (bel5.mono hbw1.size))) hrl) ?_
            rintro e w7 ⟨⟨u7, g7, rfl, hR7, hO7⟩, hb7⟩
            obtain ⟨a7, c7, rfl⟩ := hR7.shapeX
            have hz7 := hb7.size
            have bel7 : Below w1.heap.size w1 w7 := bel5.trans (hb7.mono bel5.size)
            have hown7 := ownsRow_keep hown5 (fun b hb => hb7.block b (ownsRow_lt hown5 b hb).2)
            have hR7l := hR7.lt
            try go_wp2_with fail
            refine hK.out _ _ ?_ (fun hHeld7 => ?_)
            · intro _
              (try dsimp only)
              exact ((bcell bel7).1 _ _ (by omega)).trans B1
            clear hK
            replace hHeld7 := hHeld7 (by decide)
            try simp only [List.setIfInBounds_toArray, List.set_cons_zero, List.set_cons_succ]
            refine takeE (i := 9) (d := 90) (v := ?_) rfl rfl (by kernel_rfl) (by kernel_rfl) (by kernel_rfl) (by kernel_rfl) (fun _ _ _ h => h) (by rfl) (by assumption) ?_ ?_
            rotate_left
            · intro w' hSw; (try dsimp only at hSw); go_simp; try exact rfl
            try simp only [List.setIfInBounds_toArray, List.set_cons_zero, List.set_cons_succ]
            refine oneE (i := 10) (by kernel_rfl) rfl (fun K hK => ?_)
            go_simp
            refine hK.out _ _ ?_ (fun hHeld10 => ?_)
            · intro _
              (try dsimp only)
              exact (cell_blk (Below.heap_alloc w7 _ _ (by omega))).trans (((bcell bel7).1 _ _ (by omega)).trans B1)
            clear hK
            replace hHeld10 := hHeld10 (by decide)
            try simp only [List.setIfInBounds_toArray, List.set_cons_zero, List.set_cons_succ]
            refine oneE (i := 11) (by kernel_rfl) rfl (fun K hK => ?_)
            refine step_append_src _ (by rfl) _ _ _ (by rfl) w1.heap.size 53 i0 _ 2 32 Try.underlying35 fi f0 f1 f2 rfl (by omega) v5 lo _ (by rfl) (ownsRow_keep hown7 fun b hb => Below.heap_alloc w7 _ _ (ownsRow_lt hown7 b hb).2) (.slice (some ⟨w7.heap.size, 0, none⟩) 1 1) 1 [.slice a7 row.length c7, .int .i64 n] (by rfl) ⟨by rfl, .inr ⟨_, _, rfl, World.news_of_block (cs := #[.slice a7 row.length c7, .int .i64 n]) (t := 53) (fr := (0, 0)) (heap_alloc_new w7 _)⟩⟩ (by simp [Value.oneCell']) (by simp only [maxLen]; omega) (by omega) (by simp; omega) ?_
            intro v11 w11 hown11 hgrow11 hat11
            have hz11 := hgrow11.size
            simp at hz11
            have bel11 : Below w1.heap.size w1 w11 := Below.grown (bel7.alloc (by omega) _) hgrow11 (by simp; omega) (fun b hb => (ownsRow_lt hown7 b hb).1)
            refine hK.out _ _ ?_ (fun hHeld11 => ?_)
            · intro _
              (try dsimp only)
              exact ((bcell bel11).1 _ _ (by omega)).trans B1
            clear hK
            replace hHeld11 := hHeld11 (by decide)
            try simp only [List.setIfInBounds_toArray, List.set_cons_zero, List.set_cons_succ]
            refine oneE (i := 16) (by kernel_rfl) rfl (fun K hK => ?_)
            refine step_append_src _ (by rfl) _ _ _ (by rfl) w1.heap.size 53 i0 _ 2 32 Try.underlying35 fi f0 f1 f2 rfl (by omega) v11 (lo + 1) _ (by rfl) hown11 _ (cs.length - lo) _ (by rfl) (by have hsr := hB1.src3 (k := lo) bel11 (by omega); rw [if_neg (by omega)] at hsr; exact hsr) (cc_one fun u hu => hB1.one u (List.mem_of_mem_drop hu)) (by simp only [maxLen]; omega) (by omega) (by omega) ?_
            intro v16 w16 hown16 hgrow16 hat16
            have hz16 := hgrow16.size
            obtain ⟨a16, c16, rfl⟩ := own_shapeX hown16
            have bel16 : Below w1.heap.size w1 w16 := Below.grown bel11 hgrow16 (by omega) (fun b hb => (ownsRow_lt hown11 b hb).1)
            have hv11 : ∀ b, v11.ownBlock = some b → b ∉ g7 := by
              intro b hb hm
              have h1 := hO7.2.1 b hm
              have h2 := hR7l b hm
              rcases hat11 with h | h
              · have := (ownsRow_lt hown5 b (h.symm.trans hb)).2; omega
              · rw [h] at hb; have := Option.some.inj hb; simp at this; omega
            have hv16 : ∀ b, (Value.slice a16 (lo + 1 + (cs.length - lo)) c16).ownBlock = some b → b ∉ g7 := by
              intro b hb hm
              have h2 := hR7l b hm
              rcases hat16 with h | h
              · exact hv11 b (h.symm.trans hb) hm
              · rw [h] at hb; have := Option.some.inj hb; omega
            have hk16 : ∀ b, b < w1.heap.size ∨ b ∈ g7 → w16.heap[b]? = w7.heap[b]? := by
              intro b hb
              rcases hb with hb | hb
              · exact (bel16.block b hb).trans (bel7.block b hb).symm
              · have h1 := hO7.2.1 b hb
                have h2 := hR7l b hb
                refine (hgrow16.block b (by omega) (fun e => hv11 b e.symm hb)).trans ((hgrow11.block b (by simp; omega) (fun e => ?_)).trans (Below.heap_alloc w7 _ _ h2))
                have := (ownsRow_lt hown5 b e.symm).2
                omega
            have hBc := hB1.put (x := ⟨row, n⟩) (by omega) bel7 hR7 ⟨hO7.1, fun b hb => Nat.le_trans bel5.size (hO7.2.1 b hb), hO7.2.2⟩ hk16 (by omega) (k := lo) (by omega) (Nat.le_refl _) hv16 hown16
            have B016 := ((bcell bel16).1 w.heap.size 0 (by omega)).trans B0
            have B116 := ((bcell bel16).1 w.heap.size 1 (by omega)).trans B1
            have BF16 : ∀ q, w16.frozen? ⟨w.heap.size, q, none⟩ = false := fun q => ((bcell bel16).2 w.heap.size q (by omega)).trans (BF q)
            have T016 := ((bcell bel16).1 (w.heap.size + 1) 0 (by omega)).trans T0
            have T116 := ((bcell bel16).1 (w.heap.size + 1) 1 (by omega)).trans T1
            have TF16 : ∀ q, w16.frozen? ⟨w.heap.size + 1, q, none⟩ = false := fun q => ((bcell bel16).2 (w.heap.size + 1) q (by omega)).trans (TF q)
            refine hK.out _ _ ?_ (fun hHeld16 => ?_)
            · intro _
              (try dsimp only)
              exact B116
            clear hK
            replace hHeld16 := hHeld16 (by decide)
            try simp only [List.setIfInBounds_toArray, List.set_cons_zero, List.set_cons_succ]
            refine takeE (i := 17) (d := 98) (v := ?_) rfl rfl (by kernel_rfl) (by kernel_rfl) (by kernel_rfl) (by kernel_rfl) (fun _ _ _ h => h) (by rfl) (by assumption) ?_ ?_
            rotate_left
            · intro w' hSw; (try dsimp only at hSw); go_simp; try exact rfl
            try simp only [List.setIfInBounds_toArray, List.set_cons_zero, List.set_cons_succ]
            refine oneE (i := 18) (by kernel_rfl) rfl (fun K hK => ?_)
            go_simp
            refine hK.out _ _ ?_ (fun hHeld18 => ?_)
            · exact fun h => absurd rfl h
            clear hK hHeld18
            try simp only [List.setIfInBounds_toArray, List.set_cons_zero, List.set_cons_succ]
            refine doneE (by kernel_rfl) ?_ _
            have belw : Below w.heap.size w w16 := hbw1.trans (bel16.mono hbw1.size)
            clear hB hB1 hc hA hr0
            go_wp2
            all_goals
              refine bodyPost_ret (v := .agg #[.int .i64 wd, .slice a16 (lo + 1 + (cs.length - lo)) c16]) (by simp [results, Try.results28, go_sem, *]) rfl (PutOut.of_below (us' := us.take lo ++ .slice a7 row.length c7 :: us.drop lo) (G' := G.take lo ++ g7 :: G.drop lo) ?_ (fun b hb h => ?_) (fun b hb h => ?_) ?_ hN)
              · rw [hPn.out]
                refine hBc.keepO (by simp) (fun b hvb => ?_) fun b hgb => ?_
                · have := (ownsRow_lt hown16 b hvb).1
                  exact (Below.heap_setCell _ _ _ _ (by show b ≠ w.heap.size + 1; omega)).trans ((Below.heap_setCell _ _ _ _ (by show b ≠ w.heap.size + 1; omega)).trans (Below.heap_setCell _ _ _ _ (by show b ≠ w.heap.size; omega)))
                · have : b < w.heap.size ∨ w.heap.size + 1 < b := (put_mem hgb).elim (fun h => .inl (hGl b h)) (fun h => .inr (by have := hO7.2.1 b h; omega))
                  exact (Below.heap_setCell _ _ _ _ (by show b ≠ w.heap.size + 1; omega)).trans ((Below.heap_setCell _ _ _ _ (by show b ≠ w.heap.size + 1; omega)).trans (Below.heap_setCell _ _ _ _ (by show b ≠ w.heap.size; omega)))
              · have := (ownsRow_lt hown16 b h).1
                omega
              · exact (put_mem h).elim id (fun h => absurd (hO7.2.1 b h) (by omega))
              · repeat (first | (with_reducible exact belw) | (with_reducible refine Below.setCell ?_ ?hh _; case hh => (simp; try omega)))
          · have hPn : Hid (P = cs) := by have h := hPi.out; rw [if_neg hn] at h; exact h
            have hn0' : n = 0 := by omega
            subst hn0'
            clear hPi hx
            go_wp2_with fail
            refine Calls.mono (specRow_any u (.slice ar row.length cr) x.r row wr (hR.is.below hb) (hr0.is.below hb)) ?_
            rintro z w1 ⟨rfl, hb1⟩
            have hz1 := hb1.size
            have hbw1 : Below w.heap.size w w1 := hb.trans (hb1.mono hb.size)
            have B0 := ((bcell hb1).1 _ _ (show w.heap.size < wr.heap.size by omega)).trans b0
            have B1 := ((bcell hb1).1 _ _ (show w.heap.size < wr.heap.size by omega)).trans b1
            have BF : ∀ q, w1.frozen? ⟨w.heap.size, q, none⟩ = false := fun q => ((bcell hb1).2 _ q (show w.heap.size < wr.heap.size by omega)).trans (bf q)
            have T0 := ((bcell hb1).1 _ _ hz).trans t0
            have T1 := ((bcell hb1).1 _ _ hz).trans t1
            have TF : ∀ q, w1.frozen? ⟨w.heap.size + 1, q, none⟩ = false := fun q => ((bcell hb1).2 _ q hz).trans (tf q)
            have D1 := ((bcell hb1).1 _ _ hgr).trans d1
            have GF : ∀ q, w1.frozen? ⟨g, q, none⟩ = false := fun q => ((bcell hb1).2 _ q hgr).trans (((bcell hb).2 _ q hgl).trans (gf q))
            have hgr1 : g < w1.heap.size := by omega
            have hgb : g ≠ w.heap.size := by omega
            have hgt : g ≠ w.heap.size + 1 := by omega
            clear hb1 b0 b1 bf t0 t1 tf
            go_wp2
            refine bodyPost_ret (v := .agg #[.int .i64 wd, .slice (some ⟨g, 0, none⟩) cs.length cv]) (by simp [results, Try.results28, go_sem, *]) rfl (PutOut.of_below (us' := us) (G' := G) ?_ (fun _ _ h => h) (fun _ _ h => h) ?_ hN)
            · rw [hPn.out]
              exact hB.below (by repeat (first | (with_reducible exact hbw1) | (with_reducible refine Below.setCell ?_ ?hh _; case hh => (simp; try omega))))
            · repeat (first | (with_reducible exact hbw1) | (with_reducible refine Below.setCell ?_ ?hh _; case hh => (simp; try omega)))
end Go.Proofs.Ytooeohhkcemoiaa
/- Own text. A bag that is copied by the model: the contract of spec.l02Copy. -/
namespace Go.Proofs.Ytooeohhkcemoiaa
open Go.RowKit Go.Deep Go.ChangeShapes Go.WideShapes
set_option linter.unusedVariables false
set_option maxHeartbeats 4000000 in
set_option maxRecDepth 100000 in
theorem l02Copy_any (W : Int) (v : Value) (cs : List C2) (F : List Nat) (w : World) (hr : RowsF w v cs F) (hn : wtb cs ≤ 1048576) :
    Calls Try.prog 27 #[.agg #[.int .i64 W, v]] w fun e w' => (∃ u us G, e = .returned (.agg #[.int .i64 W, u]) ∧ BagOwn w' w.heap.size u cs us G) ∧ Below w.heap.size w w' := by
  obtain ⟨i0, hi, hz0, hz1, hz2⟩ := info_parts Try.infoCnt
  obtain ⟨a, c, b, o, G0, rfl, hl, hc, _, hG0, _, hC, ha⟩ := hr.pick
  unfold maxLen at hc
  clear hr
  have hn1 : cs.length ≤ 1048576 := by unfold wtb at hn; omega
  go_enter Try.func27, Try.ntmps27
  go_wp2
  go_loopw [4] (fun i wr => ∃ (k : Nat) (y : Value) (us : List Value) (G : List (List Nat)), k ≤ cs.length ∧ i = .int .i64 k ∧ wr.cell? ⟨w.heap.size, 0, none⟩ = some (.int .i64 W) ∧ wr.cell? ⟨w.heap.size, 1, none⟩ = some (.slice a cs.length c) ∧ wr.cell? ⟨w.heap.size + 1 + 1, 0, none⟩ = some (.int .i64 W) ∧ wr.cell? ⟨w.heap.size + 1 + 1, 1, none⟩ = some y ∧ (∀ q, wr.frozen? ⟨w.heap.size + 1 + 1, q, none⟩ = false) ∧ wr.cell? ⟨w.heap.size + 1, 0, none⟩ = some (.int .i64 0) ∧ wr.cell? ⟨w.heap.size + 1, 1, none⟩ = some (.slice none 0 0) ∧ (∀ q, wr.frozen? ⟨w.heap.size + 1, q, none⟩ = false) ∧ BagOwn wr (w.heap.size + 1 + 1 + 1) y (cs.take k) us G ∧ Below w.heap.size w wr ∧ w.heap.size + 1 + 1 + 1 ≤ wr.heap.size) (fun i _ => cs.length - (intOf i).toNat)
  case atStart =>
    refine ⟨0, .slice none 0 0, [], [], Nat.zero_le _, rfl, by go_simp, by go_simp, by go_simp, by go_simp, fun q => by go_simp, by go_simp, by go_simp, fun q => by go_simp, BagOwn.nil _ _, by repeat (first | (with_reducible exact Below.refl _ _) | (with_reducible refine Below.drew ?_) | (with_reducible refine Below.alloc ?_ ?hh _; case hh => first | (simp; done) | (simp; omega) | omega) | (with_reducible refine Below.setCell ?_ ?hh _; case hh => first | (simp; done) | (simp; omega) | omega) | refine bstep (by assumption) (by first | (simp; done) | (simp; omega) | omega) ?_), by simp⟩
  case round =>
    obtain ⟨k, y, us, G, hk, rfl, b0, b1, p0, p1, pf, r0, r1, rf, hB, hb, hzb⟩ := hrel
    by_cases hlt : k < cs.length
    · obtain ⟨rfl, hblt, _⟩ := ha k hlt
      obtain ⟨x, u0, g0, hx, _, c0, hR, c1, hbr⟩ := hC.at hG0 hblt hb hlt
      obtain ⟨a0, n0, rfl⟩ := hR.shape
      have HX : Hid (cs[k]? = some x) := hx
      have hxn : x.r.length ≤ 1048576 := by have := wt_mem (List.mem_of_getElem? hx); unfold wt at this; unfold wtb at hn; omega
      have htk : (cs.take k).length = k := by simp; omega
      have hvl := ownsRow_lt hB.own
      have hv2 : y.ownBlock ≠ some (w.heap.size + 1 + 1) := fun e => by have := (hvl _ e).1; omega
      have hvr : y.ownBlock ≠ some (w.heap.size + 1) := fun e => by have := (hvl _ e).1; omega
      have hvT : ∀ b, b ≤ w.heap.size → y.ownBlock ≠ some b := fun b hb e => by have := (hvl _ e).1; omega
      have hkI : (k : Int) < cs.length := by omega
      have hGl := hB.lt
      have HT : Hid (cs.take (k + 1) = cs.take k ++ [x]) := take_snoc hx
      generalize cs.take k = ct at *
      have hml : ct.length + 1 ≤ maxLen := by unfold maxLen; omega
      have hby : (ct.length + 1) * 32 ≤ 140737488355328 := by omega
      clear ha hC hx htk hvl
      go_wp2_with fail
      -- region
      refine startE 19 (fun w' => w'.cell? ⟨w.heap.size + 1 + 1, 1, none⟩ = some y ∧ w'.cell? ⟨w.heap.size, 1, none⟩ = some (.slice (some ⟨b, o, none⟩) cs.length c) ∧ w'.cell? ⟨b, o + k * 2, none⟩ = some (.slice a0 x.r.length n0) ∧ w'.cell? ⟨b, o + k * 2 + 1, none⟩ = some (.int .i64 x.n)) (by kernel_rfl) ?_ (fun hHeld => ?_)
      · (try dsimp only)
        exact ⟨p1, b1, c0, c1⟩
      refine takeE (i := 0) (d := 15) (v := ?_) rfl rfl (by kernel_rfl) (by kernel_rfl) (by kernel_rfl) (by kernel_rfl) (fun _ _ _ h => h) (by rfl) (by assumption) ?_ ?_
      rotate_left
      · intro w' hSw; (try dsimp only at hSw); go_simp; try exact rfl
      try simp only [List.setIfInBounds_toArray, List.set_cons_zero, List.set_cons_succ]
      refine takeE (i := 1) (d := 16) (v := ?_) rfl rfl (by kernel_rfl) (by kernel_rfl) (by kernel_rfl) (by kernel_rfl) (fun _ _ _ h => h) (by rfl) (by assumption) ?_ ?_
      rotate_left
      · intro w' hSw; (try dsimp only at hSw); go_simp; try exact rfl
      try simp only [List.setIfInBounds_toArray, List.set_cons_zero, List.set_cons_succ]
      refine takeE (i := 2) (d := 17) (v := ?_) rfl rfl (by kernel_rfl) (by kernel_rfl) (by kernel_rfl) (by kernel_rfl) (fun _ _ _ h => h) (by rfl) (by assumption) ?_ ?_
      rotate_left
      · intro w' hSw; (try dsimp only at hSw); go_simp; try exact rfl
      try simp only [List.setIfInBounds_toArray, List.set_cons_zero, List.set_cons_succ]
      refine takeE (i := 3) (d := 18) (v := ?_) rfl rfl (by kernel_rfl) (by kernel_rfl) (by kernel_rfl) (by kernel_rfl) (fun _ _ _ h => h) (by rfl) (by assumption) ?_ ?_
      rotate_left
      · intro w' hSw; (try dsimp only at hSw); go_simp; try exact rfl
      try simp only [List.setIfInBounds_toArray, List.set_cons_zero, List.set_cons_succ]
      refine takeE (i := 4) (d := 19) (v := ?_) rfl rfl (by kernel_rfl) (by kernel_rfl) (by kernel_rfl) (by kernel_rfl) (fun _ _ _ h => h) (by rfl) (by assumption) ?_ ?_
      rotate_left
      · intro w' hSw; (try dsimp only at hSw); go_simp; try exact rfl
      try simp only [List.setIfInBounds_toArray, List.set_cons_zero, List.set_cons_succ]
      refine takeE (i := 5) (d := 20) (v := ?_) rfl rfl (by kernel_rfl) (by kernel_rfl) (by kernel_rfl) (by kernel_rfl) (fun _ _ _ h => h) (by rfl) (by assumption) ?_ ?_
      rotate_left
      · intro w' hSw; (try dsimp only at hSw); go_simp; try exact rfl
      try simp only [List.setIfInBounds_toArray, List.set_cons_zero, List.set_cons_succ]
      refine takeE (i := 6) (d := 21) (v := ?_) rfl rfl (by kernel_rfl) (by kernel_rfl) (by kernel_rfl) (by kernel_rfl) (fun _ _ _ h => h) (by rfl) (by assumption) ?_ ?_
      rotate_left
      · intro w' hSw; (try dsimp only at hSw); go_simp; try exact rfl
      try simp only [List.setIfInBounds_toArray, List.set_cons_zero, List.set_cons_succ]
      refine takeE (i := 7) (d := 22) (v := ?_) rfl rfl (by kernel_rfl) (by kernel_rfl) (by kernel_rfl) (by kernel_rfl) (fun _ _ _ h => h) (by rfl) (by assumption) ?_ ?_
      rotate_left
      · intro w' hSw; (try dsimp only at hSw); go_simp; try exact rfl
      try simp only [List.setIfInBounds_toArray, List.set_cons_zero, List.set_cons_succ]
      refine takeE (i := 9) (d := 24) (v := ?_) rfl rfl (by kernel_rfl) (by kernel_rfl) (by kernel_rfl) (by kernel_rfl) (fun _ _ _ h => h) (by rfl) (by assumption) ?_ ?_
      rotate_left
      · intro w' hSw; (try dsimp only at hSw); go_simp; try exact rfl
      try simp only [List.setIfInBounds_toArray, List.set_cons_zero, List.set_cons_succ]
      refine takeE (i := 10) (d := 25) (v := ?_) rfl rfl (by kernel_rfl) (by kernel_rfl) (by kernel_rfl) (by kernel_rfl) (fun _ _ _ h => h) (by rfl) (by assumption) ?_ ?_
      rotate_left
      · intro w' hSw; (try dsimp only at hSw); go_simp; try exact rfl
      try simp only [List.setIfInBounds_toArray, List.set_cons_zero, List.set_cons_succ]
      refine takeE (i := 11) (d := 26) (v := ?_) rfl rfl (by kernel_rfl) (by kernel_rfl) (by kernel_rfl) (by kernel_rfl) (fun _ _ _ h => h) (by rfl) (by assumption) ?_ ?_
      rotate_left
      · intro w' hSw; (try dsimp only at hSw); go_simp; try exact rfl
      try simp only [List.setIfInBounds_toArray, List.set_cons_zero, List.set_cons_succ]
      refine takeE (i := 12) (d := 27) (v := ?_) rfl rfl (by kernel_rfl) (by kernel_rfl) (by kernel_rfl) (by kernel_rfl) (fun _ _ _ h => h) (by rfl) (by assumption) ?_ ?_
      rotate_left
      · intro w' hSw; (try dsimp only at hSw); go_simp; try exact rfl
      try simp only [List.setIfInBounds_toArray, List.set_cons_zero, List.set_cons_succ]
      refine takeE (i := 13) (d := 28) (v := ?_) rfl rfl (by kernel_rfl) (by kernel_rfl) (by kernel_rfl) (by kernel_rfl) (fun _ _ _ h => h) (by rfl) (by assumption) ?_ ?_
      rotate_left
      · intro w' hSw; (try dsimp only at hSw); go_simp; try exact rfl
      try simp only [List.setIfInBounds_toArray, List.set_cons_zero, List.set_cons_succ]
      refine takeE (i := 14) (d := 29) (v := ?_) rfl rfl (by kernel_rfl) (by kernel_rfl) (by kernel_rfl) (by kernel_rfl) (fun _ _ _ h => h) (by rfl) (by assumption) ?_ ?_
      rotate_left
      · intro w' hSw; (try dsimp only at hSw); go_simp; try exact rfl
      try simp only [List.setIfInBounds_toArray, List.set_cons_zero, List.set_cons_succ]
      refine oneE (i := 8) (by kernel_rfl) rfl (fun K hK => ?_)
      go_simp
      go_at_call 37
      refine Calls.mono (l02CopyRow_any (.slice a0 x.r.length n0) x.r g0 _ (hR.below ?hbb) hxn) ?_
      case hbb => repeat (first | (with_reducible exact Below.refl _ _) | (with_reducible refine Below.drew ?_) | (with_reducible refine Below.alloc ?_ ?hh _; case hh => first | (simp; done) | (simp; omega) | omega) | (with_reducible refine Below.setCell ?_ ?hh _; case hh => first | (simp; done) | (simp; omega) | omega) | refine bstep (by assumption) (by first | (simp; done) | (simp; omega) | omega) ?_)
      rintro e w2 ⟨⟨u2, g2, rfl, hR2, hO2⟩, hb2⟩
      obtain ⟨a2, n2, rfl⟩ := hR2.shape
      have hzw2 := hb2.size
      rw [show wr.drew.heap.size = wr.heap.size from rfl] at hzw2
      have bel2 : Below wr.heap.size wr w2 := by repeat (first | (with_reducible exact Below.refl _ _) | (with_reducible refine Below.drew ?_) | (with_reducible refine Below.alloc ?_ ?hh _; case hh => first | (simp; done) | (simp; omega) | omega) | (with_reducible refine Below.setCell ?_ ?hh _; case hh => first | (simp; done) | (simp; omega) | omega) | refine bstep (by assumption) (by first | (simp; done) | (simp; omega) | omega) ?_)
      have hB2 := hB.below bel2
      have pf2 : ∀ q, w2.frozen? ⟨w.heap.size + 1 + 1, q, none⟩ = false := fun q => ((bcell bel2).2 _ q (by omega)).trans (pf q)
      have rf2 : ∀ q, w2.frozen? ⟨w.heap.size + 1, q, none⟩ = false := fun q => ((bcell bel2).2 _ q (by omega)).trans (rf q)
      have p02 := ((bcell bel2).1 (w.heap.size + 1 + 1) 0 (by omega)).trans p0
      have p12 := ((bcell bel2).1 (w.heap.size + 1 + 1) 1 (by omega)).trans p1
      have r02 := ((bcell bel2).1 (w.heap.size + 1) 0 (by omega)).trans r0
      have r12 := ((bcell bel2).1 (w.heap.size + 1) 1 (by omega)).trans r1
      have b02 := ((bcell bel2).1 w.heap.size 0 (by omega)).trans b0
      have b12 := ((bcell bel2).1 w.heap.size 1 (by omega)).trans b1
      have c02 := ((bcell bel2).1 b (o + k * 2) (by omega)).trans c0
      have c12 := ((bcell bel2).1 b (o + k * 2 + 1) (by omega)).trans c1
      try go_wp2_with fail
      refine hK.out _ _ ?_ (fun hHeld8 => ?_)
      · intro _
        (try dsimp only)
        exact ⟨p12, b12, c02, c12⟩
      clear hK
      replace hHeld8 := hHeld8 (by decide)
      try simp only [List.setIfInBounds_toArray, List.set_cons_zero, List.set_cons_succ]
      refine takeE (i := 15) (d := 30) (v := ?_) rfl rfl (by kernel_rfl) (by kernel_rfl) (by kernel_rfl) (by kernel_rfl) (fun _ _ _ h => h) (by rfl) (by assumption) ?_ ?_
      rotate_left
      · intro w' hSw; (try dsimp only at hSw); go_simp; try exact rfl
      try simp only [List.setIfInBounds_toArray, List.set_cons_zero, List.set_cons_succ]
      refine oneE (i := 16) (by kernel_rfl) rfl (fun K hK => ?_)
      go_simp
      refine hK.out _ _ ?_ (fun hHeld16 => ?_)
      · intro _
        (try dsimp only)
        exact ⟨(cell_blk (Below.heap_alloc w2 _ _ (by omega))).trans p12, (cell_blk (Below.heap_alloc w2 _ _ (by omega))).trans b12, (cell_blk (Below.heap_alloc w2 _ _ (by omega))).trans c02, (cell_blk (Below.heap_alloc w2 _ _ (by omega))).trans c12⟩
      clear hK
      replace hHeld16 := hHeld16 (by decide)
      try simp only [List.setIfInBounds_toArray, List.set_cons_zero, List.set_cons_succ]
      refine oneE (i := 17) (by kernel_rfl) rfl (fun K hK => ?_)
      refine step_append_lies _ (by rfl) _ _ _ (by rfl) (w.heap.size + 1 + 1 + 1) 53 i0 _ 2 32 Try.underlying35 hi hz0 hz1 hz2 rfl (by omega) y ct.length (cc us ct) (by rfl) (hB2.own.alloc _) ⟨w2.heap.size, 0, none⟩ 1 1 [.slice a2 x.r.length n2, .int .i64 x.n] (by rfl) (by rfl) (World.news_of_block (cs := #[.slice a2 x.r.length n2, .int .i64 x.n]) (t := 53) (fr := (0, 0)) (heap_alloc_new w2 _)) (by simp [Value.oneCell']) (by omega) hml hby (by simp; omega) (w2.heap.size + 1) (by simp) ?_
      intro gg cap w3 hown3 hgrow hat hlt3
      have hz3 := hgrow.size
      simp at hz3
      have far : ∀ b q, b < w2.heap.size → y.ownBlock ≠ some b → w3.cell? ⟨b, q, none⟩ = w2.cell? ⟨b, q, none⟩ := fun b q hb hne => (hgrow.cell_far _ (by simp; omega) (Ne.symm hne)).trans (cell_blk (Below.heap_alloc _ _ _ hb))
      have farf : ∀ b q, b < w2.heap.size → y.ownBlock ≠ some b → w3.frozen? ⟨b, q, none⟩ = w2.frozen? ⟨b, q, none⟩ := fun b q hb hne => (hgrow.frozen_far _ (by simp; omega) (Ne.symm hne)).trans (frozen_blk (Below.heap_alloc _ _ _ hb))
      have pf3 : ∀ q, w3.frozen? ⟨w.heap.size + 1 + 1, q, none⟩ = false := fun q => (farf _ q (by omega) hv2).trans (pf2 q)
      have rf3 : ∀ q, w3.frozen? ⟨w.heap.size + 1, q, none⟩ = false := fun q => (farf _ q (by omega) hvr).trans (rf2 q)
      have p03 := (far (w.heap.size + 1 + 1) 0 (by omega) hv2).trans p02
      have p13 := (far (w.heap.size + 1 + 1) 1 (by omega) hv2).trans p12
      have r03 := (far (w.heap.size + 1) 0 (by omega) hvr).trans r02
      have r13 := (far (w.heap.size + 1) 1 (by omega) hvr).trans r12
      have hBp := BagOwn.push (hB2.below ((Below.refl _ _).alloc (Nat.le_refl _) (.cells #[.slice a2 x.r.length n2, .int .i64 x.n] 53))) (hR2.below ((Below.refl _ _).alloc (Nat.le_refl _) _)) ⟨hO2.1, fun b hb => by have := hO2.2.1 b hb; have : wr.drew.heap.size = wr.heap.size := rfl; omega, fun b hb q => (frozen_blk (Below.heap_alloc _ _ _ (hR2.lt b hb))).trans (hO2.2.2 b hb q)⟩ (fun b hb hb' => by have := hO2.2.1 b hb'; have := hGl b hb; simp at *; omega) (fun b hb hb' => by have := hO2.2.1 b hb'; have := (ownsRow_lt hB.own b hb).2; simp at *; omega) hown3 hgrow (fun b hb => by simp [Value.ownBlock] at hb; subst hb; rcases hat with h | h; exact .inl h; exact .inr (by simp; omega))
      have bel3 : Below w.heap.size w w3 := Below.grown (by repeat (first | (with_reducible exact Below.refl _ _) | (with_reducible refine Below.drew ?_) | (with_reducible refine Below.alloc ?_ ?hh _; case hh => first | (simp; done) | (simp; omega) | omega) | (with_reducible refine Below.setCell ?_ ?hh _; case hh => first | (simp; done) | (simp; omega) | omega) | refine bstep (by assumption) (by first | (simp; done) | (simp; omega) | omega) ?_)) hgrow (by simp; omega) (fun b hb => by have := (ownsRow_lt hB.own b hb).1; omega)
      have b03 := (far w.heap.size 0 (by omega) (hvT _ (Nat.le_refl _))).trans b02
      have b13 := (far w.heap.size 1 (by omega) (hvT _ (Nat.le_refl _))).trans b12
      have c03 := (far b (o + k * 2) (by omega) (hvT _ (by omega))).trans c02
      have c13 := (far b (o + k * 2 + 1) (by omega) (hvT _ (by omega))).trans c12
      refine hK.out _ _ ?_ (fun hHeld17 => ?_)
      · intro _
        (try dsimp only)
        exact ⟨p13, b13, c03, c13⟩
      clear hK
      replace hHeld17 := hHeld17 (by decide)
      try simp only [List.setIfInBounds_toArray, List.set_cons_zero, List.set_cons_succ]
      refine takeE (i := 18) (d := 33) (v := ?_) rfl rfl (by kernel_rfl) (by kernel_rfl) (by kernel_rfl) (by kernel_rfl) (fun _ _ _ h => h) (by rfl) (by assumption) ?_ ?_
      rotate_left
      · intro w' hSw; (try dsimp only at hSw); go_simp; try exact rfl
      try simp only [List.setIfInBounds_toArray, List.set_cons_zero, List.set_cons_succ]
      refine oneE (i := 19) (by kernel_rfl) rfl (fun K hK => ?_)
      go_simp
      refine hK.out _ _ ?_ (fun hHeld19 => ?_)
      · exact fun h => absurd rfl h
      clear hK hHeld19
      try simp only [List.setIfInBounds_toArray, List.set_cons_zero, List.set_cons_succ]
      refine doneE (by kernel_rfl) ?_ _
      -- end of the region
      have Q0 : (w3.setCell ⟨w.heap.size + 1 + 1, 1, none⟩ (.slice (some ⟨gg, 0, none⟩) (ct.length + 1) cap)).cell? ⟨w.heap.size, 0, none⟩ = some (.int .i64 W) := (World.cell?_setCell_other _ _ _ _ (by simp; try omega)).trans b03
      have Q1 : (w3.setCell ⟨w.heap.size + 1 + 1, 1, none⟩ (.slice (some ⟨gg, 0, none⟩) (ct.length + 1) cap)).cell? ⟨w.heap.size, 1, none⟩ = some (.slice (some ⟨b, o, none⟩) cs.length c) := (World.cell?_setCell_other _ _ _ _ (by simp; try omega)).trans b13
      have P0 : (w3.setCell ⟨w.heap.size + 1 + 1, 1, none⟩ (.slice (some ⟨gg, 0, none⟩) (ct.length + 1) cap)).cell? ⟨w.heap.size + 1 + 1, 0, none⟩ = some (.int .i64 W) := (World.cell?_setCell_other _ _ _ _ (by simp)).trans p03
      have P1 : (w3.setCell ⟨w.heap.size + 1 + 1, 1, none⟩ (.slice (some ⟨gg, 0, none⟩) (ct.length + 1) cap)).cell? ⟨w.heap.size + 1 + 1, 1, none⟩ = some (.slice (some ⟨gg, 0, none⟩) (ct.length + 1) cap) := World.cell?_setCell_same _ _ _ p13
      have PF : ∀ q, (w3.setCell ⟨w.heap.size + 1 + 1, 1, none⟩ (.slice (some ⟨gg, 0, none⟩) (ct.length + 1) cap)).frozen? ⟨w.heap.size + 1 + 1, q, none⟩ = false := fun q => by simpa using pf3 q
      have R0 : (w3.setCell ⟨w.heap.size + 1 + 1, 1, none⟩ (.slice (some ⟨gg, 0, none⟩) (ct.length + 1) cap)).cell? ⟨w.heap.size + 1, 0, none⟩ = some (.int .i64 0) := (World.cell?_setCell_other _ _ _ _ (by simp)).trans r03
      have R1 : (w3.setCell ⟨w.heap.size + 1 + 1, 1, none⟩ (.slice (some ⟨gg, 0, none⟩) (ct.length + 1) cap)).cell? ⟨w.heap.size + 1, 1, none⟩ = some (.slice none 0 0) := (World.cell?_setCell_other _ _ _ _ (by simp)).trans r13
      have RF : ∀ q, (w3.setCell ⟨w.heap.size + 1 + 1, 1, none⟩ (.slice (some ⟨gg, 0, none⟩) (ct.length + 1) cap)).frozen? ⟨w.heap.size + 1, q, none⟩ = false := fun q => by simpa using rf3 q
      have hBs := hBp.keep (w' := w3.setCell ⟨w.heap.size + 1 + 1, 1, none⟩ (.slice (some ⟨gg, 0, none⟩) (ct.length + 1) cap)) (by simp) (fun b hb _ => Below.heap_setCell _ _ _ _ (by simp; omega))
      rw [← HT.out] at hBs
      have belS : Below w.heap.size w (w3.setCell ⟨w.heap.size + 1 + 1, 1, none⟩ (.slice (some ⟨gg, 0, none⟩) (ct.length + 1) cap)) := bel3.setCell (by simp; omega) _
      have hzS : w.heap.size + 1 + 1 + 1 ≤ (w3.setCell ⟨w.heap.size + 1 + 1, 1, none⟩ (.slice (some ⟨gg, 0, none⟩) (ct.length + 1) cap)).heap.size := by simp; omega
      clear hown3 hgrow hat far farf hBp hB2 hR2 hO2 hb2 hB p03 p13 pf3 r03 r13 rf3
      go_wp2
      exact ⟨⟨k + 1, _, _, _, hlt, by simp, Q0, Q1, P0, P1, PF, R0, R1, RF, hBs, belS, hzS⟩, by simp [intOf]; omega⟩
    · obtain rfl : k = cs.length := by omega
      rw [List.take_length] at hB
      obtain ⟨ay, cy, rfl⟩ := hB.shape
      clear ha hC
      go_wp2
      refine bodyPost_ret (v := .agg #[.int .i64 W, .slice ay cs.length cy]) (by simp [results, Try.results27, go_sem, *]) rfl ⟨⟨_, us, G, rfl, (hB.keep (by simp) fun b hb _ => ?_).weak (by omega)⟩, ?_⟩
      · repeat rw [Below.heap_setCell _ _ _ _ (by simp; omega)]
      · repeat (first | (with_reducible exact hb) | (with_reducible refine Below.setCell ?_ ?hh _; case hh => (simp; try omega)))
end Go.Proofs.Ytooeohhkcemoiaa
/- Own text. Two bags together: the contract of spec.l02Sum. -/
namespace Go.Proofs.Ytooeohhkcemoiaa
open Go.RowKit Go.Deep Go.ChangeShapes Go.WideShapes
set_option linter.unusedVariables false
set_option maxHeartbeats 4000000 in
set_option maxRecDepth 100000 in
theorem l02Sum_any (W Wb n : Int) (va vb : Value) (cs ds : List C2) (F F2 : List Nat) (w : World) (ha : RowsF w va cs F) (hb : RowsF w vb ds F2) (hn : wtb cs ≤ 1048576) (hn2 : wtb ds ≤ 1048576) (hA : Asc cs) (hz : ∀ c ∈ cs, c.n ≠ 0)
    (hc : ∀ c ∈ cs, -1000000000000 ≤ c.n ∧ c.n ≤ 1000000000000) (hd : ∀ x ∈ ds, -1000000000000 ≤ n * x.n ∧ n * x.n ≤ 1000000000000) (P : List C2) (hP : Hid (sumC cs ds n = P)) :
    Calls Try.prog 14 #[.agg #[.int .i64 W, va], .agg #[.int .i64 Wb, vb], .int .i64 n] w fun e w' => (∃ u us G, e = .returned (.agg #[.int .i64 W, u]) ∧ BagOwn w' w.heap.size u P us G) ∧ Below w.heap.size w w' := by
  have ha' := ha
  obtain ⟨aa, ca, GA, rfl, _⟩ := ha'
  obtain ⟨a, c, b, o, G0, rfl, hl, hcm, _, hG0, _, hC, hat⟩ := hb.pick
  unfold maxLen at hcm
  have hl1 : cs.length ≤ 1048576 := by unfold wtb at hn; omega
  have hl2 : ds.length ≤ 1048576 := by unfold wtb at hn2; omega
  go_enter Try.func14, Try.ntmps14
  go_wp2_with fail
  refine Calls.mono (l02Copy_any W _ cs F _ (ha.below ?hbb) hn) ?_
  case hbb => repeat (first | (with_reducible exact Below.refl _ _) | (with_reducible refine Below.drew ?_) | (with_reducible refine Below.alloc ?_ ?hh _; case hh => first | (simp; done) | (simp; omega) | omega) | (with_reducible refine Below.setCell ?_ ?hh _; case hh => first | (simp; done) | (simp; omega) | omega) | refine bstep (by assumption) (by first | (simp; done) | (simp; omega) | omega) ?_)
  rintro e w2 ⟨⟨u2, us2, G2, rfl, hB2⟩, hb2⟩
  obtain ⟨a2, c2, rfl⟩ := hB2.shape
  have hz2 := hb2.size
  simp at hz2
  have hB2' : BagOwn w2 (w.heap.size + 1 + 1 + 1) (.slice a2 cs.length c2) cs us2 G2 := by simpa using hB2
  have bel2 : Below w.heap.size w w2 := by repeat (first | (with_reducible exact Below.refl _ _) | (with_reducible refine Below.drew ?_) | (with_reducible refine Below.alloc ?_ ?hh _; case hh => first | (simp; done) | (simp; omega) | omega) | (with_reducible refine Below.setCell ?_ ?hh _; case hh => first | (simp; done) | (simp; omega) | omega) | refine bstep (by assumption) (by first | (simp; done) | (simp; omega) | omega) ?_)
  have d0 : w2.cell? ⟨w.heap.size + 1, 0, none⟩ = some (.int .i64 Wb) := cell_later hb2 (by go_simp)
  have d1 : w2.cell? ⟨w.heap.size + 1, 1, none⟩ = some (.slice a ds.length c) := cell_later hb2 (by go_simp)
  have r0 : w2.cell? ⟨w.heap.size + 1 + 1, 0, none⟩ = some (.int .i64 0) := cell_later hb2 (by go_simp)
  have r1 : w2.cell? ⟨w.heap.size + 1 + 1, 1, none⟩ = some (.slice none 0 0) := cell_later hb2 (by go_simp)
  have rf : ∀ q, w2.frozen? ⟨w.heap.size + 1 + 1, q, none⟩ = false := fun q => ((bcell hb2).2 _ q (by simp)).trans (by go_simp)
  have hlt2 := hB2'.lt
  have hol2 := ownsRow_lt hB2'.own
  obtain ⟨X, hX⟩ : ∃ X, X = w2.heap.size := ⟨_, rfl⟩
  clear hB2 hb2 hb ha
  go_wp2_with fail
  go_loopw [8] (fun i wr => ∃ (k : Nat) (y : Value) (us : List Value) (G : List (List Nat)), k ≤ ds.length ∧ i = .int .i64 k ∧ wr.cell? ⟨w2.heap.size, 0, none⟩ = some (.int .i64 W) ∧ wr.cell? ⟨w2.heap.size, 1, none⟩ = some y ∧ (∀ q, wr.frozen? ⟨w2.heap.size, q, none⟩ = false) ∧ wr.cell? ⟨w.heap.size + 1, 0, none⟩ = some (.int .i64 Wb) ∧ wr.cell? ⟨w.heap.size + 1, 1, none⟩ = some (.slice a ds.length c) ∧ wr.cell? ⟨w.heap.size + 1 + 1, 0, none⟩ = some (.int .i64 0) ∧ wr.cell? ⟨w.heap.size + 1 + 1, 1, none⟩ = some (.slice none 0 0) ∧ (∀ q, wr.frozen? ⟨w.heap.size + 1 + 1, q, none⟩ = false) ∧ BagOwn wr (w.heap.size + 1 + 1 + 1) y (sumC cs (ds.take k) n) us G ∧ y.ownBlock ≠ some w2.heap.size ∧ w2.heap.size ∉ G.flatten ∧ Below w.heap.size w wr ∧ w2.heap.size < wr.heap.size) (fun i _ => ds.length - (intOf i).toNat)
  case atStart =>
    refine ⟨0, .slice a2 cs.length c2, us2, G2, Nat.zero_le _, rfl, by go_simp, by go_simp, fun q => by go_simp, (by go_simp; exact (cell_blk (Below.heap_alloc w2 _ _ (by omega))).trans d0), (by go_simp; exact (cell_blk (Below.heap_alloc w2 _ _ (by omega))).trans d1), (by go_simp; exact (cell_blk (Below.heap_alloc w2 _ _ (by omega))).trans r0), (by go_simp; exact (cell_blk (Below.heap_alloc w2 _ _ (by omega))).trans r1), fun q => (by go_simp; exact (frozen_blk (Below.heap_alloc w2 _ _ (by omega))).trans (rf q)), ?_, fun e => by have := (hol2 _ e).2; omega, fun e => by have := hlt2 _ e; omega, by repeat (first | (with_reducible exact Below.refl _ _) | (with_reducible refine Below.drew ?_) | (with_reducible refine Below.alloc ?_ ?hh _; case hh => first | (simp; done) | (simp; omega) | omega) | (with_reducible refine Below.setCell ?_ ?hh _; case hh => first | (simp; done) | (simp; omega) | omega) | refine bstep (by assumption) (by first | (simp; done) | (simp; omega) | omega) ?_), by simp⟩
    rw [List.take_zero]
    exact hB2'.below (by repeat (first | (with_reducible exact Below.refl _ _) | (with_reducible refine Below.drew ?_) | (with_reducible refine Below.alloc ?_ ?hh _; case hh => first | (simp; done) | (simp; omega) | omega) | (with_reducible refine Below.setCell ?_ ?hh _; case hh => first | (simp; done) | (simp; omega) | omega) | refine bstep (by assumption) (by first | (simp; done) | (simp; omega) | omega) ?_))
  case round =>
    obtain ⟨k, y, us, G, hk, rfl, p0, p1, pf, d0, d1, r0, r1, rf, hB, hyX, hGX, hb, hzb⟩ := hrel
    by_cases hlt : k < ds.length
    · obtain ⟨rfl, hblt, _⟩ := hat k hlt
      obtain ⟨x, u0, g0, hx, _, c0, hR, c1, hbr⟩ := hC.at hG0 hblt hb hlt
      obtain ⟨a0, n0, rfl⟩ := hR.shape
      obtain ⟨ay, cy, rfl⟩ := hB.shape
      have hxd := hd x (List.mem_of_getElem? hx)
      have hxn : x.r.length ≤ 1048576 := by have := wt_mem (List.mem_of_getElem? hx); unfold wt at this; unfold wtb at hn2; omega
      have hkI : (k : Int) < ds.length := by omega
      have hwx : IntKind.i64.wrap (n * x.n) = n * x.n := by rw [IntKind.wrap_i64]; omega
      have hwx2 : wrap64 (n * x.n) = n * x.n := by unfold wrap64; omega
      have HT : Hid (sumC cs (ds.take (k + 1)) n = putC (sumC cs (ds.take k) n) x.r (n * x.n)) := by show _ = _; rw [take_snoc hx, sumC_snoc]
      obtain ⟨hsl, hsb⟩ := sumC_bound (n := n) (m := 1000000000000) (ds := ds.take k) (fun c h => hc c h) (by omega) (by omega) (fun y hy => hd y (List.mem_of_mem_take hy))
      obtain ⟨hsA, hsz, _⟩ := sumC_all (n := n) (ds := ds.take k) hA hz
      have htl : (ds.take k).length ≤ 1048576 := by simp; omega
      have hsb2 : ∀ c ∈ sumC cs (ds.take k) n, -4000000000000000000 ≤ c.n ∧ c.n ≤ 4000000000000000000 := fun c h => by have := hsb c h; omega
      have hsl2 : (sumC cs (ds.take k) n).length ≤ 2097152 := by omega
      clear hsb hsl hsz htl
      generalize sumC cs (ds.take k) n = ct at *
      obtain ⟨m, hm⟩ : ∃ m, m = n * x.n := ⟨_, rfl⟩
      clear hat hC hx hd hc
      go_wp2_with fail
      -- region
      refine startE 16 (fun w' => w'.cell? ⟨w2.heap.size, 0, none⟩ = some (.int .i64 W) ∧ w'.cell? ⟨w2.heap.size, 1, none⟩ = some (.slice ay ct.length cy) ∧ w'.cell? ⟨w.heap.size + 1, 1, none⟩ = some (.slice (some ⟨b, o, none⟩) ds.length c) ∧ w'.cell? ⟨b, o + k * 2, none⟩ = some (.slice a0 x.r.length n0) ∧ w'.cell? ⟨b, o + k * 2 + 1, none⟩ = some (.int .i64 x.n)) (by kernel_rfl) ?_ (fun hHeld => ?_)
      · (try dsimp only)
        exact ⟨p0, p1, d1, c0, c1⟩
      refine takeE (i := 0) (d := 18) (v := ?_) rfl rfl (by kernel_rfl) (by kernel_rfl) (by kernel_rfl) (by kernel_rfl) (fun _ _ _ h => h) (by rfl) (by assumption) ?_ ?_
      rotate_left
      · intro w' hSw; (try dsimp only at hSw); go_simp; try exact rfl
      try simp only [List.setIfInBounds_toArray, List.set_cons_zero, List.set_cons_succ]
      refine takeE (i := 1) (d := 19) (v := ?_) rfl rfl (by kernel_rfl) (by kernel_rfl) (by kernel_rfl) (by kernel_rfl) (fun _ _ _ h => h) (by rfl) (by assumption) ?_ ?_
      rotate_left
      · intro w' hSw; (try dsimp only at hSw); go_simp; try exact rfl
      try simp only [List.setIfInBounds_toArray, List.set_cons_zero, List.set_cons_succ]
      refine takeE (i := 2) (d := 20) (v := ?_) rfl rfl (by kernel_rfl) (by kernel_rfl) (by kernel_rfl) (by kernel_rfl) (fun _ _ _ h => h) (by rfl) (by assumption) ?_ ?_
      rotate_left
      · intro w' hSw; (try dsimp only at hSw); go_simp; try exact rfl
      try simp only [List.setIfInBounds_toArray, List.set_cons_zero, List.set_cons_succ]
      refine takeE (i := 3) (d := 21) (v := ?_) rfl rfl (by kernel_rfl) (by kernel_rfl) (by kernel_rfl) (by kernel_rfl) (fun _ _ _ h => h) (by rfl) (by assumption) ?_ ?_
      rotate_left
      · intro w' hSw; (try dsimp only at hSw); go_simp; try exact rfl
      try simp only [List.setIfInBounds_toArray, List.set_cons_zero, List.set_cons_succ]
      refine takeE (i := 4) (d := 22) (v := ?_) rfl rfl (by kernel_rfl) (by kernel_rfl) (by kernel_rfl) (by kernel_rfl) (fun _ _ _ h => h) (by rfl) (by assumption) ?_ ?_
      rotate_left
      · intro w' hSw; (try dsimp only at hSw); go_simp; try exact rfl
      try simp only [List.setIfInBounds_toArray, List.set_cons_zero, List.set_cons_succ]
      refine takeE (i := 5) (d := 23) (v := ?_) rfl rfl (by kernel_rfl) (by kernel_rfl) (by kernel_rfl) (by kernel_rfl) (fun _ _ _ h => h) (by rfl) (by assumption) ?_ ?_
      rotate_left
      · intro w' hSw; (try dsimp only at hSw); go_simp; try exact rfl
      try simp only [List.setIfInBounds_toArray, List.set_cons_zero, List.set_cons_succ]
      refine takeE (i := 6) (d := 24) (v := ?_) rfl rfl (by kernel_rfl) (by kernel_rfl) (by kernel_rfl) (by kernel_rfl) (fun _ _ _ h => h) (by rfl) (by assumption) ?_ ?_
      rotate_left
      · intro w' hSw; (try dsimp only at hSw); go_simp; try exact rfl
      try simp only [List.setIfInBounds_toArray, List.set_cons_zero, List.set_cons_succ]
      refine takeE (i := 7) (d := 25) (v := ?_) rfl rfl (by kernel_rfl) (by kernel_rfl) (by kernel_rfl) (by kernel_rfl) (fun _ _ _ h => h) (by rfl) (by assumption) ?_ ?_
      rotate_left
      · intro w' hSw; (try dsimp only at hSw); go_simp; try exact rfl
      try simp only [List.setIfInBounds_toArray, List.set_cons_zero, List.set_cons_succ]
      refine takeE (i := 8) (d := 26) (v := ?_) rfl rfl (by kernel_rfl) (by kernel_rfl) (by kernel_rfl) (by kernel_rfl) (fun _ _ _ h => h) (by rfl) (by assumption) ?_ ?_
      rotate_left
      · intro w' hSw; (try dsimp only at hSw); go_simp; try exact rfl
      try simp only [List.setIfInBounds_toArray, List.set_cons_zero, List.set_cons_succ]
      refine takeE (i := 9) (d := 27) (v := ?_) rfl rfl (by kernel_rfl) (by kernel_rfl) (by kernel_rfl) (by kernel_rfl) (fun _ _ _ h => h) (by rfl) (by assumption) ?_ ?_
      rotate_left
      · intro w' hSw; (try dsimp only at hSw); go_simp; try exact rfl
      try simp only [List.setIfInBounds_toArray, List.set_cons_zero, List.set_cons_succ]
      refine takeE (i := 10) (d := 28) (v := ?_) rfl rfl (by kernel_rfl) (by kernel_rfl) (by kernel_rfl) (by kernel_rfl) (fun _ _ _ h => h) (by rfl) (by assumption) ?_ ?_
      rotate_left
      · intro w' hSw; (try dsimp only at hSw); go_simp; try exact rfl
      try simp only [List.setIfInBounds_toArray, List.set_cons_zero, List.set_cons_succ]
      refine takeE (i := 11) (d := 29) (v := ?_) rfl rfl (by kernel_rfl) (by kernel_rfl) (by kernel_rfl) (by kernel_rfl) (fun _ _ _ h => h) (by rfl) (by assumption) ?_ ?_
      rotate_left
      · intro w' hSw; (try dsimp only at hSw); go_simp; try exact rfl
      try simp only [List.setIfInBounds_toArray, List.set_cons_zero, List.set_cons_succ]
      refine takeE (i := 12) (d := 30) (v := ?_) rfl rfl (by kernel_rfl) (by kernel_rfl) (by kernel_rfl) (by kernel_rfl) (fun _ _ _ h => h) (by rfl) (by assumption) ?_ ?_
      rotate_left
      · intro w' hSw; (try dsimp only at hSw); go_simp; try exact rfl
      try simp only [List.setIfInBounds_toArray, List.set_cons_zero, List.set_cons_succ]
      refine takeE (i := 13) (d := 31) (v := ?_) rfl rfl (by kernel_rfl) (by kernel_rfl) (by kernel_rfl) (by kernel_rfl) (fun _ _ _ h => h) (by rfl) (by assumption) ?_ ?_
      rotate_left
      · intro w' hSw; (try dsimp only at hSw); go_simp; try exact rfl
      try simp only [List.setIfInBounds_toArray, List.set_cons_zero, List.set_cons_succ]
      refine takeE (i := 14) (d := 32) (v := ?_) rfl rfl (by kernel_rfl) (by kernel_rfl) (by kernel_rfl) (by kernel_rfl) (fun _ _ _ h => h) (by rfl) (by assumption) ?_ ?_
      rotate_left
      · intro w' hSw; (try dsimp only at hSw); go_simp; try exact rfl
      try simp only [List.setIfInBounds_toArray, List.set_cons_zero, List.set_cons_succ]
      refine oneE (i := 15) (by kernel_rfl) rfl (fun K hK => ?_)
      go_simp
      go_at_call 28
      refine Calls.mono (l02Put_any W (n * x.n) (.slice ay ct.length cy) (.slice a0 x.r.length n0) ct us G x.r g0 (w.heap.size + 1 + 1 + 1) _ (hB.below (by repeat (first | (with_reducible exact Below.refl _ _) | (with_reducible refine Below.drew ?_) | (with_reducible refine Below.alloc ?_ ?hh _; case hh => first | (simp; done) | (simp; omega) | omega) | (with_reducible refine Below.setCell ?_ ?hh _; case hh => first | (simp; done) | (simp; omega) | omega) | refine bstep (by assumption) (by first | (simp; done) | (simp; omega) | omega) ?_))) (hR.below (by repeat (first | (with_reducible exact Below.refl _ _) | (with_reducible refine Below.drew ?_) | (with_reducible refine Below.alloc ?_ ?hh _; case hh => first | (simp; done) | (simp; omega) | omega) | (with_reducible refine Below.setCell ?_ ?hh _; case hh => first | (simp; done) | (simp; omega) | omega) | refine bstep (by assumption) (by first | (simp; done) | (simp; omega) | omega) ?_))) hsA (by simp; omega) hsl2 hxn (by omega) (by omega) hsb2 _ rfl) ?_
      rintro e w5 ⟨v5, us5, G5, rfl, hB5, hv5, hG5, hb5, hgr5⟩
      obtain ⟨a5, c5, rfl⟩ := hB5.shape
      have hz5 := hb5.size
      simp at hz5
      have kX : w5.heap[w2.heap.size]? = wr.heap[w2.heap.size]? := hgr5.block _ (by simp; omega) (fun e => hyX e.symm)
      have kB : ∀ q, q < w.heap.size + 1 + 1 + 1 → w5.heap[q]? = wr.heap[q]? := fun q hq => hb5.block q hq
      have p05 := (cell_blk kX).trans p0
      have p15 := (cell_blk kX).trans p1
      have pf5 : ∀ q, w5.frozen? ⟨w2.heap.size, q, none⟩ = false := fun q => (frozen_blk kX).trans (pf q)
      have d05 := (cell_blk (kB (w.heap.size + 1) (by omega))).trans d0
      have d15 := (cell_blk (kB (w.heap.size + 1) (by omega))).trans d1
      have r05 := (cell_blk (kB (w.heap.size + 1 + 1) (by omega))).trans r0
      have r15 := (cell_blk (kB (w.heap.size + 1 + 1) (by omega))).trans r1
      have rf5 : ∀ q, w5.frozen? ⟨w.heap.size + 1 + 1, q, none⟩ = false := fun q => (frozen_blk (kB (w.heap.size + 1 + 1) (by omega))).trans (rf q)
      have c05 := (cell_blk (kB b (by omega))).trans c0
      have c15 := (cell_blk (kB b (by omega))).trans c1
      have hvX : (Value.slice a5 (putC ct x.r (n * x.n)).length c5).ownBlock ≠ some w2.heap.size := fun e => hyX (hv5 _ (by simp; omega) e)
      have hGX5 : w2.heap.size ∉ G5.flatten := fun e => hGX (hG5 _ (by simp; omega) e)
      have bel5 : Below w.heap.size w w5 := hb.trans ((show Below (w.heap.size + 1 + 1 + 1) wr w5 from ⟨hb5.os, hb5.tape, hb5.output, hb5.size, hb5.block⟩).mono (by omega))
      skip
      try go_wp2_with fail
      refine hK.out _ _ ?_ (fun hHeld15 => ?_)
      · intro _
        (try dsimp only)
        exact ⟨p05, p15, d15, c05, c15⟩
      clear hK
      replace hHeld15 := hHeld15 (by decide)
      try simp only [List.setIfInBounds_toArray, List.set_cons_zero, List.set_cons_succ]
      refine oneE (i := 16) (by kernel_rfl) rfl (fun K hK => ?_)
      go_simp
      refine hK.out _ _ ?_ (fun hHeld16 => ?_)
      · exact fun h => absurd rfl h
      clear hK hHeld16
      try simp only [List.setIfInBounds_toArray, List.set_cons_zero, List.set_cons_succ]
      refine doneE (by kernel_rfl) ?_ _
      -- end of the region
      have hBs : BagOwn ((w5.setCell ⟨w2.heap.size, 0, none⟩ (.int .i64 W)).setCell ⟨w2.heap.size, 1, none⟩ (.slice a5 (putC ct x.r (n * x.n)).length c5)) (w.heap.size + 1 + 1 + 1) (.slice a5 (putC ct x.r (n * x.n)).length c5) (sumC cs (ds.take (k + 1)) n) us5 G5 := by
        rw [HT.out]
        exact hB5.keepO (by simp) (fun b hb => (Below.heap_setCell _ _ _ _ (by rintro rfl; exact hvX hb)).trans (Below.heap_setCell _ _ _ _ (by rintro rfl; exact hvX hb))) (fun b hb => (Below.heap_setCell _ _ _ _ (by rintro rfl; exact hGX5 hb)).trans (Below.heap_setCell _ _ _ _ (by rintro rfl; exact hGX5 hb)))
      have P0 : ((w5.setCell ⟨w2.heap.size, 0, none⟩ (.int .i64 W)).setCell ⟨w2.heap.size, 1, none⟩ (.slice a5 (putC ct x.r (n * x.n)).length c5)).cell? ⟨w2.heap.size, 0, none⟩ = some (.int .i64 W) := (World.cell?_setCell_other _ _ _ _ (by simp)).trans (World.cell?_setCell_same _ _ _ p05)
      have P1 : ((w5.setCell ⟨w2.heap.size, 0, none⟩ (.int .i64 W)).setCell ⟨w2.heap.size, 1, none⟩ (.slice a5 (putC ct x.r (n * x.n)).length c5)).cell? ⟨w2.heap.size, 1, none⟩ = some (.slice a5 (putC ct x.r (n * x.n)).length c5) := World.cell?_setCell_same _ _ _ ((World.cell?_setCell_other _ _ _ _ (by simp)).trans p15)
      have PF : ∀ q, ((w5.setCell ⟨w2.heap.size, 0, none⟩ (.int .i64 W)).setCell ⟨w2.heap.size, 1, none⟩ (.slice a5 (putC ct x.r (n * x.n)).length c5)).frozen? ⟨w2.heap.size, q, none⟩ = false := fun q => by simpa using pf5 q
      have keep : ∀ b q, b < w2.heap.size → ((w5.setCell ⟨w2.heap.size, 0, none⟩ (.int .i64 W)).setCell ⟨w2.heap.size, 1, none⟩ (.slice a5 (putC ct x.r (n * x.n)).length c5)).cell? ⟨b, q, none⟩ = w5.cell? ⟨b, q, none⟩ := fun b q h => (World.cell?_setCell_other _ _ _ _ (by simp; try omega)).trans (World.cell?_setCell_other _ _ _ _ (by simp; try omega))
      have D0 := (keep (w.heap.size + 1) 0 (by omega)).trans d05
      have D1 := (keep (w.heap.size + 1) 1 (by omega)).trans d15
      have R0 := (keep (w.heap.size + 1 + 1) 0 (by omega)).trans r05
      have R1 := (keep (w.heap.size + 1 + 1) 1 (by omega)).trans r15
      have RF : ∀ q, ((w5.setCell ⟨w2.heap.size, 0, none⟩ (.int .i64 W)).setCell ⟨w2.heap.size, 1, none⟩ (.slice a5 (putC ct x.r (n * x.n)).length c5)).frozen? ⟨w.heap.size + 1 + 1, q, none⟩ = false := fun q => by simpa using rf5 q
      have belS : Below w.heap.size w ((w5.setCell ⟨w2.heap.size, 0, none⟩ (.int .i64 W)).setCell ⟨w2.heap.size, 1, none⟩ (.slice a5 (putC ct x.r (n * x.n)).length c5)) := (bel5.setCell (by simp; try omega) _).setCell (by simp; try omega) _
      have hzS : w2.heap.size < ((w5.setCell ⟨w2.heap.size, 0, none⟩ (.int .i64 W)).setCell ⟨w2.heap.size, 1, none⟩ (.slice a5 (putC ct x.r (n * x.n)).length c5)).heap.size := by simp; omega
      clear hB hB5 hgr5 keep p05 p15 d05 d15 r05 r15 rf5 pf5 c05 c15 hsA hsb2 HT
      go_wp2
      exact ⟨⟨k + 1, _, _, _, hlt, by simp, P0, P1, PF, D0, D1, R0, R1, RF, hBs, hvX, hGX5, belS, hzS⟩, by simp [intOf]; omega⟩
    · obtain rfl : k = ds.length := by omega
      rw [List.take_length, hP.out] at hB
      obtain ⟨ay, cy, rfl⟩ := hB.shape
      clear hat hC hP
      go_wp2
      refine bodyPost_ret (v := .agg #[.int .i64 W, .slice ay P.length cy]) (by simp [results, Try.results14, go_sem, *]) rfl ⟨⟨_, us, G, rfl, (hB.keep (by simp) fun b hb _ => ?_).weak (by omega)⟩, ?_⟩
      · repeat rw [Below.heap_setCell _ _ _ _ (by simp; omega)]
      · repeat (first | (with_reducible exact hb) | (with_reducible refine Below.setCell ?_ ?hh _; case hh => (simp; try omega)))
end Go.Proofs.Ytooeohhkcemoiaa
