/- Own texts, joined: contracts that the law's proof goes by. -/
import Derived.Test.YtbmoimfimeiglaaGreatGLFnLog24
import Derived.Test.YtbmoimfimeiglaaGreatGLFnLog7
import Derived.Test.YtbmoimfimeiglaaGreatGLFnLog25
import Derived.Handy
namespace Go.Proofs.YtbmoimfimeiglaaGreat
open Go.RowKit Go.Deep
set_option linter.unusedVariables false
def ansB (s : ByteArray) : Option (List C2) := if s.size = 0 then none else resI s
def aW (s : ByteArray) : Int := match ansB s with | none => 0 | some _ => bAt s 0
def aC (s : ByteArray) : List C2 := match ansB s with | none => [] | some cs => cs
def aB (s : ByteArray) : Bool := match ansB s with | none => false | some _ => true
theorem ans_none {s : ByteArray} (h : ansB s = none) : aW s = 0 ∧ aC s = [] ∧ aB s = false := by unfold aW aC aB; rw [h]; exact ⟨rfl, rfl, rfl⟩
theorem ans_some {s : ByteArray} {cs : List C2} (h : ansB s = some cs) : aW s = bAt s 0 ∧ aC s = cs ∧ aB s = true := by unfold aW aC aB; rw [h]; exact ⟨rfl, rfl, rfl⟩
theorem wf_64 {n : Int} (h0 : -9223372036854775808 ≤ n) (h1 : n ≤ 9223372036854775807) : (Lit.int .i64 n).wf = true := by
  have e1 : IntKind.i64.min = -9223372036854775808 := by decide
  have e2 : IntKind.i64.max = 9223372036854775807 := by decide
  simp only [Lit.wf, Bool.and_eq_true, decide_eq_true_eq, e1, e2]
  exact ⟨h0, h1⟩
theorem tV_wf (s : ByteArray) (i : Int) : (tV s i).wf := by
  have w0 : (Lit.int .i64 0).wf = true := by decide
  have w1 : (Lit.int .i64 1).wf = true := by decide
  have w2 : (Lit.int .i64 2).wf = true := by decide
  have w3 : (Lit.int .i64 3).wf = true := by decide
  unfold tV getT
  have hnil : (⟨#[]⟩ : ByteArray).size ≤ maxLen := by decide
  split
  · unfold getN
    split
    · exact ⟨w0, w0, hnil⟩
    split
    · refine ⟨w1, wf_64 ?_ ?_, hnil⟩ <;> (dsimp only; unfold numAt wrap64; omega)
    split
    · rename_i h
      refine ⟨w2, wf_64 ?_ ?_, hnil⟩ <;> (dsimp only; omega)
    split
    · rename_i h
      refine ⟨w3, w0, ?_⟩
      dsimp only
      rw [ByteArray.size_extract]
      unfold maxLen
      omega
    · exact ⟨w0, w0, hnil⟩
  · exact ⟨w0, w0, hnil⟩
theorem runI_stop (s : ByteArray) (W : Nat) (n : Nat) (i : Int) (cs : List C2) (h : ¬ (i < s.size ∧ cs.length ≤ 400)) : runI s W n i cs = some cs := by
  cases n with
  | zero => rfl
  | succ n => rw [runI, if_neg h]
theorem valsV_wf (s : ByteArray) : ∀ (n : Nat) (i : Int), VsWf (valsV s n i)
  | 0, _ => by intro y hy; cases hy
  | n + 1, i => by
    intro y hy
    rcases List.mem_cons.1 hy with rfl | hy
    · exact tV_wf s i
    · exact valsV_wf s n _ y hy
theorem rowS_wf (s : ByteArray) (W : Nat) (i : Int) : (rowS s W i).wf := ⟨valsV_wf s W _, (tV_wf s i).2.1⟩
set_option maxHeartbeats 4000000 in
set_option maxRecDepth 100000 in
theorem implGetBag_any (s : ByteArray) (w : World) (hs : s.size ≤ 1048576) :
    Calls Tryz.prog 101 #[.string s] w fun e w' => (∃ u us G, e = .returned (.tuple #[.agg #[.int .i64 (aW s), u], .bool (aB s)]) ∧ BagOwn w' w.heap.size u (aC s) us G) ∧ Below w.heap.size w w' := by
  by_cases hz : s.size = 0
  · have hA := ans_none (s := s) (by unfold ansB; rw [if_pos hz])
    have hnil : s.toList = [] := by rw [ByteArray.toList_eq]; exact List.eq_nil_of_length_eq_zero (by simpa using hz)
    rw [hA.1, hA.2.1, hA.2.2]
    clear hA
    go_enter Tryz.func101, Tryz.ntmps101
    go_wp2_with fail
    refine bodyPost_ret (v := .tuple #[.agg #[.int .i64 0, .slice none 0 0], .bool false]) (by simp [results, Tryz.results101, go_sem, *]) rfl ⟨⟨_, [], [], rfl, BagOwn.nil _ _⟩, bex⟩
  have hpos : 0 < s.size := by omega
  have hposI : (0 : Int) < s.size := by omega
  have hne : s.toList.isEmpty = false := by
    rw [ByteArray.toList_eq]
    have : s.data.toList.length ≠ 0 := by simpa using hz
    cases h : s.data.toList with
    | nil => rw [h] at this; simp at this
    | cons a l => rfl
  have hW : bAt s 0 ≤ 255 := by have := bAt_lt s 0; omega
  have e64 : wrap64 (s[0].toNat : Int) = (bAt s 0 : Nat) := by rw [wrap64_byte, bAt_eq s 0 hpos]
  have hA : ansB s = resI s := by unfold ansB; rw [if_neg hz]
  go_enter Tryz.func101, Tryz.ntmps101
  go_wp2_with fail
  go_loopw [5] (fun at' wr => ∃ (n i : Nat) (cs : List C2) (y : Value) (us : List Value) (G : List (List Nat)), at' = .int .i64 i ∧ i ≤ s.size ∧ s.size + 1 ≤ n + i ∧ cs.length ≤ 401 ∧ runI s (bAt s 0) (s.size + 1) 1 [] = runI s (bAt s 0) n i cs ∧ CsWf cs ∧
      wr.cell? ⟨w.heap.size + 1, 0, none⟩ = some (.int .i64 (bAt s 0)) ∧ wr.cell? ⟨w.heap.size + 1, 1, none⟩ = some y ∧ (∀ o, wr.frozen? ⟨w.heap.size + 1, o, none⟩ = false) ∧
      wr.cell? ⟨w.heap.size, 0, none⟩ = some (.int .i64 0) ∧ wr.cell? ⟨w.heap.size, 1, none⟩ = some (.slice none 0 0) ∧ (∀ o, wr.frozen? ⟨w.heap.size, o, none⟩ = false) ∧
      BagOwn wr (w.heap.size + 1 + 1) y cs us G ∧ Below w.heap.size w wr ∧ w.heap.size + 1 + 1 ≤ wr.heap.size) (fun at' _ => s.size + 1 - (intOf at').toNat)
  case atStart =>
    refine ⟨s.size + 1, 1, [], .slice none 0 0, [], [], rfl, by omega, by omega, by simp, rfl, by simp [CsWf], by go_simp, by go_simp, fun o => by go_simp, by go_simp, by go_simp, fun o => by go_simp, BagOwn.nil _ _, bex, by simp⟩
  case round =>
    clear e64 hne
    obtain ⟨n, i, cs, y, us, G, rfl, hi, hf, hcl, hrun0, hcw, p0, p1, pf, r0, r1, rf, hB, hb, hzb⟩ := hrel
    have HR : Hid (runI s (bAt s 0) (s.size + 1) 1 [] = runI s (bAt s 0) n i cs) := hrun0
    clear hrun0
    obtain ⟨ay, cy, rfl⟩ := hB.shape
    have e0 : w.heap.size + 1 < wr.heap.size := by omega
    have e1 : w.heap.size < wr.heap.size := by omega
    have hcI : (cs.length : Int) ≤ 401 := by omega
    by_cases hlt : i < s.size
    · have hltI : (i : Int) < s.size := by omega
      by_cases h400 : cs.length ≤ 400
      · have h400I : decide ((cs.length : Int) ≤ 400) = true := by simp; omega
        obtain ⟨n, rfl⟩ : ∃ n', n = n' + 1 := ⟨n - 1, by omega⟩
        by_cases hk : (tV s i).k = 1
        · by_cases he : endS s (bAt s 0) i < 0
          · have HN : Hid (ansB s = none) := by
              show ansB s = none
              rw [hA]; unfold resI
              rw [HR.out, runI, if_pos ⟨hltI, h400⟩, if_pos (.inr he)]
            go_wp2_with fail
            refine Calls.mono (getCounted_yes s i (bAt s 0) wr hs hW hk) ?_
            rintro e w2 ⟨⟨u, g, rfl, hRF, hOg⟩, hb2⟩
            obtain ⟨au, cu, hu⟩ : ∃ a c, u = .slice a (valsV s (bAt s 0) (tJ s i)).length c := by obtain ⟨a, c, h, _⟩ := hRF; exact ⟨a, c, h⟩
            subst hu
            have hzw := hb2.size
            have hfz := (bcell hb2).2
            have hcz := (bcell hb2).1
            have u0 : w2.cell? ⟨w.heap.size, 0, none⟩ = some (.int .i64 0) := (hcz _ _ (by omega)).trans r0
            have u1 : w2.cell? ⟨w.heap.size, 1, none⟩ = some (.slice none 0 0) := (hcz _ _ (by omega)).trans r1
            have uf : ∀ o, w2.frozen? ⟨w.heap.size, o, none⟩ = false := fun o => (hfz _ _ (by omega)).trans (rf o)
            have q0 : w2.cell? ⟨w.heap.size + 1, 0, none⟩ = some (.int .i64 (bAt s 0)) := (hcz _ _ (by omega)).trans p0
            have q1 : w2.cell? ⟨w.heap.size + 1, 1, none⟩ = some (.slice ay cs.length cy) := (hcz _ _ (by omega)).trans p1
            have qf : ∀ o, w2.frozen? ⟨w.heap.size + 1, o, none⟩ = false := fun o => (hfz _ _ (by omega)).trans (pf o)
            have hbw2 : Below w.heap.size w w2 := hb.trans (hb2.mono hb.size)
            have n3 : w.heap.size < w2.heap.size := by omega
            have n4 : w.heap.size < w2.heap.size + 1 := by omega
            have n5 : w.heap.size + 1 < w2.heap.size := by omega
            have n6 : w.heap.size + 1 < w2.heap.size + 1 := by omega
            clear hfz hcz p0 p1 pf r0 r1 rf
            clear hB hRF hOg
            go_wp2_with fail
            refine bodyPost_ret (v := .tuple #[.agg #[.int .i64 0, .slice none 0 0], .bool false]) (by simp [results, Tryz.results101, go_sem, *]) rfl ⟨⟨_, [], [], by rw [(ans_none HN.out).1, (ans_none HN.out).2.2], by rw [(ans_none HN.out).2.1]; exact BagOwn.nil _ _⟩, bex⟩
          · obtain ⟨e, hee⟩ : ∃ e : Nat, endS s (bAt s 0) i = e := ⟨(endS s (bAt s 0) i).toNat, by omega⟩
            obtain ⟨a', b', ea, eb, hab, hbs, _⟩ := end_round s (bAt s 0) i (by omega)
            have hei : i < e := by omega
            have hes : e ≤ s.size := by omega
            have HS : Hid (runI s (bAt s 0) (n + 1) i cs = runI s (bAt s 0) n e (cs ++ [rowS s (bAt s 0) i])) := by
              show runI s (bAt s 0) (n + 1) i cs = _
              rw [runI, if_pos ⟨hltI, h400⟩, if_neg (by omega), hee]
            have hgc := getCounted_yes s i (bAt s 0) wr hs hW hk
            rw [hee] at hgc
            have HROW : Hid (rowS s (bAt s 0) i = ⟨valsV s (bAt s 0) (tJ s i), (tV s i).n⟩) := rfl
            have hrw := rowS_wf s (bAt s 0) i
            clear ea eb hee he hk
            generalize valsV s (bAt s 0) (tJ s i) = row at *
            generalize (tV s i).n = rn at *
            go_wp2_with fail
            refine Calls.mono (hgc) ?_
            rintro e w2 ⟨⟨u, g, rfl, hRF, hOg⟩, hb2⟩
            obtain ⟨au, cu, hu⟩ : ∃ a c, u = .slice a row.length c := by obtain ⟨a, c, h, _⟩ := hRF; exact ⟨a, c, h⟩
            subst hu
            have hzw := hb2.size
            have hfz := (bcell hb2).2
            have hcz := (bcell hb2).1
            have u0 : w2.cell? ⟨w.heap.size, 0, none⟩ = some (.int .i64 0) := (hcz _ _ (by omega)).trans r0
            have u1 : w2.cell? ⟨w.heap.size, 1, none⟩ = some (.slice none 0 0) := (hcz _ _ (by omega)).trans r1
            have uf : ∀ o, w2.frozen? ⟨w.heap.size, o, none⟩ = false := fun o => (hfz _ _ (by omega)).trans (rf o)
            have q0 : w2.cell? ⟨w.heap.size + 1, 0, none⟩ = some (.int .i64 (bAt s 0)) := (hcz _ _ (by omega)).trans p0
            have q1 : w2.cell? ⟨w.heap.size + 1, 1, none⟩ = some (.slice ay cs.length cy) := (hcz _ _ (by omega)).trans p1
            have qf : ∀ o, w2.frozen? ⟨w.heap.size + 1, o, none⟩ = false := fun o => (hfz _ _ (by omega)).trans (pf o)
            have hbw2 : Below w.heap.size w w2 := hb.trans (hb2.mono hb.size)
            have n3 : w.heap.size < w2.heap.size := by omega
            have n4 : w.heap.size < w2.heap.size + 1 := by omega
            have n5 : w.heap.size + 1 < w2.heap.size := by omega
            have n6 : w.heap.size + 1 < w2.heap.size + 1 := by omega
            clear hfz hcz p0 p1 pf r0 r1 rf
            clear hgc
            obtain ⟨i0, hi0, hz0, hz1, hz2⟩ := info_parts Tryz.infoCnt
            have hol := ownsRow_lt hB.own
            have hGl := hB.lt
            have hv4 : Value.ownBlock (.slice ay cs.length cy) ≠ some (w.heap.size + 1) := fun e => by have := (hol _ e).1; omega
            have hv2 : Value.ownBlock (.slice ay cs.length cy) ≠ some w.heap.size := fun e => by have := (hol _ e).1; omega
            have hb4 : Below wr.heap.size wr ((w2.alloc (.cells #[.slice au row.length cu, .int .i64 rn] 112)).alloc (.cells #[.slice au row.length cu, .int .i64 rn] 112)) := by (repeat (first | (with_reducible exact Below.refl _ _) | (with_reducible refine Below.drew ?_) | (with_reducible refine Below.alloc ?_ ?hh _; case hh => first | (simp; done) | (simp; omega) | omega) | (with_reducible refine Below.setCell ?_ ?hh _; case hh => first | (simp; done) | (simp; omega) | omega) | refine bstep (by assumption) (by first | (simp; done) | (simp; omega) | omega) ?_)); try exact hb2
            have hB4 := hB.below hb4
            have hb24 : Below w2.heap.size w2 ((w2.alloc (.cells #[.slice au row.length cu, .int .i64 rn] 112)).alloc (.cells #[.slice au row.length cu, .int .i64 rn] 112)) := bex
            have hR4 : RowF ((w2.alloc (.cells #[.slice au row.length cu, .int .i64 rn] 112)).alloc (.cells #[.slice au row.length cu, .int .i64 rn] 112)) (.slice au row.length cu) row g := hRF.keep hb24.size fun c hc => hb24.block c (hRF.lt c hc)
            have hO4 : Own ((w2.alloc (.cells #[.slice au row.length cu, .int .i64 rn] 112)).alloc (.cells #[.slice au row.length cu, .int .i64 rn] 112)) (w.heap.size + 1 + 1) g := Own.keep (w := w2) ⟨hOg.1, fun b hb' => by have := hOg.2.1 b hb'; omega, hOg.2.2⟩ fun c hc => hb24.block c (hRF.lt c hc)
            have hnew : ∀ j' u, [Value.slice au row.length cu, Value.int .i64 rn][j']? = some u → ((w2.alloc (.cells #[.slice au row.length cu, .int .i64 rn] 112)).alloc (.cells #[.slice au row.length cu, .int .i64 rn] 112)).cell? ((⟨w2.heap.size + 1, 0, none⟩ : Addr).add j') = some u := by
              intro j' u hu
              match j', hu with
              | 0, hu => simp at hu; subst hu; go_simp
              | 1, hu => simp at hu; subst hu; go_simp
            go_wp2_with (at_builtin; refine wpList_append_own_at _ rfl _ _ 69 rfl (w.heap.size + 1 + 1) 112 i0 _ 2 32 Tryz.underlying69 hi0 hz0 hz1 hz2 rfl (by decide) (.slice ay cs.length cy) cs.length (cc us cs) rfl hB4.own ⟨w2.heap.size + 1, 0, none⟩ 1 1 [.slice au row.length cu, .int .i64 rn] rfl rfl hnew (by simp [Value.oneCell']) ?c3 ?c4 ?c5 ?_)
            case c3 => unfold maxLen; omega
            case c4 => omega
            case c5 => simp; omega
            intro v5 w5 hown5 hgr5 _ hat5
            have hB5 : BagOwn w5 (w.heap.size + 1 + 1) v5 (cs ++ [⟨row, rn⟩]) (us ++ [.slice au row.length cu]) (G ++ [g]) := hB4.push hR4 hO4 (fun b hb1 hb2' => by have := hGl b hb1; have := hOg.2.1 b hb2'; omega) (fun b hb1 hb2' => by have := (hol b hb1).2; have := hOg.2.1 b hb2'; omega) hown5 hgr5 (fun b hb1 => by
              rcases hat5 with e | e
              · left; rw [← e]; exact hb1
              · right; rw [e] at hb1; cases hb1; first | exact Nat.le_refl _ | simp | (simp; omega))
            have hsz5 := hgr5.size
            simp at hsz5
            have A0 : w5.cell? ⟨w.heap.size + 1, 0, none⟩ = some (.int .i64 (bAt s 0)) := (hgr5.cell_far _ (by simp; try omega) (fun e => hv4 e.symm)).trans (by go_simp)
            have A1 : w5.cell? ⟨w.heap.size + 1, 1, none⟩ = some (.slice ay cs.length cy) := (hgr5.cell_far _ (by simp; try omega) (fun e => hv4 e.symm)).trans (by go_simp)
            have Af : ∀ o, w5.frozen? ⟨w.heap.size + 1, o, none⟩ = false := fun o => (hgr5.frozen_far _ (by simp; try omega) (fun e => hv4 e.symm)).trans (by go_simp)
            have D0 : w5.cell? ⟨w.heap.size, 0, none⟩ = some (.int .i64 0) := (hgr5.cell_far _ (by simp; try omega) (fun e => hv2 e.symm)).trans (by go_simp)
            have D1 : w5.cell? ⟨w.heap.size, 1, none⟩ = some (.slice none 0 0) := (hgr5.cell_far _ (by simp; try omega) (fun e => hv2 e.symm)).trans (by go_simp)
            have Df : ∀ o, w5.frozen? ⟨w.heap.size, o, none⟩ = false := fun o => (hgr5.frozen_far _ (by simp; try omega) (fun e => hv2 e.symm)).trans (by go_simp)
            have hbel5 : Below w.heap.size w w5 := (hbw2.trans (hb24.mono (by omega))).grown hgr5 (by simp; omega) (fun k' hk' => by have := (hol _ hk').1; omega)
            obtain ⟨a5, c5, hv5⟩ := hB5.shape
            have hv5' : v5 = .slice a5 (cs.length + 1) c5 := by rw [hv5]; simp
            clear hv5
            subst hv5'
            have m1 : w.heap.size + 1 < w5.heap.size := by omega
            have m2 : w.heap.size < w5.heap.size := by omega
            have hB6 : BagOwn (w5.setCell ⟨w.heap.size + 1, 1, none⟩ (.slice a5 (cs.length + 1) c5)) (w.heap.size + 1 + 1) (.slice a5 (cs.length + 1) c5) (cs ++ [⟨row, rn⟩]) (us ++ [.slice au row.length cu]) (G ++ [g]) := hB5.keep (by simp) fun b hb1 _ => Below.heap_setCell _ _ _ _ (by show b ≠ w.heap.size + 1; omega)
            have hbel6 : Below w.heap.size w (w5.setCell ⟨w.heap.size + 1, 1, none⟩ (.slice a5 (cs.length + 1) c5)) := hbel5.setCell (by show w.heap.size ≤ w.heap.size + 1; omega) _
            clear hown5 hgr5 hB4 hR4 hO4 hB5 hB hRF hOg hat5 hol hGl q0 q1 qf u0 u1 uf hb24 hb4 hnew
            go_wp2_with fail
            refine ⟨⟨n, e, cs ++ [⟨row, rn⟩], .slice a5 (cs.length + 1) c5, us ++ [.slice au row.length cu], G ++ [g], rfl, hes, by omega, by simp; omega, by rw [HR.out, HS.out, HROW.out], ?_, by go_simp, by go_simp, fun o => by go_simp, by go_simp, by go_simp, fun o => by go_simp, hB6, hbel6, by simp; omega⟩, by simp [intOf]; omega⟩
            intro z hz
            rcases List.mem_append.1 hz with hz | hz
            · exact hcw z hz
            · rcases List.mem_singleton.1 hz with rfl
              rw [HROW.out] at hrw
              exact hrw
        · have HN : Hid (ansB s = none) := by
            show ansB s = none
            rw [hA]; unfold resI
            rw [HR.out, runI, if_pos ⟨hltI, h400⟩, if_pos (.inl hk)]
          have hno := getCounted_no s i (bAt s 0) wr hs hk
          go_wp2_with fail
          refine Calls.mono hno ?_
          rintro e w2 ⟨rfl, hb2⟩
          have hzw := hb2.size
          have hfz := (bcell hb2).2
          have hcz := (bcell hb2).1
          have u0 : w2.cell? ⟨w.heap.size, 0, none⟩ = some (.int .i64 0) := (hcz _ _ (by omega)).trans r0
          have u1 : w2.cell? ⟨w.heap.size, 1, none⟩ = some (.slice none 0 0) := (hcz _ _ (by omega)).trans r1
          have uf : ∀ o, w2.frozen? ⟨w.heap.size, o, none⟩ = false := fun o => (hfz _ _ (by omega)).trans (rf o)
          have hbw2 : Below w.heap.size w w2 := hb.trans (hb2.mono hb.size)
          have n3 : w.heap.size < w2.heap.size := by omega
          have n4 : w.heap.size < w2.heap.size + 1 := by omega
          clear hfz hcz hB
          go_wp2_with fail
          refine bodyPost_ret (v := .tuple #[.agg #[.int .i64 0, .slice none 0 0], .bool false]) (by simp [results, Tryz.results101, go_sem, *]) rfl ⟨⟨_, [], [], by rw [(ans_none HN.out).1, (ans_none HN.out).2.2], by rw [(ans_none HN.out).2.1]; exact BagOwn.nil _ _⟩, bex⟩
      · have h400I : decide ((cs.length : Int) ≤ 400) = false := by simp; omega
        have HE : Hid (ansB s = if okBag (bAt s 0) cs = true then some cs else none) := by
          show ansB s = _
          rw [hA]; unfold resI
          rw [HR.out, runI_stop _ _ _ _ _ (by omega)]
        obtain ⟨F, hRs, hOs⟩ := hB.rowsF
        go_wp2_with fail
        refine Calls.mono (implBagOk_any (bAt s 0) (.slice ay cs.length cy) cs wr hcw hRs.is) ?_
        rintro e w2 ⟨rfl, hb2⟩
        have hzw := hb2.size
        have hfz := (bcell hb2).2
        have hcz := (bcell hb2).1
        have u0 : w2.cell? ⟨w.heap.size, 0, none⟩ = some (.int .i64 0) := (hcz _ _ (by omega)).trans r0
        have u1 : w2.cell? ⟨w.heap.size, 1, none⟩ = some (.slice none 0 0) := (hcz _ _ (by omega)).trans r1
        have uf : ∀ o, w2.frozen? ⟨w.heap.size, o, none⟩ = false := fun o => (hfz _ _ (by omega)).trans (rf o)
        have q0 : w2.cell? ⟨w.heap.size + 1, 0, none⟩ = some (.int .i64 (bAt s 0)) := (hcz _ _ (by omega)).trans p0
        have q1 : w2.cell? ⟨w.heap.size + 1, 1, none⟩ = some (.slice ay cs.length cy) := (hcz _ _ (by omega)).trans p1
        have hbw2 : Below w.heap.size w w2 := hb.trans (hb2.mono hb.size)
        have n3 : w.heap.size < w2.heap.size := by omega
        have n5 : w.heap.size + 1 < w2.heap.size := by omega
        have hB2 := hB.below hb2
        clear hfz hcz p0 p1 pf r0 r1 rf hB hRs hOs
        by_cases hok : okBag (bAt s 0) cs = true
        · have HN : Hid (ansB s = some cs) := by show ansB s = some cs; rw [HE.out, if_pos hok]
          go_wp2_with fail
          refine bodyPost_ret (v := .tuple #[.agg #[.int .i64 (bAt s 0), .slice ay cs.length cy], .bool true]) (by simp [results, Tryz.results101, go_sem, *]) rfl ⟨⟨_, us, G, by rw [(ans_some HN.out).1, (ans_some HN.out).2.2], ?_⟩, ?_⟩
          · rw [(ans_some HN.out).2.1]
            refine BagOwn.weak (N := w.heap.size + 1 + 1) (hB2.keep (by simp) fun b hb1 _ => ?_) (by omega)
            repeat rw [Below.heap_setCell _ _ _ _ (by show b ≠ w.heap.size; omega)]
          · repeat (first | (with_reducible exact hbw2) | (with_reducible refine Below.setCell ?_ ?hh _; case hh => (first | (simp; done) | (simp; omega))))
        · have HN : Hid (ansB s = none) := by show ansB s = none; rw [HE.out, if_neg hok]
          replace hok : okBag (bAt s 0) cs = false := by simpa using hok
          clear hB2
          go_wp2_with fail
          refine bodyPost_ret (v := .tuple #[.agg #[.int .i64 0, .slice none 0 0], .bool false]) (by simp [results, Tryz.results101, go_sem, *]) rfl ⟨⟨_, [], [], by rw [(ans_none HN.out).1, (ans_none HN.out).2.2], by rw [(ans_none HN.out).2.1]; exact BagOwn.nil _ _⟩, ?_⟩
          repeat (first | (with_reducible exact hbw2) | (with_reducible refine Below.setCell ?_ ?hh _; case hh => (first | (simp; done) | (simp; omega))))
    · have hltI : decide ((i : Int) < s.size) = false := by simp; omega
      have HE : Hid (ansB s = if okBag (bAt s 0) cs = true then some cs else none) := by
        show ansB s = _
        rw [hA]; unfold resI
        rw [HR.out, runI_stop _ _ _ _ _ (by omega)]
      obtain ⟨F, hRs, hOs⟩ := hB.rowsF
      go_wp2_with fail
      refine Calls.mono (implBagOk_any (bAt s 0) (.slice ay cs.length cy) cs wr hcw hRs.is) ?_
      rintro e w2 ⟨rfl, hb2⟩
      have hzw := hb2.size
      have hfz := (bcell hb2).2
      have hcz := (bcell hb2).1
      have u0 : w2.cell? ⟨w.heap.size, 0, none⟩ = some (.int .i64 0) := (hcz _ _ (by omega)).trans r0
      have u1 : w2.cell? ⟨w.heap.size, 1, none⟩ = some (.slice none 0 0) := (hcz _ _ (by omega)).trans r1
      have uf : ∀ o, w2.frozen? ⟨w.heap.size, o, none⟩ = false := fun o => (hfz _ _ (by omega)).trans (rf o)
      have q0 : w2.cell? ⟨w.heap.size + 1, 0, none⟩ = some (.int .i64 (bAt s 0)) := (hcz _ _ (by omega)).trans p0
      have q1 : w2.cell? ⟨w.heap.size + 1, 1, none⟩ = some (.slice ay cs.length cy) := (hcz _ _ (by omega)).trans p1
      have hbw2 : Below w.heap.size w w2 := hb.trans (hb2.mono hb.size)
      have n3 : w.heap.size < w2.heap.size := by omega
      have n5 : w.heap.size + 1 < w2.heap.size := by omega
      have hB2 := hB.below hb2
      clear hfz hcz p0 p1 pf r0 r1 rf hB hRs hOs
      by_cases hok : okBag (bAt s 0) cs = true
      · have HN : Hid (ansB s = some cs) := by show ansB s = some cs; rw [HE.out, if_pos hok]
        go_wp2_with fail
        refine bodyPost_ret (v := .tuple #[.agg #[.int .i64 (bAt s 0), .slice ay cs.length cy], .bool true]) (by simp [results, Tryz.results101, go_sem, *]) rfl ⟨⟨_, us, G, by rw [(ans_some HN.out).1, (ans_some HN.out).2.2], ?_⟩, ?_⟩
        · rw [(ans_some HN.out).2.1]
          refine BagOwn.weak (N := w.heap.size + 1 + 1) (hB2.keep (by simp) fun b hb1 _ => ?_) (by omega)
          repeat rw [Below.heap_setCell _ _ _ _ (by show b ≠ w.heap.size; omega)]
        · repeat (first | (with_reducible exact hbw2) | (with_reducible refine Below.setCell ?_ ?hh _; case hh => (first | (simp; done) | (simp; omega))))
      · have HN : Hid (ansB s = none) := by show ansB s = none; rw [HE.out, if_neg hok]
        replace hok : okBag (bAt s 0) cs = false := by simpa using hok
        clear hB2
        go_wp2_with fail
        refine bodyPost_ret (v := .tuple #[.agg #[.int .i64 0, .slice none 0 0], .bool false]) (by simp [results, Tryz.results101, go_sem, *]) rfl ⟨⟨_, [], [], by rw [(ans_none HN.out).1, (ans_none HN.out).2.2], by rw [(ans_none HN.out).2.1]; exact BagOwn.nil _ _⟩, ?_⟩
        repeat (first | (with_reducible exact hbw2) | (with_reducible refine Below.setCell ?_ ?hh _; case hh => (first | (simp; done) | (simp; omega))))
end Go.Proofs.YtbmoimfimeiglaaGreat
namespace Go.Proofs.YtbmoimfimeiglaaGreat
open Go.RowKit Go.Deep
set_option linter.unusedVariables false
theorem valsJ_late (s : ByteArray) (j : Int) : ∀ (d q : Nat), valsJ s q j < 0 → valsJ s (q + d) j < 0
  | 0, _, h => h
  | d + 1, q, h => by rw [← Nat.add_assoc, valsJ_succ, tJ_neg s _ (valsJ_late s j d q h)]; decide
theorem run_stop (s : ByteArray) (W : Nat) (n : Nat) (i : Int) (cs : List C2) (h : ¬ (i < s.size ∧ cs.length ≤ 400)) : run s W n i cs = some cs := by
  cases n with
  | zero => rfl
  | succ n => rw [run, if_neg h]
set_option maxHeartbeats 4000000 in
set_option maxRecDepth 100000 in
theorem specGetBag_any (s : ByteArray) (w : World) (hs : s.size ≤ 1048576) :
    Calls Tryz.prog 37 #[.string s] w fun e w' => (∃ u us G, e = .returned (.tuple #[.agg #[.int .i64 (aW s), u], .bool (aB s)]) ∧ BagOwn w' w.heap.size u (aC s) us G) ∧ Below w.heap.size w w' := by
  obtain ⟨i0, hi0, hz0, hz1, hz2⟩ := info_parts Tryz.infoCnt
  obtain ⟨i1, hi1, hv0, hv1, hv2⟩ := info_parts Tryz.infoVal
  by_cases hz : s.size = 0
  · have hA := ans_none (s := s) (by unfold ansB; rw [if_pos hz])
    have hnil : s.toList = [] := by rw [ByteArray.toList_eq]; exact List.eq_nil_of_length_eq_zero (by simpa using hz)
    have hs0 : s = ⟨#[]⟩ := by
      apply ByteArray.ext
      exact Array.eq_empty_of_size_eq_zero hz
    rw [hA.1, hA.2.1, hA.2.2]
    clear hA
    subst hs0
    go_enter Tryz.func37, Tryz.ntmps37
    go_wp2_with fail
    refine bodyPost_ret (v := .tuple #[.agg #[.int .i64 0, .slice none 0 0], .bool false]) (by simp [results, Tryz.results37, go_sem, *]) rfl ⟨⟨_, [], [], rfl, BagOwn.nil _ _⟩, bex⟩
  have hpos : 0 < s.size := by omega
  have hposI : (0 : Int) < s.size := by omega
  have hne : s.toList.isEmpty = false := by
    rw [ByteArray.toList_eq]
    have : s.data.toList.length ≠ 0 := by simpa using hz
    cases h : s.data.toList with
    | nil => rw [h] at this; simp at this
    | cons a l => rfl
  have hW : bAt s 0 ≤ 255 := by have := bAt_lt s 0; omega
  have e64 : wrap64 (s[0].toNat : Int) = (bAt s 0 : Nat) := by rw [wrap64_byte, bAt_eq s 0 hpos]
  have hA : ansB s = resS s := by unfold ansB; rw [if_neg hz, res_same s hpos]
  by_cases h12 : bAt s 0 ≤ 12
  rotate_left
  · have h12I : (12 : Int) < (bAt s 0 : Nat) := by omega
    have HN : Hid (ansB s = none) := by
      show ansB s = none
      rw [hA]; unfold resS; rw [if_neg h12]
    clear hA h12
    go_enter Tryz.func37, Tryz.ntmps37
    go_wp2_with fail
    refine bodyPost_ret (v := .tuple #[.agg #[.int .i64 0, .slice none 0 0], .bool false]) (by simp [results, Tryz.results37, go_sem, *]) rfl ⟨⟨_, [], [], by rw [(ans_none HN.out).1, (ans_none HN.out).2.2], by rw [(ans_none HN.out).2.1]; exact BagOwn.nil _ _⟩, bex⟩
  have h12I : decide ((12 : Int) < (bAt s 0 : Nat)) = false := by simp; omega
  have HRS : Hid (ansB s = match run s (bAt s 0) (s.size + 1) 1 [] with | none => none | some cs => if putB (bAt s 0) cs = s then some cs else none) := by
    show ansB s = _
    rw [hA]; unfold resS; rw [if_pos h12]
    generalize run s (bAt s 0) (s.size + 1) 1 [] = r
    cases r <;> rfl
  clear hA
  go_enter Tryz.func37, Tryz.ntmps37
  go_wp2_with fail
  go_loopw [5] (fun at' wr => ∃ (n i : Nat) (cs : List C2) (y : Value) (us : List Value) (G : List (List Nat)), at' = .int .i64 i ∧ i ≤ s.size ∧ s.size + 1 ≤ n + i ∧ cs.length ≤ 401 ∧ run s (bAt s 0) (s.size + 1) 1 [] = run s (bAt s 0) n i cs ∧ CsWf cs ∧
      wr.cell? ⟨w.heap.size + 1, 0, none⟩ = some (.int .i64 (bAt s 0)) ∧ wr.cell? ⟨w.heap.size + 1, 1, none⟩ = some y ∧ (∀ o, wr.frozen? ⟨w.heap.size + 1, o, none⟩ = false) ∧
      wr.cell? ⟨w.heap.size, 0, none⟩ = some (.int .i64 0) ∧ wr.cell? ⟨w.heap.size, 1, none⟩ = some (.slice none 0 0) ∧ (∀ o, wr.frozen? ⟨w.heap.size, o, none⟩ = false) ∧
      BagOwn wr (w.heap.size + 1 + 1) y cs us G ∧ Below w.heap.size w wr ∧ w.heap.size + 1 + 1 ≤ wr.heap.size) (fun at' _ => s.size + 1 - (intOf at').toNat)
  case atStart =>
    refine ⟨s.size + 1, 1, [], .slice none 0 0, [], [], rfl, by omega, by omega, by simp, rfl, by simp [CsWf], by go_simp, by go_simp, fun o => by go_simp, by go_simp, by go_simp, fun o => by go_simp, BagOwn.nil _ _, bex, by simp⟩
  case round =>
    clear e64 hne h12I
    obtain ⟨n, i, cs, y, us, G, rfl, hi, hf, hcl, hrun0, hcw, p0, p1, pf, r0, r1, rf, hB, hb, hzb⟩ := hrel
    have HR : Hid (run s (bAt s 0) (s.size + 1) 1 [] = run s (bAt s 0) n i cs) := hrun0
    clear hrun0
    obtain ⟨wo, hwo⟩ : ∃ x, x = wr := ⟨_, rfl⟩
    subst hwo
    obtain ⟨ay, cy, rfl⟩ := hB.shape
    have e0 : w.heap.size + 1 < wo.heap.size := by omega
    have e1 : w.heap.size < wo.heap.size := by omega
    have hcI : (cs.length : Int) ≤ 401 := by omega
    by_cases hgo : i < s.size ∧ cs.length ≤ 400
    · obtain ⟨hlt, h400⟩ := hgo
      have hltI : (i : Int) < s.size := by omega
      have h400I : decide ((cs.length : Int) ≤ 400) = true := by simp; omega
      obtain ⟨n, rfl⟩ : ∃ n', n = n' + 1 := ⟨n - 1, by omega⟩
      obtain ⟨k1, n1, x1, j, hT⟩ : ∃ k n x j, getT s i = (k, n, x, j) := ⟨_, _, _, _, rfl⟩
      have HJ : Hid (tJ s i = j) := by show tJ s i = j; unfold tJ; rw [hT]
      have HN1 : Hid ((tV s i).n = n1) := by show (tV s i).n = n1; unfold tV; rw [hT]
      go_wp2_with fail
      refine Calls.mono (specGet_v hT wo hs) ?_
      rintro e w2 ⟨rfl, hb2⟩
      have hzw := hb2.size
      have hfz := (bcell hb2).2
      have hcz := (bcell hb2).1
      have u0 : w2.cell? ⟨w.heap.size, 0, none⟩ = some (.int .i64 0) := (hcz _ _ (by omega)).trans r0
      have u1 : w2.cell? ⟨w.heap.size, 1, none⟩ = some (.slice none 0 0) := (hcz _ _ (by omega)).trans r1
      have uf : ∀ o, w2.frozen? ⟨w.heap.size, o, none⟩ = false := fun o => (hfz _ _ (by omega)).trans (rf o)
      have q0 : w2.cell? ⟨w.heap.size + 1, 0, none⟩ = some (.int .i64 (bAt s 0)) := (hcz _ _ (by omega)).trans p0
      have q1 : w2.cell? ⟨w.heap.size + 1, 1, none⟩ = some (.slice ay cs.length cy) := (hcz _ _ (by omega)).trans p1
      have qf : ∀ o, w2.frozen? ⟨w.heap.size + 1, o, none⟩ = false := fun o => (hfz _ _ (by omega)).trans (pf o)
      have hbw2 : Below w.heap.size w w2 := hb.trans (hb2.mono hb.size)
      have hB2 := hB.below hb2
      have n3 : w.heap.size < w2.heap.size := by omega
      have n4 : w.heap.size + 1 < w2.heap.size := by omega
      have n5 : w.heap.size < w2.heap.size + 1 := by omega
      have n6 : w.heap.size + 1 < w2.heap.size + 1 := by omega
      clear hfz hcz p0 p1 pf r0 r1 rf hT hB
      go_wp2_with fail
      go_loopw [5, 9] (fun at' kk wr => ∃ (q : Nat) (y : Value), q ≤ bAt s 0 ∧ kk = .int .i64 q ∧ at' = .int .i64 (valsJ s q j) ∧ wr.ownsRow (w2.heap.size + 1 + 1) 119 3 y q (rc (valsV s q j)) ∧
          wr.cell? ⟨w2.heap.size + 1, 0, none⟩ = some y ∧ wr.cell? ⟨w2.heap.size + 1, 1, none⟩ = some (.int .i64 n1) ∧ (∀ o, wr.frozen? ⟨w2.heap.size + 1, o, none⟩ = false) ∧ Below w2.heap.size w2 wr ∧ w2.heap.size + 1 + 1 ≤ wr.heap.size) (fun _ kk _ => bAt s 0 - (intOf kk).toNat)
      case atStart =>
        refine ⟨0, .slice none 0 0, Nat.zero_le _, rfl, rfl, ⟨rfl, .inl ⟨rfl, rfl⟩⟩, by go_simp, by go_simp, fun o => by go_simp, bex, by simp⟩
      case round =>
        obtain ⟨q, y, hq, rfl, rfl, hown, a0, a1, af, hbi, hzi⟩ := hrel
        have hcz := (bcell hbi).1
        have hfz := (bcell hbi).2
        have t0 : wr.cell? ⟨w.heap.size, 0, none⟩ = some (.int .i64 0) := (hcz _ _ (by omega)).trans u0
        have t1 : wr.cell? ⟨w.heap.size, 1, none⟩ = some (.slice none 0 0) := (hcz _ _ (by omega)).trans u1
        have tf : ∀ o, wr.frozen? ⟨w.heap.size, o, none⟩ = false := fun o => (hfz _ _ (by omega)).trans (uf o)
        have z0 : wr.cell? ⟨w.heap.size + 1, 0, none⟩ = some (.int .i64 (bAt s 0)) := (hcz _ _ (by omega)).trans q0
        have z1 : wr.cell? ⟨w.heap.size + 1, 1, none⟩ = some (.slice ay cs.length cy) := (hcz _ _ (by omega)).trans q1
        have zf : ∀ o, wr.frozen? ⟨w.heap.size + 1, o, none⟩ = false := fun o => (hfz _ _ (by omega)).trans (qf o)
        have c0 : w.heap.size < wr.heap.size := by omega
        have c1 : w.heap.size + 1 < wr.heap.size := by omega
        have c2 : w2.heap.size + 1 < wr.heap.size := by omega
        have hq12 : (q : Int) ≤ 12 := by omega
        have hol := ownsRow_lt hown
        clear hfz hcz
        by_cases hin : q < bAt s 0 ∧ 0 ≤ valsJ s q j
        · obtain ⟨hqW, hp0⟩ := hin
          clear u0 u1 uf q0 q1 qf
          obtain ⟨k2, n2, s2, j2, hT2⟩ : ∃ k' n' x' j', getT s (valsJ s q j) = (k', n', x', j') := ⟨_, _, _, _, rfl⟩
          have HV : Hid (rc (valsV s (q + 1) j) = rc (valsV s q j) ++ [.int .i64 k2, .int .i64 n2, .string s2]) := by
            show rc (valsV s (q + 1) j) = _
            rw [valsV_succ, rc_push]
            unfold tV; rw [hT2]
          have HJ2 : Hid (valsJ s (q + 1) j = j2) := by
            show valsJ s (q + 1) j = j2
            rw [valsJ_succ]; unfold tJ; rw [hT2]
          have hqWI : (q : Int) < (bAt s 0 : Nat) := by omega
          have hv8 : y.ownBlock ≠ some (w2.heap.size + 1) := fun e => by have := (hol _ e).1; omega
          go_wp2_with fail
          refine Calls.mono (specGet_v hT2 wr hs) ?_
          rintro e w3 ⟨rfl, hb3⟩
          have hz3 := hb3.size
          have A0 : w3.cell? ⟨w2.heap.size + 1, 0, none⟩ = some y := ((bcell hb3).1 _ _ (by omega)).trans a0
          have A1 : w3.cell? ⟨w2.heap.size + 1, 1, none⟩ = some (.int .i64 n1) := ((bcell hb3).1 _ _ (by omega)).trans a1
          have Af : ∀ o, w3.frozen? ⟨w2.heap.size + 1, o, none⟩ = false := fun o => ((bcell hb3).2 _ _ (by omega)).trans (af o)
          have hown3 := ownsRow_keep hown (fun b hb' => hb3.block b (hol b hb').2)
          have hbi3 : Below w2.heap.size w2 w3 := hbi.trans (hb3.mono hbi.size)
          have d1 : w2.heap.size + 1 < w3.heap.size := by omega
          have d2 : w2.heap.size + 1 < w3.heap.size + 1 := by omega
          clear hown a0 a1 af t0 t1 tf z0 z1 zf hT2
          go_wp2_with (at_builtin; refine wpList_append_own _ rfl _ _ 110 rfl (w2.heap.size + 1 + 1) 119 i1 _ 3 32 Tryz.underlying110 hi1 hv0 hv1 hv2 rfl (by decide) y q (rc (valsV s q j)) rfl ?hown ⟨w3.heap.size + 1, 0, none⟩ 1 1 [.int .i64 k2, .int .i64 n2, .string s2] rfl rfl ?c1 ?c2 ?c3 ?c4 ?c5 ?_)
          case hown =>
            refine ownsRow_keep hown3 fun b hb' => ?_
            have h1 := ownsRow_lt hown3 b hb'
            rw [Below.heap_alloc _ _ _ (by simp; omega), Below.heap_alloc _ _ _ (by omega)]
          case c1 =>
            intro j' u hu
            match j', hu with
            | 0, hu => simp at hu; subst hu; go_simp
            | 1, hu => simp at hu; subst hu; go_simp
            | 2, hu => simp at hu; subst hu; go_simp
          case c2 => intro u hu; simp at hu; rcases hu with rfl | rfl | rfl <;> rfl
          case c3 => unfold maxLen; omega
          case c4 => omega
          case c5 => simp; omega
          intro v5 w5 hown5 hgr5 _
          have hsz5 := hgr5.size
          simp at hsz5
          have B0 : w5.cell? ⟨w2.heap.size + 1, 0, none⟩ = some y := (hgr5.cell_far _ (by simp; try omega) (fun e => hv8 e.symm)).trans (by go_simp)
          have B1 : w5.cell? ⟨w2.heap.size + 1, 1, none⟩ = some (.int .i64 n1) := (hgr5.cell_far _ (by simp; try omega) (fun e => hv8 e.symm)).trans (by go_simp)
          have Bf : ∀ o, w5.frozen? ⟨w2.heap.size + 1, o, none⟩ = false := fun o => (hgr5.frozen_far _ (by simp; try omega) (fun e => hv8 e.symm)).trans (by go_simp)
          have hbel4 : Below w2.heap.size w2 ((w3.alloc (.cells #[.int .i64 k2, .int .i64 n2, .string s2] 119)).alloc (.cells #[.int .i64 k2, .int .i64 n2, .string s2] 119)) := (hbi3.alloc (by omega) _).alloc (by simp; omega) _
          have hbel5 : Below w2.heap.size w2 w5 := hbel4.grown hgr5 (by simp; omega) (fun k' hk' => by have := (hol _ hk').1; omega)
          have hown6 : w5.ownsRow (w2.heap.size + 1 + 1) 119 3 v5 (q + 1) (rc (valsV s (q + 1) j)) := by rw [HV.out]; exact hown5
          have hol5 := ownsRow_lt hown6
          obtain ⟨g5, c5, hv5⟩ : ∃ g c, v5 = .slice (some ⟨g, 0, none⟩) (q + 1) c := by
            rcases hown6.2 with ⟨_, h0⟩ | ⟨g, cap, cur, hv, _⟩
            · omega
            · exact ⟨g, cap, hv⟩
          subst hv5
          have e5 : w2.heap.size + 1 < w5.heap.size := by omega
          clear hown5 hgr5 hown3 hol hbel4 A0 A1 Af
          go_wp2_with fail
          refine ⟨⟨q + 1, .slice (some ⟨g5, 0, none⟩) (q + 1) c5, hqW, by simp, by rw [HJ2.out], ?_, by go_simp, by go_simp, fun o => by go_simp, ?_, by simp; omega⟩, by simp [intOf]; omega⟩
          · refine ownsRow_keep hown6 fun b hb' => ?_
            have h1 := hol5 b hb'
            rw [Below.heap_setCell _ _ _ _ (by show b ≠ w2.heap.size + 1; omega)]
          · exact hbel5.setCell (by show w2.heap.size ≤ w2.heap.size + 1; omega) _
        by_cases hp0 : valsJ s q j < 0
        · have he : endS s (bAt s 0) i < 0 := by
            unfold endS
            rw [HJ.out, show bAt s 0 = q + (bAt s 0 - q) from by omega]
            exact valsJ_late s j _ q hp0
          have HN : Hid (ansB s = none) := by
            show ansB s = none
            rw [HRS.out, HR.out, run, if_pos ⟨hltI, h400⟩, if_pos he]
          have hbX : Below w.heap.size w wr := hbw2.trans (hbi.mono (by omega))
          have hp1 : decide (0 ≤ valsJ s q j) = false := by simp; omega
          clear u0 u1 uf q0 q1 qf hown a0 a1 af hB2 he hin hol
          generalize valsJ s q j = p at *
          have key : ∀ b : Bool, (if b then decide (0 ≤ p) else false) = false := by intro b; cases b <;> simp [hp1]
          by_cases hqW : q < bAt s 0
          · have hqWI : (q : Int) < (bAt s 0 : Nat) := by omega
            go_wp2_with fail
            refine bodyPost_ret (v := .tuple #[.agg #[.int .i64 0, .slice none 0 0], .bool false]) (by simp [results, Tryz.results37, go_sem, *]) rfl ⟨⟨_, [], [], by rw [(ans_none HN.out).1, (ans_none HN.out).2.2], by rw [(ans_none HN.out).2.1]; exact BagOwn.nil _ _⟩, ?_⟩
            repeat (first | (with_reducible exact hbX) | (with_reducible refine Below.setCell ?_ ?hh _; case hh => (first | (simp; done) | (simp; omega))))
          · have hqWI : decide ((q : Int) < (bAt s 0 : Nat)) = false := by simp; omega
            go_wp2_with fail
            refine bodyPost_ret (v := .tuple #[.agg #[.int .i64 0, .slice none 0 0], .bool false]) (by simp [results, Tryz.results37, go_sem, *]) rfl ⟨⟨_, [], [], by rw [(ans_none HN.out).1, (ans_none HN.out).2.2], by rw [(ans_none HN.out).2.1]; exact BagOwn.nil _ _⟩, ?_⟩
            repeat (first | (with_reducible exact hbX) | (with_reducible refine Below.setCell ?_ ?hh _; case hh => (first | (simp; done) | (simp; omega))))
        obtain rfl : q = bAt s 0 := by omega
        have he : 0 ≤ endS s (bAt s 0) i := by unfold endS; rw [HJ.out]; omega
        obtain ⟨e, hee⟩ : ∃ e : Nat, endS s (bAt s 0) i = e := ⟨(endS s (bAt s 0) i).toNat, by omega⟩
        obtain ⟨a', b', ea, eb, hab, hbs, _⟩ := end_round s (bAt s 0) i he
        have hei : i < e := by omega
        have hes : e ≤ s.size := by omega
        have HS : Hid (run s (bAt s 0) (n + 1) i cs = run s (bAt s 0) n e (cs ++ [rowS s (bAt s 0) i])) := by
          show run s (bAt s 0) (n + 1) i cs = _
          rw [run, if_pos ⟨hltI, h400⟩, if_neg (by omega), hee]
        have hval : valsJ s (bAt s 0) j = e := by unfold endS at hee; rw [HJ.out] at hee; exact hee
        have HROW : Hid (rowS s (bAt s 0) i = ⟨valsV s (bAt s 0) j, n1⟩) := by show rowS s (bAt s 0) i = _; unfold rowS; rw [HJ.out, HN1.out]
        have hrw := rowS_wf s (bAt s 0) i
        obtain ⟨g, hRF, hOg⟩ := own_rowF (vs := valsV s (bAt s 0) j) hown
        rw [hval]
        clear ea eb hee he hin hp0 hval hown hol hq
        generalize valsV s (bAt s 0) j = row at *
        obtain ⟨au, cu, hu⟩ : ∃ a c, y = .slice a row.length c := by obtain ⟨a, c, h, _⟩ := hRF; exact ⟨a, c, h⟩
        subst hu
        have hB3 := hB2.keep hbi.size (fun b _ hlt => hbi.block b hlt)
        have hol := ownsRow_lt hB2.own
        have hGl := hB2.lt
        have hv4 : Value.ownBlock (.slice ay cs.length cy) ≠ some (w.heap.size + 1) := fun e => by have := (hol _ e).1; omega
        have hv2 : Value.ownBlock (.slice ay cs.length cy) ≠ some w.heap.size := fun e => by have := (hol _ e).1; omega
        have hb24 : Below wr.heap.size wr (wr.alloc (.cells #[.slice au row.length cu, .int .i64 n1] 112)) := (Below.refl _ _).alloc (Nat.le_refl _) _
        have hB4 := hB3.below hb24
        have hR4 : RowF (wr.alloc (.cells #[.slice au row.length cu, .int .i64 n1] 112)) (.slice au row.length cu) row g := hRF.keep hb24.size fun c hc => hb24.block c (hRF.lt c hc)
        have hO4 : Own (wr.alloc (.cells #[.slice au row.length cu, .int .i64 n1] 112)) (w.heap.size + 1 + 1) g := Own.keep (w := wr) ⟨hOg.1, fun b hb' => by have := hOg.2.1 b hb'; omega, hOg.2.2⟩ fun c hc => hb24.block c (hRF.lt c hc)
        have hnew : ∀ j' u, [Value.slice au row.length cu, Value.int .i64 n1][j']? = some u → (wr.alloc (.cells #[.slice au row.length cu, .int .i64 n1] 112)).cell? ((⟨wr.heap.size, 0, none⟩ : Addr).add j') = some u := by
          intro j' u hu
          match j', hu with
          | 0, hu => simp at hu; subst hu; go_simp
          | 1, hu => simp at hu; subst hu; go_simp
        have hbX : Below w.heap.size w wr := hbw2.trans (hbi.mono (by omega))
        have heI : decide ((e : Int) < 0) = false := by simp
        have hnlt : decide ((bAt s 0 : Int) < (bAt s 0 : Nat)) = false := by simp
        clear u0 u1 uf q0 q1 qf
        go_wp2_with (at_builtin; refine wpList_append_own_at _ rfl _ _ 69 rfl (w.heap.size + 1 + 1) 112 i0 _ 2 32 Tryz.underlying69 hi0 hz0 hz1 hz2 rfl (by decide) (.slice ay cs.length cy) cs.length (cc us cs) rfl hB4.own ⟨wr.heap.size, 0, none⟩ 1 1 [.slice au row.length cu, .int .i64 n1] rfl rfl hnew (by simp [Value.oneCell']) ?c3 ?c4 ?c5 ?_)
        case c3 => unfold maxLen; omega
        case c4 => omega
        case c5 => simp; omega
        intro v5 w5 hown5 hgr5 _ hat5
        have hB5 : BagOwn w5 (w.heap.size + 1 + 1) v5 (cs ++ [⟨row, n1⟩]) (us ++ [.slice au row.length cu]) (G ++ [g]) := hB4.push hR4 hO4 (fun b hb1 hb2' => by have := hGl b hb1; have := hOg.2.1 b hb2'; omega) (fun b hb1 hb2' => by have := (hol b hb1).2; have := hOg.2.1 b hb2'; omega) hown5 hgr5 (fun b hb1 => by
          rcases hat5 with e | e
          · left; rw [← e]; exact hb1
          · right; rw [e] at hb1; cases hb1; first | exact Nat.le_refl _ | simp | (simp; omega))
        have hsz5 := hgr5.size
        simp at hsz5
        have A0 : w5.cell? ⟨w.heap.size + 1, 0, none⟩ = some (.int .i64 (bAt s 0)) := (hgr5.cell_far _ (by simp; try omega) (fun e => hv4 e.symm)).trans (by go_simp)
        have A1 : w5.cell? ⟨w.heap.size + 1, 1, none⟩ = some (.slice ay cs.length cy) := (hgr5.cell_far _ (by simp; try omega) (fun e => hv4 e.symm)).trans (by go_simp)
        have Af : ∀ o, w5.frozen? ⟨w.heap.size + 1, o, none⟩ = false := fun o => (hgr5.frozen_far _ (by simp; try omega) (fun e => hv4 e.symm)).trans (by go_simp)
        have D0 : w5.cell? ⟨w.heap.size, 0, none⟩ = some (.int .i64 0) := (hgr5.cell_far _ (by simp; try omega) (fun e => hv2 e.symm)).trans (by go_simp)
        have D1 : w5.cell? ⟨w.heap.size, 1, none⟩ = some (.slice none 0 0) := (hgr5.cell_far _ (by simp; try omega) (fun e => hv2 e.symm)).trans (by go_simp)
        have Df : ∀ o, w5.frozen? ⟨w.heap.size, o, none⟩ = false := fun o => (hgr5.frozen_far _ (by simp; try omega) (fun e => hv2 e.symm)).trans (by go_simp)
        have hbel5 : Below w.heap.size w w5 := (hbX.trans (hb24.mono (by omega))).grown hgr5 (by simp; omega) (fun k' hk' => by have := (hol _ hk').1; omega)
        obtain ⟨a5, c5, hv5⟩ := hB5.shape
        have hv5' : v5 = .slice a5 (cs.length + 1) c5 := by rw [hv5]; simp
        clear hv5
        subst hv5'
        have m1 : w.heap.size + 1 < w5.heap.size := by omega
        have m2 : w.heap.size < w5.heap.size := by omega
        have hB6 : BagOwn (w5.setCell ⟨w.heap.size + 1, 1, none⟩ (.slice a5 (cs.length + 1) c5)) (w.heap.size + 1 + 1) (.slice a5 (cs.length + 1) c5) (cs ++ [⟨row, n1⟩]) (us ++ [.slice au row.length cu]) (G ++ [g]) := hB5.keep (by simp) fun b hb1 _ => Below.heap_setCell _ _ _ _ (by show b ≠ w.heap.size + 1; omega)
        have hbel6 : Below w.heap.size w (w5.setCell ⟨w.heap.size + 1, 1, none⟩ (.slice a5 (cs.length + 1) c5)) := hbel5.setCell (by show w.heap.size ≤ w.heap.size + 1; omega) _
        clear hown5 hgr5 hB4 hR4 hO4 hB5 hB3 hB2 hRF hOg hat5 hol hGl t0 t1 tf z0 z1 zf a0 a1 af hb24 hnew
        go_wp2_with fail
        refine ⟨⟨n, e, cs ++ [⟨row, n1⟩], .slice a5 (cs.length + 1) c5, us ++ [.slice au row.length cu], G ++ [g], rfl, hes, by omega, by simp; omega, by rw [HR.out, HS.out, HROW.out], ?_, by go_simp, by go_simp, fun o => by go_simp, by go_simp, by go_simp, fun o => by go_simp, hB6, hbel6, by simp; omega⟩, by simp [intOf]; omega⟩
        intro z hz
        rcases List.mem_append.1 hz with hz | hz
        · exact hcw z hz
        · rcases List.mem_singleton.1 hz with rfl
          rw [HROW.out] at hrw
          exact hrw
    by_cases hlt : i < s.size
    · have hltI : (i : Int) < s.size := by omega
      have h400I : decide ((cs.length : Int) ≤ 400) = false := by simp; omega
      have HE : Hid (ansB s = if putB (bAt s 0) cs = s then some cs else none) := by
        show ansB s = _
        rw [HRS.out, HR.out, run_stop _ _ _ _ _ (by omega)]
      obtain ⟨F, hRs, hOs⟩ := hB.rowsF
      go_wp2_with fail
      refine Calls.mono (specPutBag_any (bAt s 0) (.slice ay cs.length cy) cs wo hcw hRs.is) ?_
      rintro e w2 ⟨rfl, hb2⟩
      have hzw := hb2.size
      have hfz := (bcell hb2).2
      have hcz := (bcell hb2).1
      have u0 : w2.cell? ⟨w.heap.size, 0, none⟩ = some (.int .i64 0) := (hcz _ _ (by omega)).trans r0
      have u1 : w2.cell? ⟨w.heap.size, 1, none⟩ = some (.slice none 0 0) := (hcz _ _ (by omega)).trans r1
      have uf : ∀ o, w2.frozen? ⟨w.heap.size, o, none⟩ = false := fun o => (hfz _ _ (by omega)).trans (rf o)
      have q0 : w2.cell? ⟨w.heap.size + 1, 0, none⟩ = some (.int .i64 (bAt s 0)) := (hcz _ _ (by omega)).trans p0
      have q1 : w2.cell? ⟨w.heap.size + 1, 1, none⟩ = some (.slice ay cs.length cy) := (hcz _ _ (by omega)).trans p1
      have hbw2 : Below w.heap.size w w2 := hb.trans (hb2.mono hb.size)
      have n3 : w.heap.size < w2.heap.size := by omega
      have n5 : w.heap.size + 1 < w2.heap.size := by omega
      have hB2 := hB.below hb2
      clear hfz hcz p0 p1 pf r0 r1 rf hB hRs hOs
      by_cases hok : putB (bAt s 0) cs = s
      · have HN : Hid (ansB s = some cs) := by show ansB s = some cs; rw [HE.out, if_pos hok]
        rw [hok]
        clear hok
        go_wp2_with fail
        refine bodyPost_ret (v := .tuple #[.agg #[.int .i64 (bAt s 0), .slice ay cs.length cy], .bool true]) (by simp [results, Tryz.results37, go_sem, *]) rfl ⟨⟨_, us, G, by rw [(ans_some HN.out).1, (ans_some HN.out).2.2], ?_⟩, ?_⟩
        · rw [(ans_some HN.out).2.1]
          refine BagOwn.weak (N := w.heap.size + 1 + 1) (hB2.keep (by simp) fun b hb1 _ => ?_) (by omega)
          repeat rw [Below.heap_setCell _ _ _ _ (by show b ≠ w.heap.size; omega)]
        · repeat (first | (with_reducible exact hbw2) | (with_reducible refine Below.setCell ?_ ?hh _; case hh => (first | (simp; done) | (simp; omega))))
      · have HN : Hid (ansB s = none) := by show ansB s = none; rw [HE.out, if_neg hok]
        have hokb : ((putB (bAt s 0) cs).toList == s.toList) = false := beq_eq_false_iff_ne.2 fun e => hok (by rw [ByteArray.toList_eq, ByteArray.toList_eq] at e; exact ByteArray.ext (Array.toList_inj.1 e))
        clear hB2
        go_wp2_with fail
        refine bodyPost_ret (v := .tuple #[.agg #[.int .i64 0, .slice none 0 0], .bool false]) (by simp [results, Tryz.results37, go_sem, *]) rfl ⟨⟨_, [], [], by rw [(ans_none HN.out).1, (ans_none HN.out).2.2], by rw [(ans_none HN.out).2.1]; exact BagOwn.nil _ _⟩, ?_⟩
        repeat (first | (with_reducible exact hbw2) | (with_reducible refine Below.setCell ?_ ?hh _; case hh => (first | (simp; done) | (simp; omega))))
    · have hltI : decide ((i : Int) < s.size) = false := by simp; omega
      have HE : Hid (ansB s = if putB (bAt s 0) cs = s then some cs else none) := by
        show ansB s = _
        rw [HRS.out, HR.out, run_stop _ _ _ _ _ (by omega)]
      obtain ⟨F, hRs, hOs⟩ := hB.rowsF
      go_wp2_with fail
      refine Calls.mono (specPutBag_any (bAt s 0) (.slice ay cs.length cy) cs wo hcw hRs.is) ?_
      rintro e w2 ⟨rfl, hb2⟩
      have hzw := hb2.size
      have hfz := (bcell hb2).2
      have hcz := (bcell hb2).1
      have u0 : w2.cell? ⟨w.heap.size, 0, none⟩ = some (.int .i64 0) := (hcz _ _ (by omega)).trans r0
      have u1 : w2.cell? ⟨w.heap.size, 1, none⟩ = some (.slice none 0 0) := (hcz _ _ (by omega)).trans r1
      have uf : ∀ o, w2.frozen? ⟨w.heap.size, o, none⟩ = false := fun o => (hfz _ _ (by omega)).trans (rf o)
      have q0 : w2.cell? ⟨w.heap.size + 1, 0, none⟩ = some (.int .i64 (bAt s 0)) := (hcz _ _ (by omega)).trans p0
      have q1 : w2.cell? ⟨w.heap.size + 1, 1, none⟩ = some (.slice ay cs.length cy) := (hcz _ _ (by omega)).trans p1
      have hbw2 : Below w.heap.size w w2 := hb.trans (hb2.mono hb.size)
      have n3 : w.heap.size < w2.heap.size := by omega
      have n5 : w.heap.size + 1 < w2.heap.size := by omega
      have hB2 := hB.below hb2
      clear hfz hcz p0 p1 pf r0 r1 rf hB hRs hOs
      by_cases hok : putB (bAt s 0) cs = s
      · have HN : Hid (ansB s = some cs) := by show ansB s = some cs; rw [HE.out, if_pos hok]
        rw [hok]
        clear hok
        go_wp2_with fail
        refine bodyPost_ret (v := .tuple #[.agg #[.int .i64 (bAt s 0), .slice ay cs.length cy], .bool true]) (by simp [results, Tryz.results37, go_sem, *]) rfl ⟨⟨_, us, G, by rw [(ans_some HN.out).1, (ans_some HN.out).2.2], ?_⟩, ?_⟩
        · rw [(ans_some HN.out).2.1]
          refine BagOwn.weak (N := w.heap.size + 1 + 1) (hB2.keep (by simp) fun b hb1 _ => ?_) (by omega)
          repeat rw [Below.heap_setCell _ _ _ _ (by show b ≠ w.heap.size; omega)]
        · repeat (first | (with_reducible exact hbw2) | (with_reducible refine Below.setCell ?_ ?hh _; case hh => (first | (simp; done) | (simp; omega))))
      · have HN : Hid (ansB s = none) := by show ansB s = none; rw [HE.out, if_neg hok]
        have hokb : ((putB (bAt s 0) cs).toList == s.toList) = false := beq_eq_false_iff_ne.2 fun e => hok (by rw [ByteArray.toList_eq, ByteArray.toList_eq] at e; exact ByteArray.ext (Array.toList_inj.1 e))
        clear hB2
        go_wp2_with fail
        refine bodyPost_ret (v := .tuple #[.agg #[.int .i64 0, .slice none 0 0], .bool false]) (by simp [results, Tryz.results37, go_sem, *]) rfl ⟨⟨_, [], [], by rw [(ans_none HN.out).1, (ans_none HN.out).2.2], by rw [(ans_none HN.out).2.1]; exact BagOwn.nil _ _⟩, ?_⟩
        repeat (first | (with_reducible exact hbw2) | (with_reducible refine Below.setCell ?_ ?hh _; case hh => (first | (simp; done) | (simp; omega))))
end Go.Proofs.YtbmoimfimeiglaaGreat
