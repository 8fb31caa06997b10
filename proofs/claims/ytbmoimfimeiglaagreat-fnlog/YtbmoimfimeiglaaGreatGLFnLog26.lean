/- Own texts, joined: contracts that the law's proof goes by. -/
import Derived.Test.YtbmoimfimeiglaaGreatGLFnLog12
import Derived.Handy
import Derived.Test.YtbmoimfimeiglaaGreatGLFnLog25
import Derived.Test.YtbmoimfimeiglaaGreatGLFnLog7
namespace Go.Proofs.YtbmoimfimeiglaaGreat
open Go.RowKit Go.Deep
set_option linter.unusedVariables false
theorem Tryz.infoCnt : (Tryz.prog.info? 112).map (fun i => (i.zero, i.size, i.bytes)) = some (some (.agg #[.slice none 0 0, .int .i64 0]), 2, 32) := by kernel_rfl
structure HalfB (w : World) (B0 : Nat) (cs : List C2) (g : Nat → Nat) (k : Nat) : Prop where
  own : ∃ f, w.rowIs B0 112 (cs.length * 2) f ∧ ∀ i x, i < k → cs[i]? = some x → f (i * 2) = .slice (some ⟨g i, 0, none⟩) x.r.length x.r.length ∧ f (i * 2 + 1) = .int .i64 x.n
  row : ∀ i x, i < k → cs[i]? = some x → w.rowIs (g i) 119 (x.r.length * 3) (cf x.r)
  above : ∀ i, i < k → B0 < g i
  up : ∀ i j, i < j → j < k → g i < g j
theorem HalfB.cells {w : World} {B : Nat} {cs : List C2} {g : Nat → Nat} {k : Nat} (h : HalfB w B cs g k) (hk : k < cs.length) :
    (∃ u, w.cell? ⟨B, k * 2, none⟩ = some u) ∧ (∃ u, w.cell? ⟨B, k * 2 + 1, none⟩ = some u) ∧ (∀ i, w.frozen? ⟨B, i, none⟩ = false) ∧ B < w.heap.size := by
  obtain ⟨f, h, _⟩ := h.own
  exact ⟨⟨_, h.cell (by omega)⟩, ⟨_, h.cell (by omega)⟩, fun i => h.frozen i, h.lt⟩
theorem HalfB.lt {w : World} {B : Nat} {cs : List C2} {g : Nat → Nat} {k : Nat} (h : HalfB w B cs g k) (hk : k ≤ cs.length) {i : Nat} (hi : i < k) : g i < w.heap.size := (h.row i cs[i] hi (by simp)).lt
theorem HalfB.below {w w' : World} {B : Nat} {cs : List C2} {g : Nat → Nat} {k : Nat} (h : HalfB w B cs g k) (hk : k ≤ cs.length) (hb : Below w.heap.size w w') : HalfB w' B cs g k := by
  obtain ⟨⟨f, hf, he⟩, h1, h2, h3⟩ := h
  exact ⟨⟨f, hf.of_block (hb.block _ hf.lt), he⟩, fun i x hi hx => (h1 i x hi hx).of_block (hb.block _ (h1 i x hi hx).lt), h2, h3⟩
theorem HalfB.keep {w w' : World} {B : Nat} {cs : List C2} {g : Nat → Nat} {k : Nat} (h : HalfB w B cs g k) (hk : k ≤ cs.length) (e : ∀ b, B ≤ b → w'.heap[b]? = w.heap[b]?) : HalfB w' B cs g k := by
  obtain ⟨⟨f, hf, he⟩, h1, h2, h3⟩ := h
  exact ⟨⟨f, hf.of_block (e _ (Nat.le_refl _)), he⟩, fun i x hi hx => (h1 i x hi hx).of_block (e _ (Nat.le_of_lt (h2 i hi))), h2, h3⟩
theorem HalfB.step {w : World} {B D : Nat} {cs : List C2} {g : Nat → Nat} {k : Nat} {x : C2} (h : HalfB w B cs g k) (hx : cs[k]? = some x) (hD : w.rowIs D 119 (x.r.length * 3) (cf x.r)) (hB : B < D) (hup : ∀ i, i < k → g i < D) :
    HalfB ((w.setCell ⟨B, k * 2, none⟩ (.slice (some ⟨D, 0, none⟩) x.r.length x.r.length)).setCell ⟨B, k * 2 + 1, none⟩ (.int .i64 x.n)) B cs (fun i => if i = k then D else g i) (k + 1) := by
  obtain ⟨⟨f, hf, he⟩, h1, h2, h3⟩ := h
  refine ⟨⟨_, (hf.set _ _).set _ _, fun i y hi hy => ?_⟩, fun i y hi hy => ?_, fun i hi => ?_, fun i j hij hj => ?_⟩
  · by_cases e : i = k
    · subst e
      obtain rfl : y = x := by rw [hx] at hy; exact (Option.some.inj hy).symm
      simp
    · have e1 : i * 2 ≠ k * 2 := by omega
      have e2 : i * 2 ≠ k * 2 + 1 := by omega
      have e3 : i * 2 + 1 ≠ k * 2 := by omega
      have e4 : i * 2 + 1 ≠ k * 2 + 1 := by omega
      simp only [if_neg e1, if_neg e2, if_neg e3, if_neg e4, if_neg e]
      exact he i y (by omega) hy
  · by_cases e : i = k
    · subst e
      obtain rfl : y = x := by rw [hx] at hy; exact (Option.some.inj hy).symm
      simp only [if_true]
      exact (hD.setOther (by show D ≠ B; omega) _).setOther (by show D ≠ B; omega) _
    · simp only [if_neg e]
      have := h2 i (by omega)
      exact ((h1 i y (by omega) hy).setOther (by show g i ≠ B; omega) _).setOther (by show g i ≠ B; omega) _
  · by_cases e : i = k
    · simp only [if_pos e]; exact hB
    · simp only [if_neg e]; exact h2 i (by omega)
  · by_cases e : j = k
    · have e' : i ≠ k := by omega
      simp only [if_pos e, if_neg e']; exact hup i (by omega)
    · have e' : i ≠ k := by omega
      simp only [if_neg e, if_neg e']; exact h3 i j hij (by omega)
end Go.Proofs.YtbmoimfimeiglaaGreat
namespace Go.Proofs.YtbmoimfimeiglaaGreat
open Go.RowKit Go.Deep
set_option linter.unusedVariables false
def ansB (s : ByteArray) : Option (List C2) := if s.size = 0 then none else resI s
def aW (s : ByteArray) : Int := match ansB s with | none => 0 | some _ => bAt s 0
def aC (s : ByteArray) : List C2 := match ansB s with | none => [] | some cs => cs
def aB (s : ByteArray) : Bool := match ansB s with | none => false | some _ => true
theorem ans_none {s : ByteArray} (h : ansB s = none) : aW s = 0 ∧ aC s = [] ∧ aB s = false := by unfold aW aC aB; rw [h]; exact ⟨rfl, rfl, rfl⟩
theorem ans_some {s : ByteArray} {cs : List C2} (h : ansB s = some cs) : aW s = bAt s 0 ∧ aC s = cs ∧ aB s = true := by unfold aW aC aB; rw [h]; exact ⟨rfl, rfl, rfl⟩
theorem wf_64 {n : Int} (h0 : -9223372036854775808 ≤ n) (h1 : n ≤ 9223372036854775807) : (Lit.int .i64 n).wf = true := by
  have e1 : IntKind.i64.min = -9223372036854775808 := by decide
  have e2 : IntKind.i64.max = 9223372036854775807 := by decide
  simp only [Lit.wf, Bool.and_eq_true, decide_eq_true_eq, e1, e2]
  exact ⟨h0, h1⟩
theorem tV_wf (s : ByteArray) (i : Int) : (tV s i).wf := by
  have w0 : (Lit.int .i64 0).wf = true := by decide
  have w1 : (Lit.int .i64 1).wf = true := by decide
  have w2 : (Lit.int .i64 2).wf = true := by decide
  have w3 : (Lit.int .i64 3).wf = true := by decide
  unfold tV getT
  have hnil : (⟨#[]⟩ : ByteArray).size ≤ maxLen := by decide
  split
  · unfold getN
    split
    · exact ⟨w0, w0, hnil⟩
    split
    · refine ⟨w1, wf_64 ?_ ?_, hnil⟩ <;> (dsimp only; unfold numAt wrap64; omega)
    split
    · rename_i h
      refine ⟨w2, wf_64 ?_ ?_, hnil⟩ <;> (dsimp only; omega)
    split
    · rename_i h
      refine ⟨w3, w0, ?_⟩
      dsimp only
      rw [ByteArray.size_extract]
      unfold maxLen
      omega
    · exact ⟨w0, w0, hnil⟩
  · exact ⟨w0, w0, hnil⟩
theorem runI_stop (s : ByteArray) (W : Nat) (n : Nat) (i : Int) (cs : List C2) (h : ¬ (i < s.size ∧ cs.length ≤ 400)) : runI s W n i cs = some cs := by
  cases n with
  | zero => rfl
  | succ n => rw [runI, if_neg h]
theorem valsV_wf (s : ByteArray) : ∀ (n : Nat) (i : Int), VsWf (valsV s n i)
  | 0, _ => by intro y hy; cases hy
  | n + 1, i => by
    intro y hy
    rcases List.mem_cons.1 hy with rfl | hy
    · exact tV_wf s i
    · exact valsV_wf s n _ y hy
theorem rowS_wf (s : ByteArray) (W : Nat) (i : Int) : (rowS s W i).wf := ⟨valsV_wf s W _, (tV_wf s i).2.1⟩
set_option maxHeartbeats 4000000 in
set_option maxRecDepth 100000 in
theorem implGetBag_any (s : ByteArray) (w : World) (hs : s.size ≤ 1048576) :
    Calls Tryz.prog 101 #[.string s] w fun e w' => (∃ u us G, e = .returned (.tuple #[.agg #[.int .i64 (aW s), u], .bool (aB s)]) ∧ BagOwn w' w.heap.size u (aC s) us G) ∧ Below w.heap.size w w' := by
  by_cases hz : s.size = 0
  · have hA := ans_none (s := s) (by unfold ansB; rw [if_pos hz])
    have hnil : s.toList = [] := by rw [ByteArray.toList_eq]; exact List.eq_nil_of_length_eq_zero (by simpa using hz)
    rw [hA.1, hA.2.1, hA.2.2]
    clear hA
    go_enter Tryz.func101, Tryz.ntmps101
    go_wp2_with fail
    refine bodyPost_ret (v := .tuple #[.agg #[.int .i64 0, .slice none 0 0], .bool false]) (by simp [results, Tryz.results101, go_sem, *]) rfl ⟨⟨_, [], [], rfl, BagOwn.nil _ _⟩, bex⟩
  have hpos : 0 < s.size := by omega
  have hposI : (0 : Int) < s.size := by omega
  have hne : s.toList.isEmpty = false := by
    rw [ByteArray.toList_eq]
    have : s.data.toList.length ≠ 0 := by simpa using hz
    cases h : s.data.toList with
    | nil => rw [h] at this; simp at this
    | cons a l => rfl
  have hW : bAt s 0 ≤ 255 := by have := bAt_lt s 0; omega
  have e64 : wrap64 (s[0].toNat : Int) = (bAt s 0 : Nat) := by rw [wrap64_byte, bAt_eq s 0 hpos]
  have hA : ansB s = resI s := by unfold ansB; rw [if_neg hz]
  go_enter Tryz.func101, Tryz.ntmps101
  go_wp2_with fail
  go_loopw [5] (fun at' wr => ∃ (n i : Nat) (cs : List C2) (y : Value) (us : List Value) (G : List (List Nat)), at' = .int .i64 i ∧ i ≤ s.size ∧ s.size + 1 ≤ n + i ∧ cs.length ≤ 401 ∧ runI s (bAt s 0) (s.size + 1) 1 [] = runI s (bAt s 0) n i cs ∧ CsWf cs ∧
      wr.cell? ⟨w.heap.size + 1, 0, none⟩ = some (.int .i64 (bAt s 0)) ∧ wr.cell? ⟨w.heap.size + 1, 1, none⟩ = some y ∧ (∀ o, wr.frozen? ⟨w.heap.size + 1, o, none⟩ = false) ∧
      wr.cell? ⟨w.heap.size, 0, none⟩ = some (.int .i64 0) ∧ wr.cell? ⟨w.heap.size, 1, none⟩ = some (.slice none 0 0) ∧ (∀ o, wr.frozen? ⟨w.heap.size, o, none⟩ = false) ∧
      BagOwn wr (w.heap.size + 1 + 1) y cs us G ∧ Below w.heap.size w wr ∧ w.heap.size + 1 + 1 ≤ wr.heap.size) (fun at' _ => s.size + 1 - (intOf at').toNat)
  case atStart =>
    refine ⟨s.size + 1, 1, [], .slice none 0 0, [], [], rfl, by omega, by omega, by simp, rfl, by simp [CsWf], by go_simp, by go_simp, fun o => by go_simp, by go_simp, by go_simp, fun o => by go_simp, BagOwn.nil _ _, bex, by simp⟩
  case round =>
    clear e64 hne
    obtain ⟨n, i, cs, y, us, G, rfl, hi, hf, hcl, hrun0, hcw, p0, p1, pf, r0, r1, rf, hB, hb, hzb⟩ := hrel
    have HR : Hid (runI s (bAt s 0) (s.size + 1) 1 [] = runI s (bAt s 0) n i cs) := hrun0
    clear hrun0
    obtain ⟨ay, cy, rfl⟩ := hB.shape
    have e0 : w.heap.size + 1 < wr.heap.size := by omega
    have e1 : w.heap.size < wr.heap.size := by omega
    have hcI : (cs.length : Int) ≤ 401 := by omega
    by_cases hlt : i < s.size
    · have hltI : (i : Int) < s.size := by omega
      by_cases h400 : cs.length ≤ 400
      · have h400I : decide ((cs.length : Int) ≤ 400) = true := by simp; omega
        obtain ⟨n, rfl⟩ : ∃ n', n = n' + 1 := ⟨n - 1, by omega⟩
        by_cases hk : (tV s i).k = 1
        · by_cases he : endS s (bAt s 0) i < 0
          · have HN : Hid (ansB s = none) := by
              show ansB s = none
              rw [hA]; unfold resI
              rw [HR.out, runI, if_pos ⟨hltI, h400⟩, if_pos (.inr he)]
            go_wp2_with fail
            refine Calls.mono (getCounted_yes s i (bAt s 0) wr hs hW hk) ?_
            rintro e w2 ⟨⟨u, g, rfl, hRF, hOg⟩, hb2⟩
            obtain ⟨au, cu, hu⟩ : ∃ a c, u = .slice a (valsV s (bAt s 0) (tJ s i)).length c := by obtain ⟨a, c, h, _⟩ := hRF; exact ⟨a, c, h⟩
            subst hu
            have hzw := hb2.size
            have hfz := (bcell hb2).2
            have hcz := (bcell hb2).1
            have u0 : w2.cell? ⟨w.heap.size, 0, none⟩ = some (.int .i64 0) := (hcz _ _ (by omega)).trans r0
            have u1 : w2.cell? ⟨w.heap.size, 1, none⟩ = some (.slice none 0 0) := (hcz _ _ (by omega)).trans r1
            have uf : ∀ o, w2.frozen? ⟨w.heap.size, o, none⟩ = false := fun o => (hfz _ _ (by omega)).trans (rf o)
            have q0 : w2.cell? ⟨w.heap.size + 1, 0, none⟩ = some (.int .i64 (bAt s 0)) := (hcz _ _ (by omega)).trans p0
            have q1 : w2.cell? ⟨w.heap.size + 1, 1, none⟩ = some (.slice ay cs.length cy) := (hcz _ _ (by omega)).trans p1
            have qf : ∀ o, w2.frozen? ⟨w.heap.size + 1, o, none⟩ = false := fun o => (hfz _ _ (by omega)).trans (pf o)
            have hbw2 : Below w.heap.size w w2 := hb.trans (hb2.mono hb.size)
            have n3 : w.heap.size < w2.heap.size := by omega
            have n4 : w.heap.size < w2.heap.size + 1 := by omega
            have n5 : w.heap.size + 1 < w2.heap.size := by omega
            have n6 : w.heap.size + 1 < w2.heap.size + 1 := by omega
            clear hfz hcz p0 p1 pf r0 r1 rf
            clear hB hRF hOg
            go_wp2_with fail
            refine bodyPost_ret (v := .tuple #[.agg #[.int .i64 0, .slice none 0 0], .bool false]) (by simp [results, Tryz.results101, go_sem, *]) rfl ⟨⟨_, [], [], by rw [(ans_none HN.out).1, (ans_none HN.out).2.2], by rw [(ans_none HN.out).2.1]; exact BagOwn.nil _ _⟩, bex⟩
          · obtain ⟨e, hee⟩ : ∃ e : Nat, endS s (bAt s 0) i = e := ⟨(endS s (bAt s 0) i).toNat, by omega⟩
            obtain ⟨a', b', ea, eb, hab, hbs, _⟩ := end_round s (bAt s 0) i (by omega)
            have hei : i < e := by omega
            have hes : e ≤ s.size := by omega
            have HS : Hid (runI s (bAt s 0) (n + 1) i cs = runI s (bAt s 0) n e (cs ++ [rowS s (bAt s 0) i])) := by
              show runI s (bAt s 0) (n + 1) i cs = _
              rw [runI, if_pos ⟨hltI, h400⟩, if_neg (by omega), hee]
            have hgc := getCounted_yes s i (bAt s 0) wr hs hW hk
            rw [hee] at hgc
            have HROW : Hid (rowS s (bAt s 0) i = ⟨valsV s (bAt s 0) (tJ s i), (tV s i).n⟩) := rfl
            have hrw := rowS_wf s (bAt s 0) i
            clear ea eb hee he hk
            generalize valsV s (bAt s 0) (tJ s i) = row at *
            generalize (tV s i).n = rn at *
            go_wp2_with fail
            refine Calls.mono (hgc) ?_
            rintro e w2 ⟨⟨u, g, rfl, hRF, hOg⟩, hb2⟩
            obtain ⟨au, cu, hu⟩ : ∃ a c, u = .slice a row.length c := by obtain ⟨a, c, h, _⟩ := hRF; exact ⟨a, c, h⟩
            subst hu
            have hzw := hb2.size
            have hfz := (bcell hb2).2
            have hcz := (bcell hb2).1
            have u0 : w2.cell? ⟨w.heap.size, 0, none⟩ = some (.int .i64 0) := (hcz _ _ (by omega)).trans r0
            have u1 : w2.cell? ⟨w.heap.size, 1, none⟩ = some (.slice none 0 0) := (hcz _ _ (by omega)).trans r1
            have uf : ∀ o, w2.frozen? ⟨w.heap.size, o, none⟩ = false := fun o => (hfz _ _ (by omega)).trans (rf o)
            have q0 : w2.cell? ⟨w.heap.size + 1, 0, none⟩ = some (.int .i64 (bAt s 0)) := (hcz _ _ (by omega)).trans p0
            have q1 : w2.cell? ⟨w.heap.size + 1, 1, none⟩ = some (.slice ay cs.length cy) := (hcz _ _ (by omega)).trans p1
            have qf : ∀ o, w2.frozen? ⟨w.heap.size + 1, o, none⟩ = false := fun o => (hfz _ _ (by omega)).trans (pf o)
            have hbw2 : Below w.heap.size w w2 := hb.trans (hb2.mono hb.size)
            have n3 : w.heap.size < w2.heap.size := by omega
            have n4 : w.heap.size < w2.heap.size + 1 := by omega
            have n5 : w.heap.size + 1 < w2.heap.size := by omega
            have n6 : w.heap.size + 1 < w2.heap.size + 1 := by omega
            clear hfz hcz p0 p1 pf r0 r1 rf
            clear hgc
            obtain ⟨i0, hi0, hz0, hz1, hz2⟩ := info_parts Tryz.infoCnt
            have hol := ownsRow_lt hB.own
            have hGl := hB.lt
            have hv4 : Value.ownBlock (.slice ay cs.length cy) ≠ some (w.heap.size + 1) := fun e => by have := (hol _ e).1; omega
            have hv2 : Value.ownBlock (.slice ay cs.length cy) ≠ some w.heap.size := fun e => by have := (hol _ e).1; omega
            have hb4 : Below wr.heap.size wr ((w2.alloc (.cells #[.slice au row.length cu, .int .i64 rn] 112)).alloc (.cells #[.slice au row.length cu, .int .i64 rn] 112)) := by (exact bex); try exact hb2
            have hB4 := hB.below hb4
            have hb24 : Below w2.heap.size w2 ((w2.alloc (.cells #[.slice au row.length cu, .int .i64 rn] 112)).alloc (.cells #[.slice au row.length cu, .int .i64 rn] 112)) := bex
            have hR4 : RowF ((w2.alloc (.cells #[.slice au row.length cu, .int .i64 rn] 112)).alloc (.cells #[.slice au row.length cu, .int .i64 rn] 112)) (.slice au row.length cu) row g := hRF.keep hb24.size fun c hc => hb24.block c (hRF.lt c hc)
            have hO4 : Own ((w2.alloc (.cells #[.slice au row.length cu, .int .i64 rn] 112)).alloc (.cells #[.slice au row.length cu, .int .i64 rn] 112)) (w.heap.size + 1 + 1) g := Own.keep (w := w2) ⟨hOg.1, fun b hb' => by have := hOg.2.1 b hb'; omega, hOg.2.2⟩ fun c hc => hb24.block c (hRF.lt c hc)
            have hnew : ∀ j' u, [Value.slice au row.length cu, Value.int .i64 rn][j']? = some u → ((w2.alloc (.cells #[.slice au row.length cu, .int .i64 rn] 112)).alloc (.cells #[.slice au row.length cu, .int .i64 rn] 112)).cell? ((⟨w2.heap.size + 1, 0, none⟩ : Addr).add j') = some u := by
              intro j' u hu
              match j', hu with
              | 0, hu => simp at hu; subst hu; go_simp
              | 1, hu => simp at hu; subst hu; go_simp
            go_wp2_with (at_builtin; refine wpList_append_own_at _ rfl _ _ 69 rfl (w.heap.size + 1 + 1) 112 i0 _ 2 32 Tryz.underlying69 hi0 hz0 hz1 hz2 rfl (by decide) (.slice ay cs.length cy) cs.length (cc us cs) rfl hB4.own ⟨w2.heap.size + 1, 0, none⟩ 1 1 [.slice au row.length cu, .int .i64 rn] rfl rfl hnew (by simp [Value.oneCell']) ?c3 ?c4 ?c5 ?_)
            case c3 => unfold maxLen; omega
            case c4 => omega
            case c5 => simp; omega
            intro v5 w5 hown5 hgr5 _ hat5
            have hB5 : BagOwn w5 (w.heap.size + 1 + 1) v5 (cs ++ [⟨row, rn⟩]) (us ++ [.slice au row.length cu]) (G ++ [g]) := hB4.push hR4 hO4 (fun b hb1 hb2' => by have := hGl b hb1; have := hOg.2.1 b hb2'; omega) (fun b hb1 hb2' => by have := (hol b hb1).2; have := hOg.2.1 b hb2'; omega) hown5 hgr5 (fun b hb1 => by
              rcases hat5 with e | e
              · left; rw [← e]; exact hb1
              · right; rw [e] at hb1; cases hb1; first | exact Nat.le_refl _ | simp | (simp; omega))
            have hsz5 := hgr5.size
            simp at hsz5
            have A0 : w5.cell? ⟨w.heap.size + 1, 0, none⟩ = some (.int .i64 (bAt s 0)) := (hgr5.cell_far _ (by simp; try omega) (fun e => hv4 e.symm)).trans (by go_simp)
            have A1 : w5.cell? ⟨w.heap.size + 1, 1, none⟩ = some (.slice ay cs.length cy) := (hgr5.cell_far _ (by simp; try omega) (fun e => hv4 e.symm)).trans (by go_simp)
            have Af : ∀ o, w5.frozen? ⟨w.heap.size + 1, o, none⟩ = false := fun o => (hgr5.frozen_far _ (by simp; try omega) (fun e => hv4 e.symm)).trans (by go_simp)
            have D0 : w5.cell? ⟨w.heap.size, 0, none⟩ = some (.int .i64 0) := (hgr5.cell_far _ (by simp; try omega) (fun e => hv2 e.symm)).trans (by go_simp)
            have D1 : w5.cell? ⟨w.heap.size, 1, none⟩ = some (.slice none 0 0) := (hgr5.cell_far _ (by simp; try omega) (fun e => hv2 e.symm)).trans (by go_simp)
            have Df : ∀ o, w5.frozen? ⟨w.heap.size, o, none⟩ = false := fun o => (hgr5.frozen_far _ (by simp; try omega) (fun e => hv2 e.symm)).trans (by go_simp)
            have hbel5 : Below w.heap.size w w5 := (hbw2.trans (hb24.mono (by omega))).grown hgr5 (by simp; omega) (fun k' hk' => by have := (hol _ hk').1; omega)
            obtain ⟨a5, c5, hv5⟩ := hB5.shape
            have hv5' : v5 = .slice a5 (cs.length + 1) c5 := by rw [hv5]; simp
            clear hv5
            subst hv5'
            have m1 : w.heap.size + 1 < w5.heap.size := by omega
            have m2 : w.heap.size < w5.heap.size := by omega
            have hB6 : BagOwn (w5.setCell ⟨w.heap.size + 1, 1, none⟩ (.slice a5 (cs.length + 1) c5)) (w.heap.size + 1 + 1) (.slice a5 (cs.length + 1) c5) (cs ++ [⟨row, rn⟩]) (us ++ [.slice au row.length cu]) (G ++ [g]) := hB5.keep (by simp) fun b hb1 _ => Below.heap_setCell _ _ _ _ (by show b ≠ w.heap.size + 1; omega)
            have hbel6 : Below w.heap.size w (w5.setCell ⟨w.heap.size + 1, 1, none⟩ (.slice a5 (cs.length + 1) c5)) := hbel5.setCell (by show w.heap.size ≤ w.heap.size + 1; omega) _
            clear hown5 hgr5 hB4 hR4 hO4 hB5 hB hRF hOg hat5 hol hGl q0 q1 qf u0 u1 uf hb24 hb4 hnew
            go_wp2_with fail
            refine ⟨⟨n, e, cs ++ [⟨row, rn⟩], .slice a5 (cs.length + 1) c5, us ++ [.slice au row.length cu], G ++ [g], rfl, hes, by omega, by simp; omega, by rw [HR.out, HS.out, HROW.out], ?_, by go_simp, by go_simp, fun o => by go_simp, by go_simp, by go_simp, fun o => by go_simp, hB6, hbel6, by simp; omega⟩, by simp [intOf]; omega⟩
            intro z hz
            rcases List.mem_append.1 hz with hz | hz
            · exact hcw z hz
            · rcases List.mem_singleton.1 hz with rfl
              rw [HROW.out] at hrw
              exact hrw
        · have HN : Hid (ansB s = none) := by
            show ansB s = none
            rw [hA]; unfold resI
            rw [HR.out, runI, if_pos ⟨hltI, h400⟩, if_pos (.inl hk)]
          have hno := getCounted_no s i (bAt s 0) wr hs hk
          go_wp2_with fail
          refine Calls.mono hno ?_
          rintro e w2 ⟨rfl, hb2⟩
          have hzw := hb2.size
          have hfz := (bcell hb2).2
          have hcz := (bcell hb2).1
          have u0 : w2.cell? ⟨w.heap.size, 0, none⟩ = some (.int .i64 0) := (hcz _ _ (by omega)).trans r0
          have u1 : w2.cell? ⟨w.heap.size, 1, none⟩ = some (.slice none 0 0) := (hcz _ _ (by omega)).trans r1
          have uf : ∀ o, w2.frozen? ⟨w.heap.size, o, none⟩ = false := fun o => (hfz _ _ (by omega)).trans (rf o)
          have hbw2 : Below w.heap.size w w2 := hb.trans (hb2.mono hb.size)
          have n3 : w.heap.size < w2.heap.size := by omega
          have n4 : w.heap.size < w2.heap.size + 1 := by omega
          clear hfz hcz hB
          go_wp2_with fail
          refine bodyPost_ret (v := .tuple #[.agg #[.int .i64 0, .slice none 0 0], .bool false]) (by simp [results, Tryz.results101, go_sem, *]) rfl ⟨⟨_, [], [], by rw [(ans_none HN.out).1, (ans_none HN.out).2.2], by rw [(ans_none HN.out).2.1]; exact BagOwn.nil _ _⟩, bex⟩
      · have h400I : decide ((cs.length : Int) ≤ 400) = false := by simp; omega
        have HE : Hid (ansB s = if okBag (bAt s 0) cs = true then some cs else none) := by
          show ansB s = _
          rw [hA]; unfold resI
          rw [HR.out, runI_stop _ _ _ _ _ (by omega)]
        obtain ⟨F, hRs, hOs⟩ := hB.rowsF
        go_wp2_with fail
        refine Calls.mono (implBagOk_any (bAt s 0) (.slice ay cs.length cy) cs wr hcw hRs.is) ?_
        rintro e w2 ⟨rfl, hb2⟩
        have hzw := hb2.size
        have hfz := (bcell hb2).2
        have hcz := (bcell hb2).1
        have u0 : w2.cell? ⟨w.heap.size, 0, none⟩ = some (.int .i64 0) := (hcz _ _ (by omega)).trans r0
        have u1 : w2.cell? ⟨w.heap.size, 1, none⟩ = some (.slice none 0 0) := (hcz _ _ (by omega)).trans r1
        have uf : ∀ o, w2.frozen? ⟨w.heap.size, o, none⟩ = false := fun o => (hfz _ _ (by omega)).trans (rf o)
        have q0 : w2.cell? ⟨w.heap.size + 1, 0, none⟩ = some (.int .i64 (bAt s 0)) := (hcz _ _ (by omega)).trans p0
        have q1 : w2.cell? ⟨w.heap.size + 1, 1, none⟩ = some (.slice ay cs.length cy) := (hcz _ _ (by omega)).trans p1
        have hbw2 : Below w.heap.size w w2 := hb.trans (hb2.mono hb.size)
        have n3 : w.heap.size < w2.heap.size := by omega
        have n5 : w.heap.size + 1 < w2.heap.size := by omega
        have hB2 := hB.below hb2
        clear hfz hcz p0 p1 pf r0 r1 rf hB hRs hOs
        by_cases hok : okBag (bAt s 0) cs = true
        · have HN : Hid (ansB s = some cs) := by show ansB s = some cs; rw [HE.out, if_pos hok]
          go_wp2_with fail
          refine bodyPost_ret (v := .tuple #[.agg #[.int .i64 (bAt s 0), .slice ay cs.length cy], .bool true]) (by simp [results, Tryz.results101, go_sem, *]) rfl ⟨⟨_, us, G, by rw [(ans_some HN.out).1, (ans_some HN.out).2.2], ?_⟩, ?_⟩
          · rw [(ans_some HN.out).2.1]
            refine BagOwn.weak (N := w.heap.size + 1 + 1) (hB2.keep (by simp) fun b hb1 _ => ?_) (by omega)
            repeat rw [Below.heap_setCell _ _ _ _ (by show b ≠ w.heap.size; omega)]
          · repeat (first | (with_reducible exact hbw2) | (with_reducible refine Below.setCell ?_ ?hh _; case hh => (first | (simp; done) | (simp; omega))))
        · have HN : Hid (ansB s = none) := by show ansB s = none; rw [HE.out, if_neg hok]
          replace hok : okBag (bAt s 0) cs = false := by simpa using hok
          clear hB2
          go_wp2_with fail
          refine bodyPost_ret (v := .tuple #[.agg #[.int .i64 0, .slice none 0 0], .bool false]) (by simp [results, Tryz.results101, go_sem, *]) rfl ⟨⟨_, [], [], by rw [(ans_none HN.out).1, (ans_none HN.out).2.2], by rw [(ans_none HN.out).2.1]; exact BagOwn.nil _ _⟩, ?_⟩
          repeat (first | (with_reducible exact hbw2) | (with_reducible refine Below.setCell ?_ ?hh _; case hh => (first | (simp; done) | (simp; omega))))
    · have hltI : decide ((i : Int) < s.size) = false := by simp; omega
      have HE : Hid (ansB s = if okBag (bAt s 0) cs = true then some cs else none) := by
        show ansB s = _
        rw [hA]; unfold resI
        rw [HR.out, runI_stop _ _ _ _ _ (by omega)]
      obtain ⟨F, hRs, hOs⟩ := hB.rowsF
      go_wp2_with fail
      refine Calls.mono (implBagOk_any (bAt s 0) (.slice ay cs.length cy) cs wr hcw hRs.is) ?_
      rintro e w2 ⟨rfl, hb2⟩
      have hzw := hb2.size
      have hfz := (bcell hb2).2
      have hcz := (bcell hb2).1
      have u0 : w2.cell? ⟨w.heap.size, 0, none⟩ = some (.int .i64 0) := (hcz _ _ (by omega)).trans r0
      have u1 : w2.cell? ⟨w.heap.size, 1, none⟩ = some (.slice none 0 0) := (hcz _ _ (by omega)).trans r1
      have uf : ∀ o, w2.frozen? ⟨w.heap.size, o, none⟩ = false := fun o => (hfz _ _ (by omega)).trans (rf o)
      have q0 : w2.cell? ⟨w.heap.size + 1, 0, none⟩ = some (.int .i64 (bAt s 0)) := (hcz _ _ (by omega)).trans p0
      have q1 : w2.cell? ⟨w.heap.size + 1, 1, none⟩ = some (.slice ay cs.length cy) := (hcz _ _ (by omega)).trans p1
      have hbw2 : Below w.heap.size w w2 := hb.trans (hb2.mono hb.size)
      have n3 : w.heap.size < w2.heap.size := by omega
      have n5 : w.heap.size + 1 < w2.heap.size := by omega
      have hB2 := hB.below hb2
      clear hfz hcz p0 p1 pf r0 r1 rf hB hRs hOs
      by_cases hok : okBag (bAt s 0) cs = true
      · have HN : Hid (ansB s = some cs) := by show ansB s = some cs; rw [HE.out, if_pos hok]
        go_wp2_with fail
        refine bodyPost_ret (v := .tuple #[.agg #[.int .i64 (bAt s 0), .slice ay cs.length cy], .bool true]) (by simp [results, Tryz.results101, go_sem, *]) rfl ⟨⟨_, us, G, by rw [(ans_some HN.out).1, (ans_some HN.out).2.2], ?_⟩, ?_⟩
        · rw [(ans_some HN.out).2.1]
          refine BagOwn.weak (N := w.heap.size + 1 + 1) (hB2.keep (by simp) fun b hb1 _ => ?_) (by omega)
          repeat rw [Below.heap_setCell _ _ _ _ (by show b ≠ w.heap.size; omega)]
        · repeat (first | (with_reducible exact hbw2) | (with_reducible refine Below.setCell ?_ ?hh _; case hh => (first | (simp; done) | (simp; omega))))
      · have HN : Hid (ansB s = none) := by show ansB s = none; rw [HE.out, if_neg hok]
        replace hok : okBag (bAt s 0) cs = false := by simpa using hok
        clear hB2
        go_wp2_with fail
        refine bodyPost_ret (v := .tuple #[.agg #[.int .i64 0, .slice none 0 0], .bool false]) (by simp [results, Tryz.results101, go_sem, *]) rfl ⟨⟨_, [], [], by rw [(ans_none HN.out).1, (ans_none HN.out).2.2], by rw [(ans_none HN.out).2.1]; exact BagOwn.nil _ _⟩, ?_⟩
        repeat (first | (with_reducible exact hbw2) | (with_reducible refine Below.setCell ?_ ?hh _; case hh => (first | (simp; done) | (simp; omega))))
end Go.Proofs.YtbmoimfimeiglaaGreat
